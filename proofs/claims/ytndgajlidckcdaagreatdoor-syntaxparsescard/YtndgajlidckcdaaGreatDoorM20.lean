/- A part. -/
import Derived.Test.YtndgajlidckcdaaGreatDoorM19
open Go.Proofs.Tryz
namespace Go.Proofs.YtndgajlidckcdaaGreatDoor
open Go.RowKit
set_option linter.unusedVariables false
set_option linter.unusedSimpArgs false
set_option maxRecDepth 100000
set_option maxHeartbeats 8000000
theorem asw {R:Wr} {f D:Nat} (hW:WB R f D) {w:World} (hg:SG w) {b d:Nat} {t:Tree} (hn:Nd w b t) (hx:Wx t) (hm:t.many≤f+1) (hd:d+1≤D) (hk:t.kind=2) :
  Calls prog 79 #[.agg #[.int .i64 d],.pointer (some ⟨b,0,none⟩)] w fun e w'=>e=.returned (.string (aad R d t))∧Add w w':=by
 obtain⟨ksx,hvx⟩:=hn.view
 have c0:=hvx.c0
 rw[hk] at c0
 obtain⟨fs,ms,ek,_,h3,h4⟩:=(show ∃fs ms,t.kids=fs++ms∧fs.length≤8∧(∀k∈fs,k.kind=3)∧∀k∈ms,k.kind=4 by have:=hx.here.2;rw[hk] at this;exact this)
 obtain⟨v,c5,rv⟩:=hn.kids
 have hso:akt f t.kids:=fun k hk'=>⟨hx.kid hk',by
  rw[ek] at hk'
  rcases List.mem_append.1 hk' with q | q
  ·exact Or.inr (Or.inr (Or.inl (h3 k q)))
  ·exact Or.inr (Or.inr (Or.inr (Or.inl (h4 k q)))),acr hm hk'⟩
 have hu:=(abf hx.here.1).2
 have c1:=hvx.c1
 have ht:=(abf hx.here.1).1
 have HC0:=zb fun (w1:World) (ha:Add w w1)=>bcn (hn.add ha) hu
 have HC1:=zb fun (w1:World) (ha:Add w w1)=>agh hW (hg.add ha) (d:=d) (rv.add ha) hso (ac5 hW.f hm) hd
 have hz0:(afp t).size≤40:=by
  unfold afp
  split
  ·decide
  ·simp only[ByteArray.size_append,bsz,List.size_toArray,List.length_cons,List.length_nil];omega
 have hz1:(aby R d t.kids).size≤40000000:=by
  have h1:=ajd (R:=R) (d:=d) (l:=t.kids) (by have:=hW.D;omega) fun k hk'=>hW.len.s k (d+1) (hso k hk').1 (hso k hk').2.1 (hso k hk').2.2 hd
  have:=ac5 hW.f hm
  omega
 have ha0:=qE w d
 have q0:=qD w d
 have c0':=ha0.cellk c0
 have c1':=ha0.cellk c1
 have c5':=ha0.cellk c5
 have HX:=zb (show aad R d t=((((⟨#[99,108,97,115,115,32]⟩++t.text)++afp t)++⟨#[32]⟩)++aby R d t.kids) by unfold aad;rw[hk,if_pos rfl])
 have HA:=zb ha0
 clear hn hx hm hd hg hW ha0 hvx c0 rv hso h3 h4 ek hu c1 c5
 generalize afp t=X0 at *
 generalize aby R d t.kids=X1 at *
 go_enter func79,ntmps79
 go_wp2_with fail
 generalize w.alloc (.cells #[.int .i64 d] 89)=wb at *
 have ent0:∀w:World,Sem.run prog (callFunc 128 #[.pointer (some ⟨b,0,none⟩)]) w=.ok (.enter 128 #[.pointer (some ⟨b,0,none⟩)]) w:=fun _=>by kernel_rfl
 have ent1:∀w:World,Sem.run prog (callFunc 129 #[.agg #[.int .i64 d],v]) w=.ok (.enter 129 #[.agg #[.int .i64 d],v]) w:=fun _=>by kernel_rfl
 refine wp_region_held_drew (S:=fun w'=>w'.cell? ⟨w.heap.size,0,none⟩=some (.int .i64 d)∧w'.cell? ⟨b,1,none⟩=some (.string t.text)∧w'.cell? ⟨b,5,none⟩=some (v)∧Hid (Add w w')) (by kernel_rfl) ⟨q0,c1',c5',(za HA).drew⟩ (fun hHeld=>?_)
 refine tka 0 11 rfl ?_
 refine tka 1 12 rfl ?_
 refine tka 2 13 rfl ?_
 refine tka 3 14 rfl ?_
 refine tkb 4 15 rfl ?_
 refine tka 5 16 rfl ?_
 refine tka 9 20 rfl ?_
 refine tka 10 21 rfl ?_
 simp only[sA,sB,sC]
 refine tka 11 22 rfl ?_
 refine tka 12 23 rfl ?_
 refine tka 13 24 rfl ?_
 simp only[sA,sB,sC]
 refine wpAnyH_ready (rs:=[6]) (by kernel_rfl) (by simp) ?_
 refine AllReadyH.cons (o:={ dst:=some 17,op:=_,type:=_,pos:=_,after:=_,guard:=_ }) rfl (fun K hK=>?_) AllReadyH.nil
 refine zm (by kernel_rfl) (by simp[Act.eval,ent0,go_sem]) ((za HC0 _ (za hHeld.2.2.2)).mono ?_)
 rintro e wc0 ⟨rfl,hac0⟩
 refine hK.out _ _ ⟨hac0.cellk hHeld.1,hac0.cellk hHeld.2.1,hac0.cellk hHeld.2.2.1,(za hHeld.2.2.2).tr hac0⟩ (fun hHeld6=>?_)
 clear hK K
 simp only[Act.put,sA,sB,sC]
 refine tkb 7 18 rfl ?_
 refine tkb 8 19 rfl ?_
 simp only[sA,sB,sC]
 refine wpAnyH_ready (rs:=[14]) (by kernel_rfl) (by simp) ?_
 refine AllReadyH.cons (o:={ dst:=some 25,op:=_,type:=_,pos:=_,after:=_,guard:=_ }) rfl (fun K hK=>?_) AllReadyH.nil
 refine zm (by kernel_rfl) (by simp[Act.eval,ent1,go_sem]) ((za HC1 _ (za hHeld6.2.2.2)).mono ?_)
 rintro e wc1 ⟨rfl,hac1⟩
 refine hK.out _ _ ⟨hac1.cellk hHeld6.1,hac1.cellk hHeld6.2.1,hac1.cellk hHeld6.2.2.1,(za hHeld6.2.2.2).tr hac1⟩ (fun hHeld14=>?_)
 clear hK K
 simp only[Act.put,sA,sB,sC]
 refine tkb 15 26 rfl ?_
 refine tka 16 4 rfl ?_
 simp only[sA,sB,sC]
 refine wpAnyH_done (by kernel_rfl) ?_ _
 go_wp2_with fail
 go_ret
 rw[za HX]
 exact⟨rfl,(za hHeld14.2.2.2)⟩
theorem asx {R:Wr} {f D:Nat} (hW:WB R f D) {w:World} (hg:SG w) {b d:Nat} {t:Tree} (hn:Nd w b t) (hx:Wx t) (hm:t.many≤f+1) (hd:d+1≤D) (hk:t.kind=3) :
  Calls prog 79 #[.agg #[.int .i64 d],.pointer (some ⟨b,0,none⟩)] w fun e w'=>e=.returned (.string (aad R d t))∧Add w w':=by
 obtain⟨ksx,hvx⟩:=hn.view
 have c0:=hvx.c0
 rw[hk] at c0
 have c1:=hvx.c1
 have ht:=(abf hx.here.1).1
 have ha0:=qE w d
 have q0:=qD w d
 have c0':=ha0.cellk c0
 have c1':=ha0.cellk c1
 have HX:=zb (show aad R d t=((⟨#[102,105,101,108,100,32]⟩++t.text)++⟨#[59]⟩) by unfold aad;rw[hk,if_neg (by decide),if_pos rfl])
 have HA:=zb ha0
 clear hn hx hm hd hg hW ha0 hvx c0  c1
 go_enter func79,ntmps79
 go_wp2_with fail
 go_ret
 rw[za HX]
 exact⟨rfl,za HA⟩
theorem aqx {R:Wr} {f D:Nat} (hW:WB R f D) {w:World} (hg:SG w) {b d:Nat} {t:Tree} (hn:Nd w b t) (hx:Wx t) (hm:t.many≤f+1) (hd:d+1≤D) (hk:t.kind=4) :
  Calls prog 79 #[.agg #[.int .i64 d],.pointer (some ⟨b,0,none⟩)] w fun e w'=>e=.returned (.string (aad R d t))∧Add w w':=by
 obtain⟨ksx,hvx⟩:=hn.view
 have c0:=hvx.c0
 rw[hk] at c0
 have hc:ahq 2 t.kids:=by have:=hx.here.2;rw[hk] at this;exact this
 have c1:=hvx.c1
 have ht:=(abf hx.here.1).1
 have HC0:=zb fun (w1:World) (ha:Add w w1)=>aje hW (hg.add ha) (d:=d) (hn.add ha) hx hm hd hc
 have hz0:=asv hW hx hm hd hc
 have ha0:=qE w d
 have q0:=qD w d
 have c0':=ha0.cellk c0
 have c1':=ha0.cellk c1
 have HX:=zb (show aad R d t=(t.text++afo R d t) by unfold aad;rw[hk,if_neg (by decide),if_neg (by decide),if_pos rfl])
 have HA:=zb ha0
 clear hn hx hm hd hg hW ha0 hvx c0 hc c1
 generalize afo R d t=X0 at *
 go_enter func79,ntmps79
 go_wp2_with fail
 generalize w.alloc (.cells #[.int .i64 d] 89)=wb at *
 have ent0:∀w:World,Sem.run prog (callFunc 130 #[.agg #[.int .i64 d],.pointer (some ⟨b,0,none⟩)]) w=.ok (.enter 130 #[.agg #[.int .i64 d],.pointer (some ⟨b,0,none⟩)]) w:=fun _=>by kernel_rfl
 refine wp_region_held_drew (S:=fun w'=>w'.cell? ⟨w.heap.size,0,none⟩=some (.int .i64 d)∧w'.cell? ⟨b,1,none⟩=some (.string t.text)∧Hid (Add w w')) (by kernel_rfl) ⟨q0,c1',(za HA).drew⟩ (fun hHeld=>?_)
 refine tka 0 37 rfl ?_
 refine tka 1 38 rfl ?_
 refine tka 2 39 rfl ?_
 refine tka 3 40 rfl ?_
 refine tka 4 41 rfl ?_
 refine tka 5 42 rfl ?_
 simp only[sA,sB,sC]
 refine wpAnyH_ready (rs:=[6]) (by kernel_rfl) (by simp) ?_
 refine AllReadyH.cons (o:={ dst:=some 43,op:=_,type:=_,pos:=_,after:=_,guard:=_ }) rfl (fun K hK=>?_) AllReadyH.nil
 refine zm (by kernel_rfl) (by simp[Act.eval,ent0,go_sem]) ((za HC0 _ (za hHeld.2.2)).mono ?_)
 rintro e wc0 ⟨rfl,hac0⟩
 refine hK.out _ _ ⟨hac0.cellk hHeld.1,hac0.cellk hHeld.2.1,(za hHeld.2.2).tr hac0⟩ (fun hHeld6=>?_)
 clear hK K
 simp only[Act.put,sA,sB,sC]
 refine tkb 7 44 rfl ?_
 refine tka 8 4 rfl ?_
 simp only[sA,sB,sC]
 refine wpAnyH_done (by kernel_rfl) ?_ _
 go_wp2_with fail
 go_ret
 rw[za HX]
 exact⟨rfl,(za hHeld6.2.2)⟩
theorem azo {R:Wr} {f D:Nat} (hW:WB R f D) {w:World} (hg:SG w) {b d:Nat} {t:Tree} (hn:Nd w b t) (hx:Wx t) (hm:t.many≤f+1) (hd:d+1≤D) (hk:t.kind=5) :
  Calls prog 79 #[.agg #[.int .i64 d],.pointer (some ⟨b,0,none⟩)] w fun e w'=>e=.returned (.string (aad R d t))∧Add w w':=by
 obtain⟨ksx,hvx⟩:=hn.view
 have c0:=hvx.c0
 rw[hk] at c0
 have hc:ahq 2 t.kids:=by have:=hx.here.2;rw[hk] at this;exact this
 have c1:=hvx.c1
 have ht:=(abf hx.here.1).1
 have HC0:=zb fun (w1:World) (ha:Add w w1)=>aje hW (hg.add ha) (d:=d) (hn.add ha) hx hm hd hc
 have hz0:=asv hW hx hm hd hc
 have ha0:=qE w d
 have q0:=qD w d
 have c0':=ha0.cellk c0
 have c1':=ha0.cellk c1
 have HX:=zb (show aad R d t=((⟨#[102,110,32]⟩++t.text)++afo R d t) by unfold aad;rw[hk,if_neg (by decide),if_neg (by decide),if_neg (by decide),if_pos rfl])
 have HA:=zb ha0
 clear hn hx hm hd hg hW ha0 hvx c0 hc c1
 generalize afo R d t=X0 at *
 go_enter func79,ntmps79
 go_wp2_with fail
 generalize w.alloc (.cells #[.int .i64 d] 89)=wb at *
 have ent0:∀w:World,Sem.run prog (callFunc 130 #[.agg #[.int .i64 d],.pointer (some ⟨b,0,none⟩)]) w=.ok (.enter 130 #[.agg #[.int .i64 d],.pointer (some ⟨b,0,none⟩)]) w:=fun _=>by kernel_rfl
 refine wp_region_held_drew (S:=fun w'=>w'.cell? ⟨w.heap.size,0,none⟩=some (.int .i64 d)∧w'.cell? ⟨b,1,none⟩=some (.string t.text)∧Hid (Add w w')) (by kernel_rfl) ⟨q0,c1',(za HA).drew⟩ (fun hHeld=>?_)
 refine tka 0 47 rfl ?_
 refine tka 1 48 rfl ?_
 refine tka 2 49 rfl ?_
 refine tka 3 50 rfl ?_
 refine tkb 4 51 rfl ?_
 refine tka 5 52 rfl ?_
 refine tka 6 53 rfl ?_
 simp only[sA,sB,sC]
 refine wpAnyH_ready (rs:=[7]) (by kernel_rfl) (by simp) ?_
 refine AllReadyH.cons (o:={ dst:=some 54,op:=_,type:=_,pos:=_,after:=_,guard:=_ }) rfl (fun K hK=>?_) AllReadyH.nil
 refine zm (by kernel_rfl) (by simp[Act.eval,ent0,go_sem]) ((za HC0 _ (za hHeld.2.2)).mono ?_)
 rintro e wc0 ⟨rfl,hac0⟩
 refine hK.out _ _ ⟨hac0.cellk hHeld.1,hac0.cellk hHeld.2.1,(za hHeld.2.2).tr hac0⟩ (fun hHeld7=>?_)
 clear hK K
 simp only[Act.put,sA,sB,sC]
 refine tkb 8 55 rfl ?_
 refine tka 9 4 rfl ?_
 simp only[sA,sB,sC]
 refine wpAnyH_done (by kernel_rfl) ?_ _
 go_wp2_with fail
 go_ret
 rw[za HX]
 exact⟨rfl,(za hHeld7.2.2)⟩
theorem aw4 {R:Wr} {f D:Nat} (hW:WB R f D) {w:World} (hg:SG w) {b d:Nat} {t:Tree} (hn:Nd w b t) (hx:Wx t) (hm:t.many≤f+1) (hd:d+1≤D) (hk:t.kind=8) :
  Calls prog 79 #[.agg #[.int .i64 d],.pointer (some ⟨b,0,none⟩)] w fun e w'=>e=.returned (.string (aad R d t))∧Add w w':=by
 obtain⟨ksx,hvx⟩:=hn.view
 have c0:=hvx.c0
 rw[hk] at c0
 obtain⟨c,ek,hv⟩:=(show ∃a,t.kids=[a]∧vK a by have:=hx.here.2;rw[hk] at this;exact this)
 obtain⟨g,cap,k0,hcap,hmx,c5,g0,n0,hrest⟩:=hn.one ek
 have c5:w.cell? ⟨b,5,none⟩=some (.slice (some ⟨g,0,none⟩) 1 cap):=c5
 have oc:=adc hx hm (k:=c) (by rw[ek];simp) hv
 have c1:=hvx.c1
 have ht:=(abf hx.here.1).1
 have HC0:=zb fun (w1:World) (ha:Add w w1)=>ae4 hW (hg.add ha) (d:=d) (n0.add ha) oc.1 oc.2.1 oc.2.2 (Nat.le_of_succ_le hd)
 have hz0:=ads hW hx hm hd (k:=c) (by rw[ek];simp) hv 1
 have ha0:=qE w d
 have q0:=qD w d
 have c0':=ha0.cellk c0
 have c1':=ha0.cellk c1
 have c5':=ha0.cellk c5
 have g0':=ha0.cellk g0
 have HX:=zb (show aad R d t=((((⟨#[118,97,114,32]⟩++t.text)++⟨#[32,61,32]⟩)++zu R d 1 c)++⟨#[59]⟩) by unfold aad;rw[hk,if_neg (by decide),if_neg (by decide),if_neg (by decide),if_neg (by decide),if_pos rfl,aa3 ek])
 have HA:=zb ha0
 clear hn hx hm hd hg hW ha0 hvx c0 n0 hrest oc c1 c5 g0
 generalize zu R d 1 c=X0 at *
 go_enter func79,ntmps79
 go_wp2_with fail
 generalize w.alloc (.cells #[.int .i64 d] 89)=wb at *
 have ent0:∀w:World,Sem.run prog (callFunc 131 #[.agg #[.int .i64 d],.pointer (some ⟨k0,0,none⟩)]) w=.ok (.enter 131 #[.agg #[.int .i64 d],.pointer (some ⟨k0,0,none⟩)]) w:=fun _=>by kernel_rfl
 refine wp_region_held_drew (S:=fun w'=>w'.cell? ⟨w.heap.size,0,none⟩=some (.int .i64 d)∧w'.cell? ⟨b,1,none⟩=some (.string t.text)∧w'.cell? ⟨b,5,none⟩=some (.slice (some ⟨g,0,none⟩) 1 cap)∧w'.cell? ⟨g,0,none⟩=some (.pointer (some ⟨k0,0,none⟩))∧Hid (Add w w')) (by kernel_rfl) ⟨q0,c1',c5',g0',(za HA).drew⟩ (fun hHeld=>?_)
 refine tka 0 58 rfl ?_
 refine tka 1 59 rfl ?_
 refine tka 2 60 rfl ?_
 refine tka 3 61 rfl ?_
 refine tkb 4 62 rfl ?_
 refine tkb 5 63 rfl ?_
 refine tka 6 64 rfl ?_
 refine tka 7 65 rfl ?_
 simp only[sA,sB,sC]
 refine tka 8 66 rfl ?_
 refine tka 9 67 rfl ?_
 refine tka 10 68 rfl ?_
 refine tka 11 69 rfl ?_
 refine tka 12 70 rfl ?_
 simp only[sA,sB,sC]
 refine wpAnyH_ready (rs:=[13]) (by kernel_rfl) (by simp) ?_
 refine AllReadyH.cons (o:={ dst:=some 71,op:=_,type:=_,pos:=_,after:=_,guard:=_ }) rfl (fun K hK=>?_) AllReadyH.nil
 refine zm (by kernel_rfl) (by simp[Act.eval,ent0,go_sem]) ((za HC0 _ (za hHeld.2.2.2.2)).mono ?_)
 rintro e wc0 ⟨rfl,hac0⟩
 refine hK.out _ _ ⟨hac0.cellk hHeld.1,hac0.cellk hHeld.2.1,hac0.cellk hHeld.2.2.1,hac0.cellk hHeld.2.2.2.1,(za hHeld.2.2.2.2).tr hac0⟩ (fun hHeld13=>?_)
 clear hK K
 simp only[Act.put,sA,sB,sC]
 refine tkb 14 72 rfl ?_
 refine tkb 15 73 rfl ?_
 refine tka 16 4 rfl ?_
 simp only[sA,sB,sC]
 refine wpAnyH_done (by kernel_rfl) ?_ _
 go_wp2_with fail
 go_ret
 rw[za HX]
 exact⟨rfl,(za hHeld13.2.2.2.2)⟩
theorem aw5 {R:Wr} {f D:Nat} (hW:WB R f D) {w:World} (hg:SG w) {b d:Nat} {t:Tree} (hn:Nd w b t) (hx:Wx t) (hm:t.many≤f+1) (hd:d+1≤D) (hk:t.kind=9) :
  Calls prog 79 #[.agg #[.int .i64 d],.pointer (some ⟨b,0,none⟩)] w fun e w'=>e=.returned (.string (aad R d t))∧Add w w':=by
 obtain⟨ksx,hvx⟩:=hn.view
 have c0:=hvx.c0
 rw[hk] at c0
 obtain⟨c,c2,ek,hv,hv2,_⟩:=(show ∃a b,t.kids=[a,b]∧vK a∧vK b∧adm a.kind=true by have:=hx.here.2;rw[hk] at this;exact this)
 obtain⟨g,cap,k0,hcap,hmx,c5,g0,n0,hrest⟩:=hn.one ek
 obtain⟨k1,g1,n1⟩:=hrest 0 _ rfl
 have c5:w.cell? ⟨b,5,none⟩=some (.slice (some ⟨g,0,none⟩) 2 cap):=c5
 have oc:=adc hx hm (k:=c2) (by rw[ek];simp) hv2
 have HC0:=zb fun (w1:World) (ha:Add w w1)=>asr hW (hg.add ha) (d:=d) (hn.add ha) hx hm hd ek hv
 have HC1:=zb fun (w1:World) (ha:Add w w1)=>ae4 hW (hg.add ha) (d:=d) (n1.add ha) oc.1 oc.2.1 oc.2.2 (Nat.le_of_succ_le hd)
 have hz0:(ada R d t).size≤40000000:=by
  have:=agf (aa3 ek) (ab3 hW.len hx hm hd (k:=c) (by rw[ek];simp) hv)
  have:=acr hm (k:=c) (by rw[ek];simp)
  have:=hW.f
  omega
 have hz1:=ads hW hx hm hd (k:=c2) (by rw[ek];simp) hv2 1
 have ha0:=qE w d
 have q0:=qD w d
 have c0':=ha0.cellk c0
 have c5':=ha0.cellk c5
 have g1':=ha0.cellk g1
 have HX:=zb (show aad R d t=(((ada R d t++⟨#[32,61,32]⟩)++zu R d 1 c2)++⟨#[59]⟩) by unfold aad;rw[hk,if_neg (by decide),if_neg (by decide),if_neg (by decide),if_neg (by decide),if_neg (by decide),if_pos rfl,aeu ek])
 have HA:=zb ha0
 clear hn hx hm hd hg hW ha0 hvx c0 n0 n1 hrest oc g0 c5 g1
 generalize ada R d t=X0 at *
 generalize zu R d 1 c2=X1 at *
 go_enter func79,ntmps79
 go_wp2_with fail
 generalize w.alloc (.cells #[.int .i64 d] 89)=wb at *
 have ent0:∀w:World,Sem.run prog (callFunc 132 #[.agg #[.int .i64 d],.pointer (some ⟨b,0,none⟩)]) w=.ok (.enter 132 #[.agg #[.int .i64 d],.pointer (some ⟨b,0,none⟩)]) w:=fun _=>by kernel_rfl
 have ent1:∀w:World,Sem.run prog (callFunc 131 #[.agg #[.int .i64 d],.pointer (some ⟨k1,0,none⟩)]) w=.ok (.enter 131 #[.agg #[.int .i64 d],.pointer (some ⟨k1,0,none⟩)]) w:=fun _=>by kernel_rfl
 refine wp_region_held_drew (S:=fun w'=>w'.cell? ⟨w.heap.size,0,none⟩=some (.int .i64 d)∧w'.cell? ⟨b,5,none⟩=some (.slice (some ⟨g,0,none⟩) 2 cap)∧w'.cell? ⟨g,1,none⟩=some (.pointer (some ⟨k1,0,none⟩))∧Hid (Add w w')) (by kernel_rfl) ⟨q0,c5',g1',(za HA).drew⟩ (fun hHeld=>?_)
 refine tka 0 76 rfl ?_
 refine tka 1 77 rfl ?_
 refine tka 4 80 rfl ?_
 refine tka 5 81 rfl ?_
 refine tka 6 82 rfl ?_
 refine tka 7 83 rfl ?_
 refine tka 8 84 rfl ?_
 refine tka 9 85 rfl ?_
 simp only[sA,sB,sC]
 refine tka 10 86 rfl ?_
 simp only[sA,sB,sC]
 refine wpAnyH_ready (rs:=[2]) (by kernel_rfl) (by simp) ?_
 refine AllReadyH.cons (o:={ dst:=some 78,op:=_,type:=_,pos:=_,after:=_,guard:=_ }) rfl (fun K hK=>?_) AllReadyH.nil
 refine zm (by kernel_rfl) (by simp[Act.eval,ent0,go_sem]) ((za HC0 _ (za hHeld.2.2.2)).mono ?_)
 rintro e wc0 ⟨rfl,hac0⟩
 refine hK.out _ _ ⟨hac0.cellk hHeld.1,hac0.cellk hHeld.2.1,hac0.cellk hHeld.2.2.1,(za hHeld.2.2.2).tr hac0⟩ (fun hHeld2=>?_)
 clear hK K
 simp only[Act.put,sA,sB,sC]
 refine tkb 3 79 rfl ?_
 simp only[sA,sB,sC]
 refine wpAnyH_ready (rs:=[11]) (by kernel_rfl) (by simp) ?_
 refine AllReadyH.cons (o:={ dst:=some 87,op:=_,type:=_,pos:=_,after:=_,guard:=_ }) rfl (fun K hK=>?_) AllReadyH.nil
 refine zm (by kernel_rfl) (by simp[Act.eval,ent1,go_sem]) ((za HC1 _ (za hHeld2.2.2.2)).mono ?_)
 rintro e wc1 ⟨rfl,hac1⟩
 refine hK.out _ _ ⟨hac1.cellk hHeld2.1,hac1.cellk hHeld2.2.1,hac1.cellk hHeld2.2.2.1,(za hHeld2.2.2.2).tr hac1⟩ (fun hHeld11=>?_)
 clear hK K
 simp only[Act.put,sA,sB,sC]
 refine tkb 12 88 rfl ?_
 refine tkb 13 89 rfl ?_
 refine tka 14 4 rfl ?_
 simp only[sA,sB,sC]
 refine wpAnyH_done (by kernel_rfl) ?_ _
 go_wp2_with fail
 go_ret
 rw[za HX]
 exact⟨rfl,(za hHeld11.2.2.2)⟩
theorem aqy {R:Wr} {f D:Nat} (hW:WB R f D) {w:World} (hg:SG w) {b d:Nat} {t:Tree} (hn:Nd w b t) (hx:Wx t) (hm:t.many≤f+1) (hd:d+1≤D) (hk:t.kind=10) {c bl:Tree} (ek:t.kids=[c,bl]) (hv:vK c) (h7:bl.kind=7) :
  Calls prog 79 #[.agg #[.int .i64 d],.pointer (some ⟨b,0,none⟩)] w fun e w'=>e=.returned (.string (aad R d t))∧Add w w':=by
 obtain⟨ksx,hvx⟩:=hn.view
 have c0:=hvx.c0
 rw[hk] at c0
 have HC0:=zb fun (w1:World) (ha:Add w w1)=>aqr hW (hg.add ha) (d:=d) (hn.add ha) hx hm hd ek hv h7
 have ha0:=qE w d
 have q0:=qD w d
 have c0':=ha0.cellk c0
 have HX:=zb (show aad R d t=xIf R d t by unfold aad;rw[hk,if_neg (by decide),if_neg (by decide),if_neg (by decide),if_neg (by decide),if_neg (by decide),if_neg (by decide),if_pos rfl])
 have HA:=zb ha0
 clear hn hx hm hd hg hW ha0 hvx c0  
 generalize xIf R d t=X0 at *
 go_enter func79,ntmps79
 go_wp2_with fail
 refine(za HC0 _ (za HA)).mono ?_
 rintro e wc0 ⟨rfl,hac0⟩
 have HAC0:=zb ((za HA).tr hac0)
 clear hac0
 go_wp2_with fail
 go_ret
 rw[za HX]
 exact⟨rfl,za HAC0⟩
theorem ans {R:Wr} {f D:Nat} (hW:WB R f D) {w:World} (hg:SG w) {b d:Nat} {t:Tree} (hn:Nd w b t) (hx:Wx t) (hm:t.many≤f+1) (hd:d+1≤D) (hk:t.kind=10) {c bl el:Tree} (ek:t.kids=[c,bl,el]) (hv:vK c) (h7:bl.kind=7) (he:el.kind=7) :
  Calls prog 79 #[.agg #[.int .i64 d],.pointer (some ⟨b,0,none⟩)] w fun e w'=>e=.returned (.string (aad R d t))∧Add w w':=by
 obtain⟨ksx,hvx⟩:=hn.view
 have c0:=hvx.c0
 rw[hk] at c0
 have HC0:=zb fun (w1:World) (ha:Add w w1)=>ann hW (hg.add ha) (d:=d) (hn.add ha) hx hm hd ek hv h7 he
 have ha0:=qE w d
 have q0:=qD w d
 have c0':=ha0.cellk c0
 have HX:=zb (show aad R d t=xIf R d t by unfold aad;rw[hk,if_neg (by decide),if_neg (by decide),if_neg (by decide),if_neg (by decide),if_neg (by decide),if_neg (by decide),if_pos rfl])
 have HA:=zb ha0
 clear hn hx hm hd hg hW ha0 hvx c0  
 generalize xIf R d t=X0 at *
 go_enter func79,ntmps79
 go_wp2_with fail
 refine(za HC0 _ (za HA)).mono ?_
 rintro e wc0 ⟨rfl,hac0⟩
 have HAC0:=zb ((za HA).tr hac0)
 clear hac0
 go_wp2_with fail
 go_ret
 rw[za HX]
 exact⟨rfl,za HAC0⟩
theorem asy {R:Wr} {f D:Nat} (hW:WB R f D) {w:World} (hg:SG w) {b d:Nat} {t:Tree} (hn:Nd w b t) (hx:Wx t) (hm:t.many≤f+1) (hd:d+1≤D) (hk:t.kind=11) :
  Calls prog 79 #[.agg #[.int .i64 d],.pointer (some ⟨b,0,none⟩)] w fun e w'=>e=.returned (.string (aad R d t))∧Add w w':=by
 obtain⟨ksx,hvx⟩:=hn.view
 have c0:=hvx.c0
 rw[hk] at c0
 obtain⟨c,bl,ek,hv,h7⟩:=(show ∃c b,t.kids=[c,b]∧vK c∧b.kind=7 by have:=hx.here.2;rw[hk] at this;exact this)
 have HC0:=zb fun (w1:World) (ha:Add w w1)=>aj5 hW (hg.add ha) (d:=d) (hn.add ha) hx hm hd ek hv h7
 have hz0:(adi R d t).size≤100000000:=by
  have a1:=ads hW hx hm hd (k:=c) (by rw[ek];simp) hv 1
  have a2:=ai1 hW hx hm hd (p:=bl) (by rw[ek];simp) h7
  unfold adi
  rw[aa3 ek,aeu ek]
  simp only[ByteArray.size_append,bsz,List.size_toArray,List.length_cons,List.length_nil]
  omega
 have ha0:=qE w d
 have q0:=qD w d
 have c0':=ha0.cellk c0
 have HX:=zb (show aad R d t=(⟨#[119,104,105,108,101,32]⟩++adi R d t) by unfold aad;rw[hk,if_neg (by decide),if_neg (by decide),if_neg (by decide),if_neg (by decide),if_neg (by decide),if_neg (by decide),if_neg (by decide),if_pos rfl])
 have HA:=zb ha0
 clear hn hx hm hd hg hW ha0 hvx c0  
 generalize adi R d t=X0 at *
 go_enter func79,ntmps79
 go_wp2_with fail
 refine(za HC0 _ (za HA)).mono ?_
 rintro e wc0 ⟨rfl,hac0⟩
 have HAC0:=zb ((za HA).tr hac0)
 clear hac0
 go_wp2_with fail
 go_ret
 rw[za HX]
 exact⟨rfl,za HAC0⟩
theorem akw {R:Wr} {f D:Nat} (hW:WB R f D) {w:World} (hg:SG w) {b d:Nat} {t:Tree} (hn:Nd w b t) (hx:Wx t) (hm:t.many≤f+1) (hd:d+1≤D) (hk:t.kind=12) (ek:t.kids=[]) :
  Calls prog 79 #[.agg #[.int .i64 d],.pointer (some ⟨b,0,none⟩)] w fun e w'=>e=.returned (.string (aad R d t))∧Add w w':=by
 obtain⟨ksx,hvx⟩:=hn.view
 have c0:=hvx.c0
 rw[hk] at c0
 have HC0:=zb fun (w1:World) (ha:Add w w1)=>amh hW (hg.add ha) (d:=d) (hn.add ha) hx hm hd ek
 have ha0:=qE w d
 have q0:=qD w d
 have c0':=ha0.cellk c0
 have HX:=zb (show aad R d t=ahb R d t by unfold aad;rw[hk,if_neg (by decide),if_neg (by decide),if_neg (by decide),if_neg (by decide),if_neg (by decide),if_neg (by decide),if_neg (by decide),if_neg (by decide),if_pos rfl])
 have HA:=zb ha0
 clear hn hx hm hd hg hW ha0 hvx c0  
 generalize ahb R d t=X0 at *
 go_enter func79,ntmps79
 go_wp2_with fail
 refine(za HC0 _ (za HA)).mono ?_
 rintro e wc0 ⟨rfl,hac0⟩
 have HAC0:=zb ((za HA).tr hac0)
 clear hac0
 go_wp2_with fail
 go_ret
 rw[za HX]
 exact⟨rfl,za HAC0⟩
theorem alm {R:Wr} {f D:Nat} (hW:WB R f D) {w:World} (hg:SG w) {b d:Nat} {t:Tree} (hn:Nd w b t) (hx:Wx t) (hm:t.many≤f+1) (hd:d+1≤D) (hk:t.kind=12) {c:Tree} (ek:t.kids=[c]) (hv:vK c) :
  Calls prog 79 #[.agg #[.int .i64 d],.pointer (some ⟨b,0,none⟩)] w fun e w'=>e=.returned (.string (aad R d t))∧Add w w':=by
 obtain⟨ksx,hvx⟩:=hn.view
 have c0:=hvx.c0
 rw[hk] at c0
 have HC0:=zb fun (w1:World) (ha:Add w w1)=>anm hW (hg.add ha) (d:=d) (hn.add ha) hx hm hd ek hv
 have ha0:=qE w d
 have q0:=qD w d
 have c0':=ha0.cellk c0
 have HX:=zb (show aad R d t=ahb R d t by unfold aad;rw[hk,if_neg (by decide),if_neg (by decide),if_neg (by decide),if_neg (by decide),if_neg (by decide),if_neg (by decide),if_neg (by decide),if_neg (by decide),if_pos rfl])
 have HA:=zb ha0
 clear hn hx hm hd hg hW ha0 hvx c0  
 generalize ahb R d t=X0 at *
 go_enter func79,ntmps79
 go_wp2_with fail
 refine(za HC0 _ (za HA)).mono ?_
 rintro e wc0 ⟨rfl,hac0⟩
 have HAC0:=zb ((za HA).tr hac0)
 clear hac0
 go_wp2_with fail
 go_ret
 rw[za HX]
 exact⟨rfl,za HAC0⟩
theorem asz {R:Wr} {f D:Nat} (hW:WB R f D) {w:World} (hg:SG w) {b d:Nat} {t:Tree} (hn:Nd w b t) (hx:Wx t) (hm:t.many≤f+1) (hd:d+1≤D) (hk:t.kind=13) :
  Calls prog 79 #[.agg #[.int .i64 d],.pointer (some ⟨b,0,none⟩)] w fun e w'=>e=.returned (.string (aad R d t))∧Add w w':=by
 obtain⟨ksx,hvx⟩:=hn.view
 have c0:=hvx.c0
 rw[hk] at c0
 obtain⟨c,ek,hv⟩:=(show ∃a,t.kids=[a]∧vK a by have:=hx.here.2;rw[hk] at this;exact this)
 obtain⟨g,cap,k0,hcap,hmx,c5,g0,n0,hrest⟩:=hn.one ek
 have c5:w.cell? ⟨b,5,none⟩=some (.slice (some ⟨g,0,none⟩) 1 cap):=c5
 have oc:=adc hx hm (k:=c) (by rw[ek];simp) hv
 have HC0:=zb fun (w1:World) (ha:Add w w1)=>ae4 hW (hg.add ha) (d:=d) (n0.add ha) oc.1 oc.2.1 oc.2.2 (Nat.le_of_succ_le hd)
 have hz0:=ads hW hx hm hd (k:=c) (by rw[ek];simp) hv 1
 have ha0:=qE w d
 have q0:=qD w d
 have c0':=ha0.cellk c0
 have c5':=ha0.cellk c5
 have g0':=ha0.cellk g0
 have HX:=zb (show aad R d t=((⟨#[116,104,114,111,119,32]⟩++zu R d 1 c)++⟨#[59]⟩) by unfold aad;rw[hk,if_neg (by decide),if_neg (by decide),if_neg (by decide),if_neg (by decide),if_neg (by decide),if_neg (by decide),if_neg (by decide),if_neg (by decide),if_neg (by decide),if_pos rfl,aa3 ek])
 have HA:=zb ha0
 clear hn hx hm hd hg hW ha0 hvx c0 n0 hrest oc c5 g0
 generalize zu R d 1 c=X0 at *
 go_enter func79,ntmps79
 go_wp2_with fail
 generalize w.alloc (.cells #[.int .i64 d] 89)=wb at *
 have ent0:∀w:World,Sem.run prog (callFunc 131 #[.agg #[.int .i64 d],.pointer (some ⟨k0,0,none⟩)]) w=.ok (.enter 131 #[.agg #[.int .i64 d],.pointer (some ⟨k0,0,none⟩)]) w:=fun _=>by kernel_rfl
 refine wp_region_held_drew (S:=fun w'=>w'.cell? ⟨w.heap.size,0,none⟩=some (.int .i64 d)∧w'.cell? ⟨b,5,none⟩=some (.slice (some ⟨g,0,none⟩) 1 cap)∧w'.cell? ⟨g,0,none⟩=some (.pointer (some ⟨k0,0,none⟩))∧Hid (Add w w')) (by kernel_rfl) ⟨q0,c5',g0',(za HA).drew⟩ (fun hHeld=>?_)
 refine tka 0 108 rfl ?_
 refine tka 1 109 rfl ?_
 refine tka 2 110 rfl ?_
 refine tka 3 111 rfl ?_
 refine tka 4 112 rfl ?_
 refine tka 5 113 rfl ?_
 refine tka 6 114 rfl ?_
 simp only[sA,sB,sC]
 refine wpAnyH_ready (rs:=[7]) (by kernel_rfl) (by simp) ?_
 refine AllReadyH.cons (o:={ dst:=some 115,op:=_,type:=_,pos:=_,after:=_,guard:=_ }) rfl (fun K hK=>?_) AllReadyH.nil
 refine zm (by kernel_rfl) (by simp[Act.eval,ent0,go_sem]) ((za HC0 _ (za hHeld.2.2.2)).mono ?_)
 rintro e wc0 ⟨rfl,hac0⟩
 refine hK.out _ _ ⟨hac0.cellk hHeld.1,hac0.cellk hHeld.2.1,hac0.cellk hHeld.2.2.1,(za hHeld.2.2.2).tr hac0⟩ (fun hHeld7=>?_)
 clear hK K
 simp only[Act.put,sA,sB,sC]
 refine tkb 8 116 rfl ?_
 refine tkb 9 117 rfl ?_
 refine tka 10 4 rfl ?_
 simp only[sA,sB,sC]
 refine wpAnyH_done (by kernel_rfl) ?_ _
 go_wp2_with fail
 go_ret
 rw[za HX]
 exact⟨rfl,(za hHeld7.2.2.2)⟩
theorem as0 {R:Wr} {f D:Nat} (hW:WB R f D) {w:World} (hg:SG w) {b d:Nat} {t:Tree} (hn:Nd w b t) (hx:Wx t) (hm:t.many≤f+1) (hd:d+1≤D) (hk:t.kind=16) :
  Calls prog 79 #[.agg #[.int .i64 d],.pointer (some ⟨b,0,none⟩)] w fun e w'=>e=.returned (.string (aad R d t))∧Add w w':=by
 obtain⟨ksx,hvx⟩:=hn.view
 have c0:=hvx.c0
 rw[hk] at c0
 obtain⟨c,ek,hv⟩:=(show ∃a,t.kids=[a]∧vK a by have:=hx.here.2;rw[hk] at this;exact this)
 obtain⟨g,cap,k0,hcap,hmx,c5,g0,n0,hrest⟩:=hn.one ek
 have c5:w.cell? ⟨b,5,none⟩=some (.slice (some ⟨g,0,none⟩) 1 cap):=c5
 have oc:=adc hx hm (k:=c) (by rw[ek];simp) hv
 have HC0:=zb fun (w1:World) (ha:Add w w1)=>ae4 hW (hg.add ha) (d:=d) (n0.add ha) oc.1 oc.2.1 oc.2.2 (Nat.le_of_succ_le hd)
 have hz0:=ads hW hx hm hd (k:=c) (by rw[ek];simp) hv 1
 have ha0:=qE w d
 have q0:=qD w d
 have c0':=ha0.cellk c0
 have c5':=ha0.cellk c5
 have g0':=ha0.cellk g0
 have HX:=zb (show aad R d t=((⟨#[112,114,105,110,116,40]⟩++zu R d 1 c)++⟨#[41,59]⟩) by unfold aad;rw[hk,if_neg (by decide),if_neg (by decide),if_neg (by decide),if_neg (by decide),if_neg (by decide),if_neg (by decide),if_neg (by decide),if_neg (by decide),if_neg (by decide),if_neg (by decide),if_neg (by decide),if_neg (by decide),if_pos rfl,aa3 ek])
 have HA:=zb ha0
 clear hn hx hm hd hg hW ha0 hvx c0 n0 hrest oc c5 g0
 generalize zu R d 1 c=X0 at *
 go_enter func79,ntmps79
 go_wp2_with fail
 generalize w.alloc (.cells #[.int .i64 d] 89)=wb at *
 have ent0:∀w:World,Sem.run prog (callFunc 131 #[.agg #[.int .i64 d],.pointer (some ⟨k0,0,none⟩)]) w=.ok (.enter 131 #[.agg #[.int .i64 d],.pointer (some ⟨k0,0,none⟩)]) w:=fun _=>by kernel_rfl
 refine wp_region_held_drew (S:=fun w'=>w'.cell? ⟨w.heap.size,0,none⟩=some (.int .i64 d)∧w'.cell? ⟨b,5,none⟩=some (.slice (some ⟨g,0,none⟩) 1 cap)∧w'.cell? ⟨g,0,none⟩=some (.pointer (some ⟨k0,0,none⟩))∧Hid (Add w w')) (by kernel_rfl) ⟨q0,c5',g0',(za HA).drew⟩ (fun hHeld=>?_)
 refine tka 0 167 rfl ?_
 refine tka 1 168 rfl ?_
 refine tka 2 169 rfl ?_
 refine tka 3 170 rfl ?_
 refine tka 4 171 rfl ?_
 refine tka 5 172 rfl ?_
 refine tka 6 173 rfl ?_
 simp only[sA,sB,sC]
 refine wpAnyH_ready (rs:=[7]) (by kernel_rfl) (by simp) ?_
 refine AllReadyH.cons (o:={ dst:=some 174,op:=_,type:=_,pos:=_,after:=_,guard:=_ }) rfl (fun K hK=>?_) AllReadyH.nil
 refine zm (by kernel_rfl) (by simp[Act.eval,ent0,go_sem]) ((za HC0 _ (za hHeld.2.2.2)).mono ?_)
 rintro e wc0 ⟨rfl,hac0⟩
 refine hK.out _ _ ⟨hac0.cellk hHeld.1,hac0.cellk hHeld.2.1,hac0.cellk hHeld.2.2.1,(za hHeld.2.2.2).tr hac0⟩ (fun hHeld7=>?_)
 clear hK K
 simp only[Act.put,sA,sB,sC]
 refine tkb 8 175 rfl ?_
 refine tkb 9 176 rfl ?_
 refine tka 10 4 rfl ?_
 simp only[sA,sB,sC]
 refine wpAnyH_done (by kernel_rfl) ?_ _
 go_wp2_with fail
 go_ret
 rw[za HX]
 exact⟨rfl,(za hHeld7.2.2.2)⟩
theorem akx {R:Wr} {f D:Nat} (hW:WB R f D) {w:World} (hg:SG w) {b d:Nat} {t:Tree} (hn:Nd w b t) (hx:Wx t) (hm:t.many≤f+1) (hd:d+1≤D) (hk:t.kind=15) :
  Calls prog 79 #[.agg #[.int .i64 d],.pointer (some ⟨b,0,none⟩)] w fun e w'=>e=.returned (.string (aad R d t))∧Add w w':=by
 obtain⟨ksx,hvx⟩:=hn.view
 have c0:=hvx.c0
 rw[hk] at c0
 obtain⟨bl,ek,h7⟩:=(show ∃b,t.kids=[b]∧b.kind=7 by have:=hx.here.2;rw[hk] at this;exact this)
 obtain⟨g,cap,k0,hcap,hmx,c5,g0,n0,hrest⟩:=hn.one ek
 obtain⟨vb,b5,rb⟩:=n0.kids
 have c5:w.cell? ⟨b,5,none⟩=some (.slice (some ⟨g,0,none⟩) 1 cap):=c5
 have c1:=hvx.c1
 have ht:=(abf hx.here.1).1
 have HC0:=zb fun (w1:World) (ha:Add w w1)=>agh hW (hg.add ha) (d:=d) (rb.add ha) (ahk hx hm (by rw[ek];simp) h7) (aeb hW.f hm (by rw[ek];simp)) hd
 have hz0:=ai1 hW hx hm hd (p:=bl) (by rw[ek];simp) h7
 have ha0:=qE w d
 have q0:=qD w d
 have c0':=ha0.cellk c0
 have c1':=ha0.cellk c1
 have c5':=ha0.cellk c5
 have g0':=ha0.cellk g0
 have b5':=ha0.cellk b5
 have HX:=zb (show aad R d t=(((⟨#[99,97,116,99,104,32,40]⟩++t.text)++⟨#[41,32]⟩)++aby R d bl.kids) by unfold aad;rw[hk,if_neg (by decide),if_neg (by decide),if_neg (by decide),if_neg (by decide),if_neg (by decide),if_neg (by decide),if_neg (by decide),if_neg (by decide),if_neg (by decide),if_neg (by decide),if_neg (by decide),if_pos rfl];unfold af6;rw[aa3 ek])
 have HA:=zb ha0
 clear hn hx hm hd hg hW ha0 hvx c0 n0 rb hrest c1 c5 g0 b5
 generalize aby R d bl.kids=X0 at *
 go_enter func79,ntmps79
 go_wp2_with fail
 generalize w.alloc (.cells #[.int .i64 d] 89)=wb at *
 have ent0:∀w:World,Sem.run prog (callFunc 129 #[.agg #[.int .i64 d],vb]) w=.ok (.enter 129 #[.agg #[.int .i64 d],vb]) w:=fun _=>by kernel_rfl
 refine wp_region_held_drew (S:=fun w'=>w'.cell? ⟨w.heap.size,0,none⟩=some (.int .i64 d)∧w'.cell? ⟨b,1,none⟩=some (.string t.text)∧w'.cell? ⟨b,5,none⟩=some (.slice (some ⟨g,0,none⟩) 1 cap)∧w'.cell? ⟨g,0,none⟩=some (.pointer (some ⟨k0,0,none⟩))∧w'.cell? ⟨k0,5,none⟩=some (vb)∧Hid (Add w w')) (by kernel_rfl) ⟨q0,c1',c5',g0',b5',(za HA).drew⟩ (fun hHeld=>?_)
 refine tka 0 147 rfl ?_
 refine tka 1 148 rfl ?_
 refine tka 2 149 rfl ?_
 refine tka 3 150 rfl ?_
 refine tkb 4 151 rfl ?_
 refine tkb 5 152 rfl ?_
 refine tka 6 153 rfl ?_
 refine tka 7 154 rfl ?_
 simp only[sA,sB,sC]
 refine tka 8 155 rfl ?_
 refine tka 9 156 rfl ?_
 refine tka 10 157 rfl ?_
 refine tka 11 158 rfl ?_
 refine tka 12 159 rfl ?_
 refine tka 13 160 rfl ?_
 refine tka 14 161 rfl ?_
 refine tka 15 162 rfl ?_
 simp only[sA,sB,sC]
 refine wpAnyH_ready (rs:=[16]) (by kernel_rfl) (by simp) ?_
 refine AllReadyH.cons (o:={ dst:=some 163,op:=_,type:=_,pos:=_,after:=_,guard:=_ }) rfl (fun K hK=>?_) AllReadyH.nil
 refine zm (by kernel_rfl) (by simp[Act.eval,ent0,go_sem]) ((za HC0 _ (za hHeld.2.2.2.2.2)).mono ?_)
 rintro e wc0 ⟨rfl,hac0⟩
 refine hK.out _ _ ⟨hac0.cellk hHeld.1,hac0.cellk hHeld.2.1,hac0.cellk hHeld.2.2.1,hac0.cellk hHeld.2.2.2.1,hac0.cellk hHeld.2.2.2.2.1,(za hHeld.2.2.2.2.2).tr hac0⟩ (fun hHeld16=>?_)
 clear hK K
 simp only[Act.put,sA,sB,sC]
 refine tkb 17 164 rfl ?_
 refine tka 18 4 rfl ?_
 simp only[sA,sB,sC]
 refine wpAnyH_done (by kernel_rfl) ?_ _
 go_wp2_with fail
 go_ret
 rw[za HX]
 exact⟨rfl,(za hHeld16.2.2.2.2.2)⟩
theorem bco {R:Wr} {f D:Nat} (hW:WB R f D) {w:World} (hg:SG w) {b d:Nat} {t:Tree} (hn:Nd w b t) (hx:Wx t) (hm:t.many≤f+1) (hd:d+1≤D) (h15:t.kind=15) :
  Calls prog 79 #[.agg #[.int .i64 d],.pointer (some ⟨b,0,none⟩)] w fun e w'=>e=.returned (.string (af6 R d t))∧Add w w':=by
 have:=akx hW hg hn hx hm hd h15
 rw[show aad R d t=af6 R d t by unfold aad;rw[h15];rfl] at this
 exact this
theorem aw6 {R:Wr} {f D:Nat} (hW:WB R f D) {w:World} (hg:SG w) {b d:Nat} {t:Tree} (hn:Nd w b t) (hx:Wx t) (hm:t.many≤f+1) (hd:d+1≤D) (hk:t.kind=14) :
  Calls prog 79 #[.agg #[.int .i64 d],.pointer (some ⟨b,0,none⟩)] w fun e w'=>e=.returned (.string (aad R d t))∧Add w w':=by
 obtain⟨ksx,hvx⟩:=hn.view
 have c0:=hvx.c0
 rw[hk] at c0
 obtain⟨bl,cc,ek,h7,h15⟩:=(show ∃b c,t.kids=[b,c]∧b.kind=7∧c.kind=15 by have:=hx.here.2;rw[hk] at this;exact this)
 obtain⟨g,cap,k0,hcap,hmx,c5,g0,n0,hrest⟩:=hn.one ek
 obtain⟨k1,g1,n1⟩:=hrest 0 _ rfl
 obtain⟨vb,b5,rb⟩:=n0.kids
 have c5:w.cell? ⟨b,5,none⟩=some (.slice (some ⟨g,0,none⟩) 2 cap):=c5
 have hd3:d≤3000:=by have:=hW.D;omega
 have hcm:=acr hm (k:=cc) (by rw[ek];simp)
 have HC0:=zb fun (w1:World) (ha:Add w w1)=>agh hW (hg.add ha) (d:=d) (rb.add ha) (ahk hx hm (by rw[ek];simp) h7) (aeb hW.f hm (by rw[ek];simp)) hd
 have HC1:=zb fun (w1:World) (ha:Add w w1)=>aiz d hd3 w1
 have HC2:=zb fun (w1:World) (ha:Add w w1)=>bco hW (hg.add ha) (d:=d) (n1.add ha) (hx.kid (by rw[ek];simp)) (Nat.le_succ_of_le hcm) hd h15
 have hz0:=ai1 hW hx hm hd (p:=bl) (by rw[ek];simp) h7
 have hz1:(xIn d).size≤6000:=by rw[aeh];omega
 have hz2:(af6 R d cc).size≤40000000:=by
  have:=aks hW.len (hx.kid (by rw[ek];simp)) (t:=cc) (d:=d) (Nat.le_succ_of_le hcm) hd hW.D h15
  have:=hW.f
  omega
 have ha0:=qE w d
 have q0:=qD w d
 have c0':=ha0.cellk c0
 have c5':=ha0.cellk c5
 have g0':=ha0.cellk g0
 have g1':=ha0.cellk g1
 have b5':=ha0.cellk b5
 have HX:=zb (show aad R d t=((((⟨#[116,114,121,32]⟩++aby R d bl.kids)++⟨#[10]⟩)++xIn d)++af6 R d cc) by unfold aad;rw[hk,if_neg (by decide),if_neg (by decide),if_neg (by decide),if_neg (by decide),if_neg (by decide),if_neg (by decide),if_neg (by decide),if_neg (by decide),if_neg (by decide),if_neg (by decide),if_pos rfl,aa3 ek,aeu ek])
 have HA:=zb ha0
 clear hn hx hm hd hg hW ha0 hvx c0 n0 n1 rb hrest hcm c5 g0 g1 b5
 generalize aby R d bl.kids=X0 at *
 generalize xIn d=X1 at *
 generalize af6 R d cc=X2 at *
 go_enter func79,ntmps79
 go_wp2_with fail
 generalize w.alloc (.cells #[.int .i64 d] 89)=wb at *
 have ent0:∀w:World,Sem.run prog (callFunc 129 #[.agg #[.int .i64 d],vb]) w=.ok (.enter 129 #[.agg #[.int .i64 d],vb]) w:=fun _=>by kernel_rfl
 have ent1:∀w:World,Sem.run prog (callFunc 78 #[.agg #[.int .i64 d]]) w=.ok (.enter 78 #[.agg #[.int .i64 d]]) w:=fun _=>by kernel_rfl
 have ent2:∀w:World,Sem.run prog (callFunc 79 #[.agg #[.int .i64 d],.pointer (some ⟨k1,0,none⟩)]) w=.ok (.enter 79 #[.agg #[.int .i64 d],.pointer (some ⟨k1,0,none⟩)]) w:=fun _=>by kernel_rfl
 refine wp_region_held_drew (S:=fun w'=>w'.cell? ⟨w.heap.size,0,none⟩=some (.int .i64 d)∧w'.cell? ⟨b,5,none⟩=some (.slice (some ⟨g,0,none⟩) 2 cap)∧w'.cell? ⟨g,0,none⟩=some (.pointer (some ⟨k0,0,none⟩))∧w'.cell? ⟨g,1,none⟩=some (.pointer (some ⟨k1,0,none⟩))∧w'.cell? ⟨k0,5,none⟩=some (vb)∧Hid (Add w w')) (by kernel_rfl) ⟨q0,c5',g0',g1',b5',(za HA).drew⟩ (fun hHeld=>?_)
 refine tka 0 120 rfl ?_
 refine tka 1 121 rfl ?_
 refine tka 2 122 rfl ?_
 refine tka 3 123 rfl ?_
 refine tka 4 124 rfl ?_
 refine tka 5 125 rfl ?_
 refine tka 6 126 rfl ?_
 refine tka 7 127 rfl ?_
 simp only[sA,sB,sC]
 refine tka 8 128 rfl ?_
 refine tka 9 129 rfl ?_
 refine tka 13 133 rfl ?_
 refine tka 16 136 rfl ?_
 refine tka 17 137 rfl ?_
 refine tka 18 138 rfl ?_
 refine tka 19 139 rfl ?_
 refine tka 20 140 rfl ?_
 simp only[sA,sB,sC]
 refine tka 21 141 rfl ?_
 refine tka 22 142 rfl ?_
 simp only[sA,sB,sC]
 refine wpAnyH_ready (rs:=[10]) (by kernel_rfl) (by simp) ?_
 refine AllReadyH.cons (o:={ dst:=some 130,op:=_,type:=_,pos:=_,after:=_,guard:=_ }) rfl (fun K hK=>?_) AllReadyH.nil
 refine zm (by kernel_rfl) (by simp[Act.eval,ent0,go_sem]) ((za HC0 _ (za hHeld.2.2.2.2.2)).mono ?_)
 rintro e wc0 ⟨rfl,hac0⟩
 refine hK.out _ _ ⟨hac0.cellk hHeld.1,hac0.cellk hHeld.2.1,hac0.cellk hHeld.2.2.1,hac0.cellk hHeld.2.2.2.1,hac0.cellk hHeld.2.2.2.2.1,(za hHeld.2.2.2.2.2).tr hac0⟩ (fun hHeld10=>?_)
 clear hK K
 simp only[Act.put,sA,sB,sC]
 refine tkb 11 131 rfl ?_
 refine tkb 12 132 rfl ?_
 simp only[sA,sB,sC]
 refine wpAnyH_ready (rs:=[14]) (by kernel_rfl) (by simp) ?_
 refine AllReadyH.cons (o:={ dst:=some 134,op:=_,type:=_,pos:=_,after:=_,guard:=_ }) rfl (fun K hK=>?_) AllReadyH.nil
 refine zm (by kernel_rfl) (by simp[Act.eval,ent1,go_sem]) ((za HC1 _ (za hHeld10.2.2.2.2.2)).mono ?_)
 rintro e wc1 ⟨rfl,hac1⟩
 refine hK.out _ _ ⟨hac1.cellk hHeld10.1,hac1.cellk hHeld10.2.1,hac1.cellk hHeld10.2.2.1,hac1.cellk hHeld10.2.2.2.1,hac1.cellk hHeld10.2.2.2.2.1,(za hHeld10.2.2.2.2.2).tr hac1⟩ (fun hHeld14=>?_)
 clear hK K
 simp only[Act.put,sA,sB,sC]
 refine tkb 15 135 rfl ?_
 simp only[sA,sB,sC]
 refine wpAnyH_ready (rs:=[23]) (by kernel_rfl) (by simp) ?_
 refine AllReadyH.cons (o:={ dst:=some 143,op:=_,type:=_,pos:=_,after:=_,guard:=_ }) rfl (fun K hK=>?_) AllReadyH.nil
 refine zm (by kernel_rfl) (by simp[Act.eval,ent2,go_sem]) ((za HC2 _ (za hHeld14.2.2.2.2.2)).mono ?_)
 rintro e wc2 ⟨rfl,hac2⟩
 refine hK.out _ _ ⟨hac2.cellk hHeld14.1,hac2.cellk hHeld14.2.1,hac2.cellk hHeld14.2.2.1,hac2.cellk hHeld14.2.2.2.1,hac2.cellk hHeld14.2.2.2.2.1,(za hHeld14.2.2.2.2.2).tr hac2⟩ (fun hHeld23=>?_)
 clear hK K
 simp only[Act.put,sA,sB,sC]
 refine tkb 24 144 rfl ?_
 refine tka 25 4 rfl ?_
 simp only[sA,sB,sC]
 refine wpAnyH_done (by kernel_rfl) ?_ _
 go_wp2_with fail
 go_ret
 rw[za HX]
 exact⟨rfl,(za hHeld23.2.2.2.2.2)⟩
theorem azp {R:Wr} {f D:Nat} (hW:WB R f D) {w:World} (hg:SG w) {b d:Nat} {t:Tree} (hn:Nd w b t) (hx:Wx t) (hm:t.many≤f+1) (hd:d+1≤D) (hk:t.kind=17) :
  Calls prog 79 #[.agg #[.int .i64 d],.pointer (some ⟨b,0,none⟩)] w fun e w'=>e=.returned (.string (aad R d t))∧Add w w':=by
 obtain⟨ksx,hvx⟩:=hn.view
 have c0:=hvx.c0
 rw[hk] at c0
 obtain⟨c,ek,hv⟩:=(show ∃a,t.kids=[a]∧vK a by have:=hx.here.2;rw[hk] at this;exact this)
 obtain⟨g,cap,k0,hcap,hmx,c5,g0,n0,hrest⟩:=hn.one ek
 have c5:w.cell? ⟨b,5,none⟩=some (.slice (some ⟨g,0,none⟩) 1 cap):=c5
 have oc:=adc hx hm (k:=c) (by rw[ek];simp) hv
 have HC0:=zb fun (w1:World) (ha:Add w w1)=>asr hW (hg.add ha) (d:=d) (hn.add ha) hx hm hd ek hv
 have hz0:(ada R d t).size≤40000000:=by
  have:=agf (aa3 ek) (ab3 hW.len hx hm hd (k:=c) (by rw[ek];simp) hv)
  have:=acr hm (k:=c) (by rw[ek];simp)
  have:=hW.f
  omega
 have ha0:=qE w d
 have q0:=qD w d
 have c0':=ha0.cellk c0
 have HX:=zb (show aad R d t=(ada R d t++⟨#[59]⟩) by unfold aad;rw[hk,if_neg (by decide),if_neg (by decide),if_neg (by decide),if_neg (by decide),if_neg (by decide),if_neg (by decide),if_neg (by decide),if_neg (by decide),if_neg (by decide),if_neg (by decide),if_neg (by decide),if_neg (by decide),if_neg (by decide)])
 have HA:=zb ha0
 clear hn hx hm hd hg hW ha0 hvx c0 n0 hrest oc c5 g0 
 generalize ada R d t=X0 at *
 go_enter func79,ntmps79
 go_wp2_with fail
 refine(za HC0 _ (za HA)).mono ?_
 rintro e wc0 ⟨rfl,hac0⟩
 have HAC0:=zb ((za HA).tr hac0)
 clear hac0
 go_wp2_with fail
 go_ret
 rw[za HX]
 exact⟨rfl,za HAC0⟩
theorem wr_stm {R:Wr} {f D:Nat} (hW:WB R f D) {w:World} (hg:SG w) {b d:Nat} {t:Tree} (hn:Nd w b t) (hx:Wx t) (hm:t.many≤f+1) (hd:d+1≤D) (hs:stK t) :
  Calls prog 79 #[.agg #[.int .i64 d],.pointer (some ⟨b,0,none⟩)] w fun e w'=>e=.returned (.string (aad R d t))∧Add w w':=by
 have hc:=hx.here.2
 unfold stK sK at hs
 rcases(by omega:t.kind=2∨t.kind=3∨t.kind=4∨t.kind=5∨t.kind=8∨t.kind=9∨t.kind=10∨t.kind=11∨t.kind=12∨t.kind=13∨t.kind=14∨t.kind=15∨t.kind=16∨t.kind=17) with h | h | h | h | h | h | h | h | h | h | h | h | h | h
 ·exact asw hW hg hn hx hm hd h
 ·exact asx hW hg hn hx hm hd h
 ·exact aqx hW hg hn hx hm hd h
 ·exact azo hW hg hn hx hm hd h
 ·exact aw4 hW hg hn hx hm hd h
 ·exact aw5 hW hg hn hx hm hd h
 ·rw[h] at hc
  obtain⟨c,bl,h1,h7,ek | ⟨el,ek,he⟩⟩:=(show ∃c b,vK c∧b.kind=7∧(t.kids=[c,b]∨∃e,t.kids=[c,b,e]∧e.kind=7) from hc)
  ·exact aqy hW hg hn hx hm hd h ek h1 h7
  ·exact ans hW hg hn hx hm hd h ek h1 h7 he
 ·exact asy hW hg hn hx hm hd h
 ·rw[h] at hc
  rcases(show t.kids=[]∨∃a,t.kids=[a]∧vK a from hc) with ek | ⟨a,ek,ha⟩
  ·exact akw hW hg hn hx hm hd h ek
  ·exact alm hW hg hn hx hm hd h ek ha
 ·exact asz hW hg hn hx hm hd h
 ·exact aw6 hW hg hn hx hm hd h
 ·exact akx hW hg hn hx hm hd h
 ·exact as0 hW hg hn hx hm hd h
 ·exact azp hW hg hn hx hm hd h
theorem as1:∀(f D:Nat),f≤1200→f+D≤3000→WB (xN f) f D
 | 0,D,hf,h=>⟨fun w b t d _ _ _ _ hm=>by rw[aa4] at hm;omega,fun w b t d _ _ _ _ hm=>by rw[aa4] at hm;omega,aik 0 D h,hf,by omega⟩
 | f+1,D,hf,h=>⟨fun w b t d hg hn hx hv hm hd=>wr_bare (as1 f (D+1) (by omega) (by omega)) hg hn hx hm (by omega) hv,fun w b t d hg hn hx hs hm hd=>wr_stm (as1 f (D+1) (by omega) (by omega)) hg hn hx hm (by omega) hs,aik (f+1) D h,hf,by omega⟩
theorem bcp {w:World} (hg:SG w) {b:Nat} {t:Tree} (hn:Nd w b t) (hx:Wx t) (hk:t.kind=1) (hm:t.many≤1201):Calls prog 11 #[.pointer (some ⟨b,0,none⟩)] w fun e w'=>e=.returned (.string (aq2 t))∧Add w w':=by
 obtain⟨ks,hv⟩:=hn.view
 obtain⟨v,c5,rv⟩:=hn.kids
 have c0:=hv.c0
 rw[hk] at c0
 have hc:=hx.here.2
 rw[hk] at hc
 have hok:akt 1200 t.kids:=fun k hk'=>⟨hx.kid hk',by
  rcases(show ∀k∈t.kids,sK k∨k.kind=2∨k.kind=5 from hc) k hk' with q | q | q
  ·exact Or.inl q
  ·exact Or.inr (Or.inl q)
  ·exact Or.inr (Or.inr (Or.inr (Or.inr (Or.inl q)))),by have:=aet hk';rw[aa4] at hm;omega⟩
 have HC:=zb (ap0 (as1 1200 1000 (by decide) (by decide)) hg (d:=0) rv hok (by rw[aa4] at hm;omega) (by decide))
 have HX:=zb (show aq2 t=acw (xN 1200) 0 t.kids from rfl)
 clear hn hx hk hm hv rv hc hok hg
 generalize acw (xN 1200) 0 t.kids=X at *
 go_enter func11,ntmps11
 go_wp2_with fail
 refine(za HC).mono ?_
 rintro e w1 ⟨rfl,ha⟩
 have HA:=zb ha
 clear ha
 go_wp2_with fail
 go_ret
 rw[za HX]
 exact⟨rfl,za HA⟩
end Go.Proofs.YtndgajlidckcdaaGreatDoor
