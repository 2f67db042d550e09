/- A part. -/
import Derived.Test.YtndgajlidckcdaaGreatDoorM17
open Go.Proofs.Tryz
namespace Go.Proofs.YtndgajlidckcdaaGreatDoor
open Go.RowKit
set_option linter.unusedVariables false
set_option linter.unusedSimpArgs false
set_option maxRecDepth 100000
set_option maxHeartbeats 8000000
theorem aj7 {w:World} {g cap L:Nat} {l:List Tree} (hL:l.length=L) (hcap:L+1≤cap) (hmx:cap≤maxLen) (hr:∀(i:Nat) (t:Tree),l[i]?=some t→∃b,w.cell? ⟨g,i+1,none⟩=some (.pointer (some ⟨b,0,none⟩))∧Nd w b t):RowX w (.slice (if cap=1 then some (⟨g,0,none⟩:Addr) else some ⟨g,1,none⟩) L (cap-1)) l:=by
 refine⟨_,cap-1,by rw[hL],by omega,by omega,fun i t ht=>?_⟩
 have hi:=(List.getElem?_eq_some_iff.1 ht).1
 rw[if_neg (by omega)]
 obtain⟨b,hc,hn⟩:=hr i t ht
 exact⟨g,1,b,rfl,by rw[Nat.add_comm];exact hc,hn⟩
theorem ajl {R:Wr} {f D:Nat} (hW:WB R f D) {d:Nat} {t:Tree} (hx:Wx t) (hm:t.many≤f+1) (hd:d+1≤D) {l:List Tree} (hl:∀k∈l,k∈t.kids∧vK k) (hml:aay l≤1200):(ab2 R d l).size≤40000000:=by
 have:=ahw (af7 hW.len hx hm hd hl)
 omega
theorem sz_vals {R:Wr} {f D:Nat} (hW:WB R f D) {d:Nat} {t:Tree} (hx:Wx t) (hm:t.many≤f+1) (hd:d+1≤D) {l:List Tree} (hl:∀k∈l,k∈t.kids∧vK k) (hml:aay l≤1200):(abo R d l).size≤40000000:=by
 have:=aft (af7 hW.len hx hm hd hl)
 omega
theorem auq {R:Wr} {f D:Nat} (hW:WB R f D) {w:World} (hg:SG w) {b d:Nat} {t:Tree} (hn:Nd w b t) (hx:Wx t) (hm:t.many≤f+1) (hd:d+1≤D) (hk:t.kind=40) :
  Calls prog 229 #[.agg #[.int .i64 d],.pointer (some ⟨b,0,none⟩)] w fun e w'=>e=.returned (.string (zy R d t))∧Add w w':=by
 obtain⟨ksx,hvx⟩:=hn.view
 have c0:=hvx.c0
 rw[hk] at c0
 obtain⟨c,ek,hv⟩:=(show ∃a,t.kids=[a]∧vK a by have:=hx.here.2;rw[hk] at this;exact this)
 obtain⟨g,cap,k0,hcap,hmx,c5,g0,n0,hrest⟩:=hn.one ek
 have c5:w.cell? ⟨b,5,none⟩=some (.slice (some ⟨g,0,none⟩) 1 cap):=c5
 have oc:=adc hx hm (k:=c) (by rw[ek];simp) hv
 have HC0:=zb fun (w1:World) (ha:Add w w1)=>af1 hW (hg.add ha) (d:=d) (l:=7) (n0.add ha) oc.1 oc.2.1 oc.2.2 (Nat.le_of_succ_le hd)
 have hz0:=ads hW hx hm hd (k:=c) (by rw[ek];simp) hv 7
 have ha0:=qE w d
 have q0:=qD w d
 have c0':=ha0.cellk c0
 have HX:=zb (show zy R d t=(⟨#[45]⟩++zu R d 7 c) by unfold zy;rw[hk,if_neg (show ¬(aac 40).2=true by decide),if_pos rfl,aa3 ek])
 have HS:=zb fun (w1:World) (ha:Add w w1)=>ael (hg.add ha).1.choose_spec.choose_spec 40
 have HA:=zb ha0
 have HG:=zb fun (w1:World) (ha:Add w w1)=>hg.add ha
 have hsg:aac 40=((zc,0,0),false):=rfl
 rw[hsg] at HS
 unfold aha at HS
 try unfold zc at HS
 clear hn hx hm hd hg hW ha0 hvx n0 hrest oc
 generalize zu R d 7 c=X0 at *
 go_enter func229,ntmps229
 go_wp2_with fail
 refine(za HS _ (za HA)).mono ?_
 rintro e w1 ⟨rfl,ha1⟩
 have ha2:=((za HA).tr ha1).alloc (.cells #[.string ⟨#[]⟩,.int .i64 0,.int .i64 0] 224)
 have hb2:=((Add.refl w1).alloc (.cells #[.string ⟨#[]⟩,.int .i64 0,.int .i64 0] 224))
 have y0:=(ha1.alloc (.cells #[.string ⟨#[]⟩,.int .i64 0,.int .i64 0] 224)).cellk q0
 have c0a:=ha1.cellk c0'
 have c0b:(w1.alloc (.cells #[.string ⟨#[]⟩,.int .i64 0,.int .i64 0] 224)).cell? ⟨b,0,none⟩=some (.int .i64 40):=ha2.cellk c0
 have c5':(w1.alloc (.cells #[.string ⟨#[]⟩,.int .i64 0,.int .i64 0] 224)).cell? ⟨b,5,none⟩=some (.slice (some ⟨g,0,none⟩) 1 cap):=ha2.cellk c5
 have g0':(w1.alloc (.cells #[.string ⟨#[]⟩,.int .i64 0,.int .i64 0] 224)).cell? ⟨g,0,none⟩=some (.pointer (some ⟨k0,0,none⟩)):=ha2.cellk g0
 have HA2:=zb ha2
 clear ha1 ha2 hb2 HA HS q0 c0' c0 c0a c5 g0
 go_wp2_with fail
 generalize w1.alloc (.cells #[.string ⟨#[]⟩,.int .i64 0,.int .i64 0] 224)=wb at *
 have ent0:∀w:World,Sem.run prog (callFunc 193 #[.agg #[.int .i64 d],.int .i64 7,.pointer (some ⟨k0,0,none⟩)]) w=.ok (.enter 193 #[.agg #[.int .i64 d],.int .i64 7,.pointer (some ⟨k0,0,none⟩)]) w:=fun _=>by kernel_rfl
 refine wp_region_held_drew (S:=fun w'=>w'.cell? ⟨w.heap.size,0,none⟩=some (.int .i64 d)∧w'.cell? ⟨b,5,none⟩=some (.slice (some ⟨g,0,none⟩) 1 cap)∧w'.cell? ⟨g,0,none⟩=some (.pointer (some ⟨k0,0,none⟩))∧Hid (Add w w')) (by kernel_rfl) ⟨y0,c5',g0',(za HA2).drew⟩ (fun hHeld=>?_)
 refine tka 0 49 rfl ?_
 refine tka 1 50 rfl ?_
 refine tka 2 51 rfl ?_
 refine tka 3 52 rfl ?_
 refine tka 4 53 rfl ?_
 refine tka 5 54 rfl ?_
 refine tka 6 55 rfl ?_
 simp only[sA,sB,sC]
 refine wpAnyH_ready (rs:=[7]) (by kernel_rfl) (by simp) ?_
 refine AllReadyH.cons (o:={ dst:=some 56,op:=_,type:=_,pos:=_,after:=_,guard:=_ }) rfl (fun K hK=>?_) AllReadyH.nil
 refine zm (by kernel_rfl) (by simp[Act.eval,ent0,go_sem]) ((za HC0 _ (za hHeld.2.2.2)).mono ?_)
 rintro e wc0 ⟨rfl,hac0⟩
 refine hK.out _ _ ⟨hac0.cellk hHeld.1,hac0.cellk hHeld.2.1,hac0.cellk hHeld.2.2.1,(za hHeld.2.2.2).tr hac0⟩ (fun hHeld7=>?_)
 clear hK K
 simp only[Act.put,sA,sB,sC]
 refine tkb 8 57 rfl ?_
 refine tka 9 4 rfl ?_
 simp only[sA,sB,sC]
 refine wpAnyH_done (by kernel_rfl) ?_ _
 go_wp2_with fail
 go_ret
 rw[za HX]
 exact⟨rfl,(za hHeld7.2.2.2)⟩
theorem aur {R:Wr} {f D:Nat} (hW:WB R f D) {w:World} (hg:SG w) {b d:Nat} {t:Tree} (hn:Nd w b t) (hx:Wx t) (hm:t.many≤f+1) (hd:d+1≤D) (hk:t.kind=41) :
  Calls prog 229 #[.agg #[.int .i64 d],.pointer (some ⟨b,0,none⟩)] w fun e w'=>e=.returned (.string (zy R d t))∧Add w w':=by
 obtain⟨ksx,hvx⟩:=hn.view
 have c0:=hvx.c0
 rw[hk] at c0
 obtain⟨c,ek,hv⟩:=(show ∃a,t.kids=[a]∧vK a by have:=hx.here.2;rw[hk] at this;exact this)
 obtain⟨g,cap,k0,hcap,hmx,c5,g0,n0,hrest⟩:=hn.one ek
 have c5:w.cell? ⟨b,5,none⟩=some (.slice (some ⟨g,0,none⟩) 1 cap):=c5
 have oc:=adc hx hm (k:=c) (by rw[ek];simp) hv
 have HC0:=zb fun (w1:World) (ha:Add w w1)=>af1 hW (hg.add ha) (d:=d) (l:=7) (n0.add ha) oc.1 oc.2.1 oc.2.2 (Nat.le_of_succ_le hd)
 have hz0:=ads hW hx hm hd (k:=c) (by rw[ek];simp) hv 7
 have ha0:=qE w d
 have q0:=qD w d
 have c0':=ha0.cellk c0
 have HX:=zb (show zy R d t=(⟨#[33]⟩++zu R d 7 c) by unfold zy;rw[hk,if_neg (show ¬(aac 41).2=true by decide),if_neg (by decide),if_pos rfl,aa3 ek])
 have HS:=zb fun (w1:World) (ha:Add w w1)=>ael (hg.add ha).1.choose_spec.choose_spec 41
 have HA:=zb ha0
 have HG:=zb fun (w1:World) (ha:Add w w1)=>hg.add ha
 have hsg:aac 41=((zc,0,0),false):=rfl
 rw[hsg] at HS
 unfold aha at HS
 try unfold zc at HS
 clear hn hx hm hd hg hW ha0 hvx n0 hrest oc
 generalize zu R d 7 c=X0 at *
 go_enter func229,ntmps229
 go_wp2_with fail
 refine(za HS _ (za HA)).mono ?_
 rintro e w1 ⟨rfl,ha1⟩
 have ha2:=((za HA).tr ha1).alloc (.cells #[.string ⟨#[]⟩,.int .i64 0,.int .i64 0] 224)
 have hb2:=((Add.refl w1).alloc (.cells #[.string ⟨#[]⟩,.int .i64 0,.int .i64 0] 224))
 have y0:=(ha1.alloc (.cells #[.string ⟨#[]⟩,.int .i64 0,.int .i64 0] 224)).cellk q0
 have c0a:=ha1.cellk c0'
 have c0b:(w1.alloc (.cells #[.string ⟨#[]⟩,.int .i64 0,.int .i64 0] 224)).cell? ⟨b,0,none⟩=some (.int .i64 41):=ha2.cellk c0
 have c5':(w1.alloc (.cells #[.string ⟨#[]⟩,.int .i64 0,.int .i64 0] 224)).cell? ⟨b,5,none⟩=some (.slice (some ⟨g,0,none⟩) 1 cap):=ha2.cellk c5
 have g0':(w1.alloc (.cells #[.string ⟨#[]⟩,.int .i64 0,.int .i64 0] 224)).cell? ⟨g,0,none⟩=some (.pointer (some ⟨k0,0,none⟩)):=ha2.cellk g0
 have HA2:=zb ha2
 clear ha1 ha2 hb2 HA HS q0 c0' c0 c0a c5 g0
 go_wp2_with fail
 generalize w1.alloc (.cells #[.string ⟨#[]⟩,.int .i64 0,.int .i64 0] 224)=wb at *
 have ent0:∀w:World,Sem.run prog (callFunc 193 #[.agg #[.int .i64 d],.int .i64 7,.pointer (some ⟨k0,0,none⟩)]) w=.ok (.enter 193 #[.agg #[.int .i64 d],.int .i64 7,.pointer (some ⟨k0,0,none⟩)]) w:=fun _=>by kernel_rfl
 refine wp_region_held_drew (S:=fun w'=>w'.cell? ⟨w.heap.size,0,none⟩=some (.int .i64 d)∧w'.cell? ⟨b,5,none⟩=some (.slice (some ⟨g,0,none⟩) 1 cap)∧w'.cell? ⟨g,0,none⟩=some (.pointer (some ⟨k0,0,none⟩))∧Hid (Add w w')) (by kernel_rfl) ⟨y0,c5',g0',(za HA2).drew⟩ (fun hHeld=>?_)
 refine tka 0 60 rfl ?_
 refine tka 1 61 rfl ?_
 refine tka 2 62 rfl ?_
 refine tka 3 63 rfl ?_
 refine tka 4 64 rfl ?_
 refine tka 5 65 rfl ?_
 refine tka 6 66 rfl ?_
 simp only[sA,sB,sC]
 refine wpAnyH_ready (rs:=[7]) (by kernel_rfl) (by simp) ?_
 refine AllReadyH.cons (o:={ dst:=some 67,op:=_,type:=_,pos:=_,after:=_,guard:=_ }) rfl (fun K hK=>?_) AllReadyH.nil
 refine zm (by kernel_rfl) (by simp[Act.eval,ent0,go_sem]) ((za HC0 _ (za hHeld.2.2.2)).mono ?_)
 rintro e wc0 ⟨rfl,hac0⟩
 refine hK.out _ _ ⟨hac0.cellk hHeld.1,hac0.cellk hHeld.2.1,hac0.cellk hHeld.2.2.1,(za hHeld.2.2.2).tr hac0⟩ (fun hHeld7=>?_)
 clear hK K
 simp only[Act.put,sA,sB,sC]
 refine tkb 8 68 rfl ?_
 refine tka 9 4 rfl ?_
 simp only[sA,sB,sC]
 refine wpAnyH_done (by kernel_rfl) ?_ _
 go_wp2_with fail
 go_ret
 rw[za HX]
 exact⟨rfl,(za hHeld7.2.2.2)⟩
theorem aus {R:Wr} {f D:Nat} (hW:WB R f D) {w:World} (hg:SG w) {b d:Nat} {t:Tree} (hn:Nd w b t) (hx:Wx t) (hm:t.many≤f+1) (hd:d+1≤D) (hk:t.kind=42) :
  Calls prog 229 #[.agg #[.int .i64 d],.pointer (some ⟨b,0,none⟩)] w fun e w'=>e=.returned (.string (zy R d t))∧Add w w':=by
 obtain⟨ksx,hvx⟩:=hn.view
 have c0:=hvx.c0
 rw[hk] at c0
 obtain⟨c,ek,hv⟩:=(show ∃a,t.kids=[a]∧vK a by have:=hx.here.2;rw[hk] at this;exact this)
 obtain⟨g,cap,k0,hcap,hmx,c5,g0,n0,hrest⟩:=hn.one ek
 have c5:w.cell? ⟨b,5,none⟩=some (.slice (some ⟨g,0,none⟩) 1 cap):=c5
 have oc:=adc hx hm (k:=c) (by rw[ek];simp) hv
 have c1:=hvx.c1
 have ht:=(abf hx.here.1).1
 have HC0:=zb fun (w1:World) (ha:Add w w1)=>aj6 hW (hg.add ha) (d:=d) (hn.add ha) hx hm hd ek hv
 have hz0:=ads hW hx hm hd (k:=c) (by rw[ek];simp) hv 8
 rw[←aa3 ek] at hz0
 have ha0:=qE w d
 have q0:=qD w d
 have c0':=ha0.cellk c0
 have HX:=zb (show zy R d t=((zu R d 8 (kid t 0)++⟨#[46]⟩)++t.text) by unfold zy;rw[hk,if_neg (show ¬(aac 42).2=true by decide),if_neg (by decide),if_neg (by decide),if_pos rfl])
 have HS:=zb fun (w1:World) (ha:Add w w1)=>ael (hg.add ha).1.choose_spec.choose_spec 42
 have HA:=zb ha0
 have HG:=zb fun (w1:World) (ha:Add w w1)=>hg.add ha
 have hsg:aac 42=((zc,0,0),false):=rfl
 rw[hsg] at HS
 unfold aha at HS
 try unfold zc at HS
 clear hn hx hm hd hg hW ha0 hvx n0 hrest oc c5 g0
 generalize zu R d 8 (kid t 0)=X0 at *
 go_enter func229,ntmps229
 go_wp2_with fail
 refine(za HS _ (za HA)).mono ?_
 rintro e w1 ⟨rfl,ha1⟩
 have ha2:=((za HA).tr ha1).alloc (.cells #[.string ⟨#[]⟩,.int .i64 0,.int .i64 0] 224)
 have hb2:=((Add.refl w1).alloc (.cells #[.string ⟨#[]⟩,.int .i64 0,.int .i64 0] 224))
 have y0:=(ha1.alloc (.cells #[.string ⟨#[]⟩,.int .i64 0,.int .i64 0] 224)).cellk q0
 have c0a:=ha1.cellk c0'
 have c0b:(w1.alloc (.cells #[.string ⟨#[]⟩,.int .i64 0,.int .i64 0] 224)).cell? ⟨b,0,none⟩=some (.int .i64 42):=ha2.cellk c0
 have c1':(w1.alloc (.cells #[.string ⟨#[]⟩,.int .i64 0,.int .i64 0] 224)).cell? ⟨b,1,none⟩=some (.string t.text):=ha2.cellk c1
 have HA2:=zb ha2
 clear ha1 ha2 hb2 HA HS q0 c0' c0 c0a c1
 go_wp2_with fail
 generalize w1.alloc (.cells #[.string ⟨#[]⟩,.int .i64 0,.int .i64 0] 224)=wb at *
 have ent0:∀w:World,Sem.run prog (callFunc 247 #[.agg #[.int .i64 d],.pointer (some ⟨b,0,none⟩)]) w=.ok (.enter 247 #[.agg #[.int .i64 d],.pointer (some ⟨b,0,none⟩)]) w:=fun _=>by kernel_rfl
 refine wp_region_held_drew (S:=fun w'=>w'.cell? ⟨w.heap.size,0,none⟩=some (.int .i64 d)∧w'.cell? ⟨b,1,none⟩=some (.string t.text)∧Hid (Add w w')) (by kernel_rfl) ⟨y0,c1',(za HA2).drew⟩ (fun hHeld=>?_)
 refine tka 0 71 rfl ?_
 refine tka 1 72 rfl ?_
 refine tka 4 75 rfl ?_
 refine tka 5 76 rfl ?_
 refine tka 6 77 rfl ?_
 refine tka 7 78 rfl ?_
 simp only[sA,sB,sC]
 refine wpAnyH_ready (rs:=[2]) (by kernel_rfl) (by simp) ?_
 refine AllReadyH.cons (o:={ dst:=some 73,op:=_,type:=_,pos:=_,after:=_,guard:=_ }) rfl (fun K hK=>?_) AllReadyH.nil
 refine zm (by kernel_rfl) (by simp[Act.eval,ent0,go_sem]) ((za HC0 _ (za hHeld.2.2)).mono ?_)
 rintro e wc0 ⟨rfl,hac0⟩
 refine hK.out _ _ ⟨hac0.cellk hHeld.1,hac0.cellk hHeld.2.1,(za hHeld.2.2).tr hac0⟩ (fun hHeld2=>?_)
 clear hK K
 simp only[Act.put,sA,sB,sC]
 refine tkb 3 74 rfl ?_
 refine tkb 8 79 rfl ?_
 refine tka 9 4 rfl ?_
 simp only[sA,sB,sC]
 refine wpAnyH_done (by kernel_rfl) ?_ _
 go_wp2_with fail
 go_ret
 rw[za HX]
 exact⟨rfl,(za hHeld2.2.2)⟩
theorem ass {R:Wr} {f D:Nat} (hW:WB R f D) {w:World} (hg:SG w) {b d:Nat} {t:Tree} (hn:Nd w b t) (hx:Wx t) (hm:t.many≤f+1) (hd:d+1≤D) (hk:t.kind=44) :
  Calls prog 229 #[.agg #[.int .i64 d],.pointer (some ⟨b,0,none⟩)] w fun e w'=>e=.returned (.string (zy R d t))∧Add w w':=by
 obtain⟨ksx,hvx⟩:=hn.view
 have c0:=hvx.c0
 rw[hk] at c0
 obtain⟨c,c2,ek,hv,hv2⟩:=(show ∃a b,t.kids=[a,b]∧vK a∧vK b by have:=hx.here.2;rw[hk] at this;exact this)
 obtain⟨g,cap,k0,hcap,hmx,c5,g0,n0,hrest⟩:=hn.one ek
 obtain⟨k1,g1,n1⟩:=hrest 0 _ rfl
 have c5:w.cell? ⟨b,5,none⟩=some (.slice (some ⟨g,0,none⟩) 2 cap):=c5
 have oc:=adc hx hm (k:=c2) (by rw[ek];simp) hv2
 have HC0:=zb fun (w1:World) (ha:Add w w1)=>aj6 hW (hg.add ha) (d:=d) (hn.add ha) hx hm hd ek hv
 have HC1:=zb fun (w1:World) (ha:Add w w1)=>ae4 hW (hg.add ha) (d:=d) (n1.add ha) oc.1 oc.2.1 oc.2.2 (Nat.le_of_succ_le hd)
 have hz0:=ads hW hx hm hd (k:=c) (by rw[ek];simp) hv 8
 rw[←aa3 ek] at hz0
 have hz1:=ads hW hx hm hd (k:=c2) (by rw[ek];simp) hv2 1
 have ha0:=qE w d
 have q0:=qD w d
 have c0':=ha0.cellk c0
 have HX:=zb (show zy R d t=(((zu R d 8 (kid t 0)++⟨#[91]⟩)++zu R d 1 c2)++⟨#[93]⟩) by unfold zy;rw[hk,if_neg (show ¬(aac 44).2=true by decide),if_neg (by decide),if_neg (by decide),if_neg (by decide),if_neg (by decide),if_pos rfl,aeu ek])
 have HS:=zb fun (w1:World) (ha:Add w w1)=>ael (hg.add ha).1.choose_spec.choose_spec 44
 have HA:=zb ha0
 have HG:=zb fun (w1:World) (ha:Add w w1)=>hg.add ha
 have hsg:aac 44=((zc,0,0),false):=rfl
 rw[hsg] at HS
 unfold aha at HS
 try unfold zc at HS
 clear hn hx hm hd hg hW ha0 hvx n0 n1 hrest oc g0
 generalize zu R d 8 (kid t 0)=X0 at *
 generalize zu R d 1 c2=X1 at *
 go_enter func229,ntmps229
 go_wp2_with fail
 refine(za HS _ (za HA)).mono ?_
 rintro e w1 ⟨rfl,ha1⟩
 have ha2:=((za HA).tr ha1).alloc (.cells #[.string ⟨#[]⟩,.int .i64 0,.int .i64 0] 224)
 have hb2:=((Add.refl w1).alloc (.cells #[.string ⟨#[]⟩,.int .i64 0,.int .i64 0] 224))
 have y0:=(ha1.alloc (.cells #[.string ⟨#[]⟩,.int .i64 0,.int .i64 0] 224)).cellk q0
 have c0a:=ha1.cellk c0'
 have c0b:(w1.alloc (.cells #[.string ⟨#[]⟩,.int .i64 0,.int .i64 0] 224)).cell? ⟨b,0,none⟩=some (.int .i64 44):=ha2.cellk c0
 have c5':(w1.alloc (.cells #[.string ⟨#[]⟩,.int .i64 0,.int .i64 0] 224)).cell? ⟨b,5,none⟩=some (.slice (some ⟨g,0,none⟩) 2 cap):=ha2.cellk c5
 have g1':(w1.alloc (.cells #[.string ⟨#[]⟩,.int .i64 0,.int .i64 0] 224)).cell? ⟨g,1,none⟩=some (.pointer (some ⟨k1,0,none⟩)):=ha2.cellk g1
 have HA2:=zb ha2
 clear ha1 ha2 hb2 HA HS q0 c0' c0 c0a c5 g1
 go_wp2_with fail
 generalize w1.alloc (.cells #[.string ⟨#[]⟩,.int .i64 0,.int .i64 0] 224)=wb at *
 have ent0:∀w:World,Sem.run prog (callFunc 247 #[.agg #[.int .i64 d],.pointer (some ⟨b,0,none⟩)]) w=.ok (.enter 247 #[.agg #[.int .i64 d],.pointer (some ⟨b,0,none⟩)]) w:=fun _=>by kernel_rfl
 have ent1:∀w:World,Sem.run prog (callFunc 131 #[.agg #[.int .i64 d],.pointer (some ⟨k1,0,none⟩)]) w=.ok (.enter 131 #[.agg #[.int .i64 d],.pointer (some ⟨k1,0,none⟩)]) w:=fun _=>by kernel_rfl
 refine wp_region_held_drew (S:=fun w'=>w'.cell? ⟨w.heap.size,0,none⟩=some (.int .i64 d)∧w'.cell? ⟨b,5,none⟩=some (.slice (some ⟨g,0,none⟩) 2 cap)∧w'.cell? ⟨g,1,none⟩=some (.pointer (some ⟨k1,0,none⟩))∧Hid (Add w w')) (by kernel_rfl) ⟨y0,c5',g1',(za HA2).drew⟩ (fun hHeld=>?_)
 refine tka 0 101 rfl ?_
 refine tka 1 102 rfl ?_
 refine tka 4 105 rfl ?_
 refine tka 5 106 rfl ?_
 refine tka 6 107 rfl ?_
 refine tka 7 108 rfl ?_
 refine tka 8 109 rfl ?_
 refine tka 9 110 rfl ?_
 simp only[sA,sB,sC]
 refine tka 10 111 rfl ?_
 simp only[sA,sB,sC]
 refine wpAnyH_ready (rs:=[2]) (by kernel_rfl) (by simp) ?_
 refine AllReadyH.cons (o:={ dst:=some 103,op:=_,type:=_,pos:=_,after:=_,guard:=_ }) rfl (fun K hK=>?_) AllReadyH.nil
 refine zm (by kernel_rfl) (by simp[Act.eval,ent0,go_sem]) ((za HC0 _ (za hHeld.2.2.2)).mono ?_)
 rintro e wc0 ⟨rfl,hac0⟩
 refine hK.out _ _ ⟨hac0.cellk hHeld.1,hac0.cellk hHeld.2.1,hac0.cellk hHeld.2.2.1,(za hHeld.2.2.2).tr hac0⟩ (fun hHeld2=>?_)
 clear hK K
 simp only[Act.put,sA,sB,sC]
 refine tkb 3 104 rfl ?_
 simp only[sA,sB,sC]
 refine wpAnyH_ready (rs:=[11]) (by kernel_rfl) (by simp) ?_
 refine AllReadyH.cons (o:={ dst:=some 112,op:=_,type:=_,pos:=_,after:=_,guard:=_ }) rfl (fun K hK=>?_) AllReadyH.nil
 refine zm (by kernel_rfl) (by simp[Act.eval,ent1,go_sem]) ((za HC1 _ (za hHeld2.2.2.2)).mono ?_)
 rintro e wc1 ⟨rfl,hac1⟩
 refine hK.out _ _ ⟨hac1.cellk hHeld2.1,hac1.cellk hHeld2.2.1,hac1.cellk hHeld2.2.2.1,(za hHeld2.2.2.2).tr hac1⟩ (fun hHeld11=>?_)
 clear hK K
 simp only[Act.put,sA,sB,sC]
 refine tkb 12 113 rfl ?_
 refine tkb 13 114 rfl ?_
 refine tka 14 4 rfl ?_
 simp only[sA,sB,sC]
 refine wpAnyH_done (by kernel_rfl) ?_ _
 go_wp2_with fail
 go_ret
 rw[za HX]
 exact⟨rfl,(za hHeld11.2.2.2)⟩
theorem ast {R:Wr} {f D:Nat} (hW:WB R f D) {w:World} (hg:SG w) {b d:Nat} {t:Tree} (hn:Nd w b t) (hx:Wx t) (hm:t.many≤f+1) (hd:d+1≤D) (hk:t.kind=43) :
  Calls prog 229 #[.agg #[.int .i64 d],.pointer (some ⟨b,0,none⟩)] w fun e w'=>e=.returned (.string (zy R d t))∧Add w w':=by
 obtain⟨ksx,hvx⟩:=hn.view
 have c0:=hvx.c0
 rw[hk] at c0
 obtain⟨c,l,ek,hv,hl8,hvl⟩:=(show ∃a l,t.kids=a :: l∧vK a∧l.length≤8∧∀k∈l,vK k by have:=hx.here.2;rw[hk] at this;exact this)
 obtain⟨g,cap,k0,hcap,hmx,c5,g0,n0,hrest⟩:=hn.one ek
 obtain⟨L,hL⟩:∃L,l.length=L:=⟨_,rfl⟩
 have c5:w.cell? ⟨b,5,none⟩=some (.slice (some ⟨g,0,none⟩) (L+1) cap):=by rw[←hL];exact c5
 have hvo:ahx f l:=agi hx hm fun k hk'=>⟨by rw[ek];exact List.mem_cons_of_mem _ hk',hvl k hk'⟩
 have hml:aay l≤1200:=by have:=ac5 hW.f hm;rw[ek,zx] at this;omega
 rw[hL] at hl8 hcap
 have hcap2:(1:Int)≤(L:Int)+1:=by omega
 have hmx2:cap≤9223372036854775807:=by unfold maxLen at hmx;omega
 have hll:∀k∈l,k∈t.kids∧vK k:=fun k hk'=>⟨by rw[ek];exact List.mem_cons_of_mem _ hk',hvl k hk'⟩
 have rt:=aj7 hL hcap hmx hrest
 have HC1:=zb fun (w1:World) (ha:Add w w1)=>afz hW (hg.add ha) (d:=d) (rt.add ha) hvo hml (Nat.le_of_succ_le hd)
 have hz1:=ajl hW hx hm hd hll hml
 have c1:=hvx.c1
 have ht:=(abf hx.here.1).1
 have HC0:=zb fun (w1:World) (ha:Add w w1)=>aj6 hW (hg.add ha) (d:=d) (hn.add ha) hx hm hd ek hv
 have hz0:=ads hW hx hm hd (k:=c) (by rw[ek];simp) hv 8
 rw[←aa3 ek] at hz0
 have ha0:=qE w d
 have q0:=qD w d
 have c0':=ha0.cellk c0
 have HX:=zb (show zy R d t=(((zu R d 8 (kid t 0)++⟨#[46]⟩)++t.text)++ab2 R d l) by unfold zy;rw[hk,if_neg (show ¬(aac 43).2=true by decide),if_neg (by decide),if_neg (by decide),if_neg (by decide),if_pos rfl,show t.kids.drop 1=l by rw[ek];rfl])
 have HS:=zb fun (w1:World) (ha:Add w w1)=>ael (hg.add ha).1.choose_spec.choose_spec 43
 have HA:=zb ha0
 have HG:=zb fun (w1:World) (ha:Add w w1)=>hg.add ha
 have hsg:aac 43=((zc,0,0),false):=rfl
 rw[hsg] at HS
 unfold aha at HS
 try unfold zc at HS
 clear hn hx hm hd hg hW ha0 hvx n0 hrest rt hvo hvl hll hml hL g0 hmx
 generalize zu R d 8 (kid t 0)=X0 at *
 generalize ab2 R d l=X1 at *
 go_enter func229,ntmps229
 go_wp2_with fail
 refine(za HS _ (za HA)).mono ?_
 rintro e w1 ⟨rfl,ha1⟩
 have ha2:=((za HA).tr ha1).alloc (.cells #[.string ⟨#[]⟩,.int .i64 0,.int .i64 0] 224)
 have hb2:=((Add.refl w1).alloc (.cells #[.string ⟨#[]⟩,.int .i64 0,.int .i64 0] 224))
 have y0:=(ha1.alloc (.cells #[.string ⟨#[]⟩,.int .i64 0,.int .i64 0] 224)).cellk q0
 have c0a:=ha1.cellk c0'
 have c0b:(w1.alloc (.cells #[.string ⟨#[]⟩,.int .i64 0,.int .i64 0] 224)).cell? ⟨b,0,none⟩=some (.int .i64 43):=ha2.cellk c0
 have c1':(w1.alloc (.cells #[.string ⟨#[]⟩,.int .i64 0,.int .i64 0] 224)).cell? ⟨b,1,none⟩=some (.string t.text):=ha2.cellk c1
 have c5':(w1.alloc (.cells #[.string ⟨#[]⟩,.int .i64 0,.int .i64 0] 224)).cell? ⟨b,5,none⟩=some (.slice (some ⟨g,0,none⟩) (L+1) cap):=ha2.cellk c5
 have HA2:=zb ha2
 clear ha1 ha2 hb2 HA HS q0 c0' c0 c0a c1 c5
 go_wp2_with fail
 generalize w1.alloc (.cells #[.string ⟨#[]⟩,.int .i64 0,.int .i64 0] 224)=wb at *
 have ent0:∀w:World,Sem.run prog (callFunc 247 #[.agg #[.int .i64 d],.pointer (some ⟨b,0,none⟩)]) w=.ok (.enter 247 #[.agg #[.int .i64 d],.pointer (some ⟨b,0,none⟩)]) w:=fun _=>by kernel_rfl
 have ent1:∀w:World,Sem.run prog (callFunc 248 #[.agg #[.int .i64 d],.slice (if cap=1 then some (⟨g,0,none⟩:Addr) else some ⟨g,1,none⟩) L (cap-1)]) w=.ok (.enter 248 #[.agg #[.int .i64 d],.slice (if cap=1 then some (⟨g,0,none⟩:Addr) else some ⟨g,1,none⟩) L (cap-1)]) w:=fun _=>by kernel_rfl
 refine wp_region_held_drew (S:=fun w'=>w'.cell? ⟨w.heap.size,0,none⟩=some (.int .i64 d)∧w'.cell? ⟨b,1,none⟩=some (.string t.text)∧w'.cell? ⟨b,5,none⟩=some (.slice (some ⟨g,0,none⟩) (L+1) cap)∧Hid (Add w w')) (by kernel_rfl) ⟨y0,c1',c5',(za HA2).drew⟩ (fun hHeld=>?_)
 refine tka 0 82 rfl ?_
 refine tka 1 83 rfl ?_
 refine tka 4 86 rfl ?_
 refine tka 5 87 rfl ?_
 refine tka 6 88 rfl ?_
 refine tka 7 89 rfl ?_
 refine tka 9 91 rfl ?_
 refine tka 10 92 rfl ?_
 simp only[sA,sB,sC]
 refine tka 11 93 rfl ?_
 refine tka 12 94 rfl ?_
 refine tka 13 95 rfl ?_
 refine tka 14 96 rfl ?_
 simp only[sA,sB,sC]
 refine wpAnyH_ready (rs:=[2]) (by kernel_rfl) (by simp) ?_
 refine AllReadyH.cons (o:={ dst:=some 84,op:=_,type:=_,pos:=_,after:=_,guard:=_ }) rfl (fun K hK=>?_) AllReadyH.nil
 refine zm (by kernel_rfl) (by simp[Act.eval,ent0,go_sem]) ((za HC0 _ (za hHeld.2.2.2)).mono ?_)
 rintro e wc0 ⟨rfl,hac0⟩
 refine hK.out _ _ ⟨hac0.cellk hHeld.1,hac0.cellk hHeld.2.1,hac0.cellk hHeld.2.2.1,(za hHeld.2.2.2).tr hac0⟩ (fun hHeld2=>?_)
 clear hK K
 simp only[Act.put,sA,sB,sC]
 refine tkb 3 85 rfl ?_
 refine tkb 8 90 rfl ?_
 simp only[sA,sB,sC]
 refine wpAnyH_ready (rs:=[15]) (by kernel_rfl) (by simp) ?_
 refine AllReadyH.cons (o:={ dst:=some 97,op:=_,type:=_,pos:=_,after:=_,guard:=_ }) rfl (fun K hK=>?_) AllReadyH.nil
 refine zm (by kernel_rfl) (by simp[Act.eval,ent1,go_sem]) ((za HC1 _ (za hHeld2.2.2.2)).mono ?_)
 rintro e wc1 ⟨rfl,hac1⟩
 refine hK.out _ _ ⟨hac1.cellk hHeld2.1,hac1.cellk hHeld2.2.1,hac1.cellk hHeld2.2.2.1,(za hHeld2.2.2.2).tr hac1⟩ (fun hHeld15=>?_)
 clear hK K
 simp only[Act.put,sA,sB,sC]
 refine tkb 16 98 rfl ?_
 refine tka 17 4 rfl ?_
 simp only[sA,sB,sC]
 refine wpAnyH_done (by kernel_rfl) ?_ _
 generalize (if cap=1 then some (⟨g,0,none⟩:Addr) else some ⟨g,1,none⟩)=gb
 go_wp2_with fail
 go_ret
 rw[za HX]
 exact⟨rfl,(za hHeld15.2.2.2)⟩
theorem ami {R:Wr} {f D:Nat} (hW:WB R f D) {w:World} (hg:SG w) {b d:Nat} {t:Tree} (hn:Nd w b t) (hx:Wx t) (hm:t.many≤f+1) (hd:d+1≤D) (hk:t.kind=45) (h42:(kid t 0).kind=42) :
  Calls prog 229 #[.agg #[.int .i64 d],.pointer (some ⟨b,0,none⟩)] w fun e w'=>e=.returned (.string (zy R d t))∧Add w w':=by
 obtain⟨ksx,hvx⟩:=hn.view
 have c0:=hvx.c0
 rw[hk] at c0
 obtain⟨c,l,ek,hv,hl8,hvl⟩:=(show ∃a l,t.kids=a :: l∧vK a∧l.length≤8∧∀k∈l,vK k by have:=hx.here.2;rw[hk] at this;exact this)
 obtain⟨g,cap,k0,hcap,hmx,c5,g0,n0,hrest⟩:=hn.one ek
 obtain⟨L,hL⟩:∃L,l.length=L:=⟨_,rfl⟩
 have c5:w.cell? ⟨b,5,none⟩=some (.slice (some ⟨g,0,none⟩) (L+1) cap):=by rw[←hL];exact c5
 have hvo:ahx f l:=agi hx hm fun k hk'=>⟨by rw[ek];exact List.mem_cons_of_mem _ hk',hvl k hk'⟩
 have hml:aay l≤1200:=by have:=ac5 hW.f hm;rw[ek,zx] at this;omega
 rw[hL] at hl8 hcap
 have hcap2:(1:Int)≤(L:Int)+1:=by omega
 have hmx2:cap≤9223372036854775807:=by unfold maxLen at hmx;omega
 have hll:∀k∈l,k∈t.kids∧vK k:=fun k hk'=>⟨by rw[ek];exact List.mem_cons_of_mem _ hk',hvl k hk'⟩
 have rt:=aj7 hL hcap hmx hrest
 have HC1:=zb fun (w1:World) (ha:Add w w1)=>afz hW (hg.add ha) (d:=d) (rt.add ha) hvo hml (Nat.le_of_succ_le hd)
 have hz1:=ajl hW hx hm hd hll hml
 have HC0:=zb fun (w1:World) (ha:Add w w1)=>aqq hW (hg.add ha) (d:=d) (hn.add ha) hx hm hd ek hv (by rw[aa3 ek] at h42;exact h42)
 have hz0:(adp R d t).size≤50000000:=by
  have a1:=ads hW hx hm hd (k:=c) (by rw[ek];simp) hv 8
  have a2:=aox hW hx hm hd (k:=c) (by rw[ek];simp) hv
  unfold adp
  rw[aa3 ek]
  split
  ·simp only[ByteArray.size_append,bsz,List.size_toArray,List.length_cons,List.length_nil];omega
  ·omega
 have ha0:=qE w d
 have q0:=qD w d
 have c0':=ha0.cellk c0
 have HX:=zb (show zy R d t=(adp R d t++ab2 R d l) by unfold zy;rw[hk,if_neg (show ¬(aac 45).2=true by decide),if_neg (by decide),if_neg (by decide),if_neg (by decide),if_neg (by decide),if_neg (by decide),if_pos rfl,show t.kids.drop 1=l by rw[ek];rfl])
 have HS:=zb fun (w1:World) (ha:Add w w1)=>ael (hg.add ha).1.choose_spec.choose_spec 45
 have HA:=zb ha0
 have HG:=zb fun (w1:World) (ha:Add w w1)=>hg.add ha
 have hsg:aac 45=((zc,0,0),false):=rfl
 rw[hsg] at HS
 unfold aha at HS
 try unfold zc at HS
 clear hn hx hm hd hg hW ha0 hvx n0 hrest rt hvo hvl hll hml hL g0 hmx
 generalize adp R d t=X0 at *
 generalize ab2 R d l=X1 at *
 go_enter func229,ntmps229
 go_wp2_with fail
 refine(za HS _ (za HA)).mono ?_
 rintro e w1 ⟨rfl,ha1⟩
 have ha2:=((za HA).tr ha1).alloc (.cells #[.string ⟨#[]⟩,.int .i64 0,.int .i64 0] 224)
 have hb2:=((Add.refl w1).alloc (.cells #[.string ⟨#[]⟩,.int .i64 0,.int .i64 0] 224))
 have y0:=(ha1.alloc (.cells #[.string ⟨#[]⟩,.int .i64 0,.int .i64 0] 224)).cellk q0
 have c0a:=ha1.cellk c0'
 have c0b:(w1.alloc (.cells #[.string ⟨#[]⟩,.int .i64 0,.int .i64 0] 224)).cell? ⟨b,0,none⟩=some (.int .i64 45):=ha2.cellk c0
 have c5':(w1.alloc (.cells #[.string ⟨#[]⟩,.int .i64 0,.int .i64 0] 224)).cell? ⟨b,5,none⟩=some (.slice (some ⟨g,0,none⟩) (L+1) cap):=ha2.cellk c5
 have HA2:=zb ha2
 clear ha1 ha2 hb2 HA HS q0 c0' c0 c0a c5
 go_wp2_with fail
 generalize w1.alloc (.cells #[.string ⟨#[]⟩,.int .i64 0,.int .i64 0] 224)=wb at *
 have ent0:∀w:World,Sem.run prog (callFunc 249 #[.agg #[.int .i64 d],.pointer (some ⟨b,0,none⟩)]) w=.ok (.enter 249 #[.agg #[.int .i64 d],.pointer (some ⟨b,0,none⟩)]) w:=fun _=>by kernel_rfl
 have ent1:∀w:World,Sem.run prog (callFunc 248 #[.agg #[.int .i64 d],.slice (if cap=1 then some (⟨g,0,none⟩:Addr) else some ⟨g,1,none⟩) L (cap-1)]) w=.ok (.enter 248 #[.agg #[.int .i64 d],.slice (if cap=1 then some (⟨g,0,none⟩:Addr) else some ⟨g,1,none⟩) L (cap-1)]) w:=fun _=>by kernel_rfl
 refine wp_region_held_drew (S:=fun w'=>w'.cell? ⟨w.heap.size,0,none⟩=some (.int .i64 d)∧w'.cell? ⟨b,5,none⟩=some (.slice (some ⟨g,0,none⟩) (L+1) cap)∧Hid (Add w w')) (by kernel_rfl) ⟨y0,c5',(za HA2).drew⟩ (fun hHeld=>?_)
 refine tka 0 117 rfl ?_
 refine tka 1 118 rfl ?_
 refine tka 3 120 rfl ?_
 refine tka 4 121 rfl ?_
 refine tka 5 122 rfl ?_
 refine tka 6 123 rfl ?_
 refine tka 7 124 rfl ?_
 refine tka 8 125 rfl ?_
 simp only[sA,sB,sC]
 refine wpAnyH_ready (rs:=[2]) (by kernel_rfl) (by simp) ?_
 refine AllReadyH.cons (o:={ dst:=some 119,op:=_,type:=_,pos:=_,after:=_,guard:=_ }) rfl (fun K hK=>?_) AllReadyH.nil
 refine zm (by kernel_rfl) (by simp[Act.eval,ent0,go_sem]) ((za HC0 _ (za hHeld.2.2)).mono ?_)
 rintro e wc0 ⟨rfl,hac0⟩
 refine hK.out _ _ ⟨hac0.cellk hHeld.1,hac0.cellk hHeld.2.1,(za hHeld.2.2).tr hac0⟩ (fun hHeld2=>?_)
 clear hK K
 simp only[Act.put,sA,sB,sC]
 refine wpAnyH_ready (rs:=[9]) (by kernel_rfl) (by simp) ?_
 refine AllReadyH.cons (o:={ dst:=some 126,op:=_,type:=_,pos:=_,after:=_,guard:=_ }) rfl (fun K hK=>?_) AllReadyH.nil
 refine zm (by kernel_rfl) (by simp[Act.eval,ent1,go_sem]) ((za HC1 _ (za hHeld2.2.2)).mono ?_)
 rintro e wc1 ⟨rfl,hac1⟩
 refine hK.out _ _ ⟨hac1.cellk hHeld2.1,hac1.cellk hHeld2.2.1,(za hHeld2.2.2).tr hac1⟩ (fun hHeld9=>?_)
 clear hK K
 simp only[Act.put,sA,sB,sC]
 refine tkb 10 127 rfl ?_
 refine tka 11 4 rfl ?_
 simp only[sA,sB,sC]
 refine wpAnyH_done (by kernel_rfl) ?_ _
 generalize (if cap=1 then some (⟨g,0,none⟩:Addr) else some ⟨g,1,none⟩)=gb
 go_wp2_with fail
 go_ret
 rw[za HX]
 exact⟨rfl,(za hHeld9.2.2)⟩
theorem akv {R:Wr} {f D:Nat} (hW:WB R f D) {w:World} (hg:SG w) {b d:Nat} {t:Tree} (hn:Nd w b t) (hx:Wx t) (hm:t.many≤f+1) (hd:d+1≤D) (hk:t.kind=45) (h42:(kid t 0).kind≠42) :
  Calls prog 229 #[.agg #[.int .i64 d],.pointer (some ⟨b,0,none⟩)] w fun e w'=>e=.returned (.string (zy R d t))∧Add w w':=by
 obtain⟨ksx,hvx⟩:=hn.view
 have c0:=hvx.c0
 rw[hk] at c0
 obtain⟨c,l,ek,hv,hl8,hvl⟩:=(show ∃a l,t.kids=a :: l∧vK a∧l.length≤8∧∀k∈l,vK k by have:=hx.here.2;rw[hk] at this;exact this)
 obtain⟨g,cap,k0,hcap,hmx,c5,g0,n0,hrest⟩:=hn.one ek
 obtain⟨L,hL⟩:∃L,l.length=L:=⟨_,rfl⟩
 have c5:w.cell? ⟨b,5,none⟩=some (.slice (some ⟨g,0,none⟩) (L+1) cap):=by rw[←hL];exact c5
 have hvo:ahx f l:=agi hx hm fun k hk'=>⟨by rw[ek];exact List.mem_cons_of_mem _ hk',hvl k hk'⟩
 have hml:aay l≤1200:=by have:=ac5 hW.f hm;rw[ek,zx] at this;omega
 rw[hL] at hl8 hcap
 have hcap2:(1:Int)≤(L:Int)+1:=by omega
 have hmx2:cap≤9223372036854775807:=by unfold maxLen at hmx;omega
 have hll:∀k∈l,k∈t.kids∧vK k:=fun k hk'=>⟨by rw[ek];exact List.mem_cons_of_mem _ hk',hvl k hk'⟩
 have rt:=aj7 hL hcap hmx hrest
 have HC1:=zb fun (w1:World) (ha:Add w w1)=>afz hW (hg.add ha) (d:=d) (rt.add ha) hvo hml (Nat.le_of_succ_le hd)
 have hz1:=ajl hW hx hm hd hll hml
 have HC0:=zb fun (w1:World) (ha:Add w w1)=>anl hW (hg.add ha) (d:=d) (hn.add ha) hx hm hd ek hv (by rw[aa3 ek] at h42;exact h42)
 have hz0:(adp R d t).size≤50000000:=by
  have a1:=ads hW hx hm hd (k:=c) (by rw[ek];simp) hv 8
  have a2:=aox hW hx hm hd (k:=c) (by rw[ek];simp) hv
  unfold adp
  rw[aa3 ek]
  split
  ·simp only[ByteArray.size_append,bsz,List.size_toArray,List.length_cons,List.length_nil];omega
  ·omega
 have ha0:=qE w d
 have q0:=qD w d
 have c0':=ha0.cellk c0
 have HX:=zb (show zy R d t=(adp R d t++ab2 R d l) by unfold zy;rw[hk,if_neg (show ¬(aac 45).2=true by decide),if_neg (by decide),if_neg (by decide),if_neg (by decide),if_neg (by decide),if_neg (by decide),if_pos rfl,show t.kids.drop 1=l by rw[ek];rfl])
 have HS:=zb fun (w1:World) (ha:Add w w1)=>ael (hg.add ha).1.choose_spec.choose_spec 45
 have HA:=zb ha0
 have HG:=zb fun (w1:World) (ha:Add w w1)=>hg.add ha
 have hsg:aac 45=((zc,0,0),false):=rfl
 rw[hsg] at HS
 unfold aha at HS
 try unfold zc at HS
 clear hn hx hm hd hg hW ha0 hvx n0 hrest rt hvo hvl hll hml hL g0 hmx
 generalize adp R d t=X0 at *
 generalize ab2 R d l=X1 at *
 go_enter func229,ntmps229
 go_wp2_with fail
 refine(za HS _ (za HA)).mono ?_
 rintro e w1 ⟨rfl,ha1⟩
 have ha2:=((za HA).tr ha1).alloc (.cells #[.string ⟨#[]⟩,.int .i64 0,.int .i64 0] 224)
 have hb2:=((Add.refl w1).alloc (.cells #[.string ⟨#[]⟩,.int .i64 0,.int .i64 0] 224))
 have y0:=(ha1.alloc (.cells #[.string ⟨#[]⟩,.int .i64 0,.int .i64 0] 224)).cellk q0
 have c0a:=ha1.cellk c0'
 have c0b:(w1.alloc (.cells #[.string ⟨#[]⟩,.int .i64 0,.int .i64 0] 224)).cell? ⟨b,0,none⟩=some (.int .i64 45):=ha2.cellk c0
 have c5':(w1.alloc (.cells #[.string ⟨#[]⟩,.int .i64 0,.int .i64 0] 224)).cell? ⟨b,5,none⟩=some (.slice (some ⟨g,0,none⟩) (L+1) cap):=ha2.cellk c5
 have HA2:=zb ha2
 clear ha1 ha2 hb2 HA HS q0 c0' c0 c0a c5
 go_wp2_with fail
 generalize w1.alloc (.cells #[.string ⟨#[]⟩,.int .i64 0,.int .i64 0] 224)=wb at *
 have ent0:∀w:World,Sem.run prog (callFunc 249 #[.agg #[.int .i64 d],.pointer (some ⟨b,0,none⟩)]) w=.ok (.enter 249 #[.agg #[.int .i64 d],.pointer (some ⟨b,0,none⟩)]) w:=fun _=>by kernel_rfl
 have ent1:∀w:World,Sem.run prog (callFunc 248 #[.agg #[.int .i64 d],.slice (if cap=1 then some (⟨g,0,none⟩:Addr) else some ⟨g,1,none⟩) L (cap-1)]) w=.ok (.enter 248 #[.agg #[.int .i64 d],.slice (if cap=1 then some (⟨g,0,none⟩:Addr) else some ⟨g,1,none⟩) L (cap-1)]) w:=fun _=>by kernel_rfl
 refine wp_region_held_drew (S:=fun w'=>w'.cell? ⟨w.heap.size,0,none⟩=some (.int .i64 d)∧w'.cell? ⟨b,5,none⟩=some (.slice (some ⟨g,0,none⟩) (L+1) cap)∧Hid (Add w w')) (by kernel_rfl) ⟨y0,c5',(za HA2).drew⟩ (fun hHeld=>?_)
 refine tka 0 117 rfl ?_
 refine tka 1 118 rfl ?_
 refine tka 3 120 rfl ?_
 refine tka 4 121 rfl ?_
 refine tka 5 122 rfl ?_
 refine tka 6 123 rfl ?_
 refine tka 7 124 rfl ?_
 refine tka 8 125 rfl ?_
 simp only[sA,sB,sC]
 refine wpAnyH_ready (rs:=[2]) (by kernel_rfl) (by simp) ?_
 refine AllReadyH.cons (o:={ dst:=some 119,op:=_,type:=_,pos:=_,after:=_,guard:=_ }) rfl (fun K hK=>?_) AllReadyH.nil
 refine zm (by kernel_rfl) (by simp[Act.eval,ent0,go_sem]) ((za HC0 _ (za hHeld.2.2)).mono ?_)
 rintro e wc0 ⟨rfl,hac0⟩
 refine hK.out _ _ ⟨hac0.cellk hHeld.1,hac0.cellk hHeld.2.1,(za hHeld.2.2).tr hac0⟩ (fun hHeld2=>?_)
 clear hK K
 simp only[Act.put,sA,sB,sC]
 refine wpAnyH_ready (rs:=[9]) (by kernel_rfl) (by simp) ?_
 refine AllReadyH.cons (o:={ dst:=some 126,op:=_,type:=_,pos:=_,after:=_,guard:=_ }) rfl (fun K hK=>?_) AllReadyH.nil
 refine zm (by kernel_rfl) (by simp[Act.eval,ent1,go_sem]) ((za HC1 _ (za hHeld2.2.2)).mono ?_)
 rintro e wc1 ⟨rfl,hac1⟩
 refine hK.out _ _ ⟨hac1.cellk hHeld2.1,hac1.cellk hHeld2.2.1,(za hHeld2.2.2).tr hac1⟩ (fun hHeld9=>?_)
 clear hK K
 simp only[Act.put,sA,sB,sC]
 refine tkb 10 127 rfl ?_
 refine tka 11 4 rfl ?_
 simp only[sA,sB,sC]
 refine wpAnyH_done (by kernel_rfl) ?_ _
 generalize (if cap=1 then some (⟨g,0,none⟩:Addr) else some ⟨g,1,none⟩)=gb
 go_wp2_with fail
 go_ret
 rw[za HX]
 exact⟨rfl,(za hHeld9.2.2)⟩
theorem pair_st:∀k,k<46→(aac k).2=true→(aac k).1.2.2≤6:=by decide
theorem asu {R:Wr} {f D:Nat} (hW:WB R f D) {w:World} (hg:SG w) {b d:Nat} {t:Tree} (hn:Nd w b t) (hx:Wx t) (hm:t.many≤f+1) (hd:d+1≤D) (hv0:vK t) (hp:(aac t.kind).2=true) :
  Calls prog 229 #[.agg #[.int .i64 d],.pointer (some ⟨b,0,none⟩)] w fun e w'=>e=.returned (.string (zy R d t))∧Add w w':=by
 obtain⟨ksx,hvx⟩:=hn.view
 have c0:=hvx.c0
 have h46:t.kind<46:=by unfold vK at hv0;omega
 obtain⟨h4,hms⟩:=aiy t.kind h46 hp
 have hst:=pair_st t.kind h46 hp
 obtain⟨c,c2,ek,hv,hv2⟩:=(show ∃a b,t.kids=[a,b]∧vK a∧vK b by have:=hx.here.2;rw[h4] at this;exact this)
 obtain⟨g,cap,k0,hcap,hmx,c5,g0,n0,hrest⟩:=hn.one ek
 obtain⟨k1,g1,n1⟩:=hrest 0 _ rfl
 have c5:w.cell? ⟨b,5,none⟩=some (.slice (some ⟨g,0,none⟩) 2 cap):=c5
 have oc:=adc hx hm (k:=c) (by rw[ek];simp) hv
 have oc2:=adc hx hm (k:=c2) (by rw[ek];simp) hv2
 obtain⟨⟨⟨m,kk,st⟩,bb⟩,hsp⟩:∃z,aac t.kind=z:=⟨_,rfl⟩
 have hbb:bb=true:=by rw[hsp] at hp;exact hp
 subst hbb
 rw[hsp] at hms hst
 have hms:m.size≤2:=hms
 have hst:st≤6:=hst
 have HC0:=zb fun (w1:World) (ha:Add w w1)=>af1 hW (hg.add ha) (d:=d) (l:=st) (n0.add ha) oc.1 oc.2.1 oc.2.2 (Nat.le_of_succ_le hd)
 have HC1:=zb fun (w1:World) (ha:Add w w1)=>show Calls prog 193 #[.agg #[.int .i64 d],.int .i64 ((st:Int)+1),.pointer (some ⟨k1,0,none⟩)] w1 fun e w'=>e=.returned (.string (zu R d (st+1) c2))∧Add w1 w' from af1 hW (hg.add ha) (d:=d) (l:=st+1) (n1.add ha) oc2.1 oc2.2.1 oc2.2.2 (Nat.le_of_succ_le hd)
 have hwr:IntKind.i64.wrap ((st:Int)+1)=(st:Int)+1:=by rw[IntKind.wrap_i64];omega
 have hz0:=ads hW hx hm hd (k:=c) (by rw[ek];simp) hv st
 have hz1:=ads hW hx hm hd (k:=c2) (by rw[ek];simp) hv2 (st+1)
 have ha0:=qE w d
 have q0:=qD w d
 have c0':=ha0.cellk c0
 have HX:=zb (show zy R d t=((((zu R d st c++⟨#[32]⟩)++m)++⟨#[32]⟩)++zu R d (st+1) c2) by unfold zy;rw[hsp,if_pos rfl,aa3 ek,aeu ek])
 have HS:=zb fun (w1:World) (ha:Add w w1)=>ael (hg.add ha).1.choose_spec.choose_spec t.kind
 have HA:=zb ha0
 have HG:=zb fun (w1:World) (ha:Add w w1)=>hg.add ha
 rw[hsp] at HS
 clear hsp
 unfold aha at HS
 try unfold zc at HS
 clear hn hx hm hd hg hW ha0 hvx n0 n1 hrest oc oc2 hp h4
 generalize zu R d st c=X0 at *
 generalize zu R d (st+1) c2=X1 at *
 go_enter func229,ntmps229
 go_wp2_with fail
 refine(za HS _ (za HA)).mono ?_
 rintro e w1 ⟨rfl,ha1⟩
 have ha2:=((za HA).tr ha1).alloc (.cells #[.string m,.int .i64 kk,.int .i64 st] 224)
 have hb2:=((Add.refl w1).alloc (.cells #[.string m,.int .i64 kk,.int .i64 st] 224))
 have y0:=(ha1.alloc (.cells #[.string m,.int .i64 kk,.int .i64 st] 224)).cellk q0
 have c0a:=ha1.cellk c0'
 have c0b:(w1.alloc (.cells #[.string m,.int .i64 kk,.int .i64 st] 224)).cell? ⟨b,0,none⟩=some (.int .i64 t.kind):=ha2.cellk c0
 have c5':(w1.alloc (.cells #[.string m,.int .i64 kk,.int .i64 st] 224)).cell? ⟨b,5,none⟩=some (.slice (some ⟨g,0,none⟩) 2 cap):=ha2.cellk c5
 have g0':(w1.alloc (.cells #[.string m,.int .i64 kk,.int .i64 st] 224)).cell? ⟨g,0,none⟩=some (.pointer (some ⟨k0,0,none⟩)):=ha2.cellk g0
 have g1':(w1.alloc (.cells #[.string m,.int .i64 kk,.int .i64 st] 224)).cell? ⟨g,1,none⟩=some (.pointer (some ⟨k1,0,none⟩)):=ha2.cellk g1
 have y1:(w1.alloc (.cells #[.string m,.int .i64 kk,.int .i64 st] 224)).cell? ⟨w1.heap.size,0,none⟩=some (.string m):=zd (aaq _ _) 0
 have y2:(w1.alloc (.cells #[.string m,.int .i64 kk,.int .i64 st] 224)).cell? ⟨w1.heap.size,2,none⟩=some (.int .i64 st):=zd (aaq _ _) 2
 have HA2:=zb ha2
 clear ha1 ha2 hb2 HA HS q0 c0' c0 c0a c5 g0 g1
 go_wp2_with fail
 generalize w1.alloc (.cells #[.string m,.int .i64 kk,.int .i64 st] 224)=wb at *
 have ent0:∀w:World,Sem.run prog (callFunc 193 #[.agg #[.int .i64 d],.int .i64 st,.pointer (some ⟨k0,0,none⟩)]) w=.ok (.enter 193 #[.agg #[.int .i64 d],.int .i64 st,.pointer (some ⟨k0,0,none⟩)]) w:=fun _=>by kernel_rfl
 have ent1:∀w:World,Sem.run prog (callFunc 193 #[.agg #[.int .i64 d],.int .i64 ((st:Int)+1),.pointer (some ⟨k1,0,none⟩)]) w=.ok (.enter 193 #[.agg #[.int .i64 d],.int .i64 ((st:Int)+1),.pointer (some ⟨k1,0,none⟩)]) w:=fun _=>by kernel_rfl
 refine wp_region_held_drew (S:=fun w'=>w'.cell? ⟨w.heap.size,0,none⟩=some (.int .i64 d)∧w'.cell? ⟨w1.heap.size,0,none⟩=some (.string m)∧w'.cell? ⟨w1.heap.size,2,none⟩=some (.int .i64 st)∧w'.cell? ⟨b,5,none⟩=some (.slice (some ⟨g,0,none⟩) 2 cap)∧w'.cell? ⟨g,0,none⟩=some (.pointer (some ⟨k0,0,none⟩))∧w'.cell? ⟨g,1,none⟩=some (.pointer (some ⟨k1,0,none⟩))∧Hid (Add w w')) (by kernel_rfl) ⟨y0,y1,y2,c5',g0',g1',(za HA2).drew⟩ (fun hHeld=>?_)
 refine tka 0 16 rfl ?_
 refine tka 1 17 rfl ?_
 refine tka 2 18 rfl ?_
 refine tka 3 19 rfl ?_
 refine tka 4 20 rfl ?_
 refine tka 5 21 rfl ?_
 refine tka 6 22 rfl ?_
 refine tka 7 23 rfl ?_
 simp only[sA,sB,sC]
 refine tka 8 24 rfl ?_
 refine tka 11 27 rfl ?_
 refine tka 12 28 rfl ?_
 refine tka 15 31 rfl ?_
 refine tka 16 32 rfl ?_
 refine tka 17 33 rfl ?_
 refine tka 18 34 rfl ?_
 refine tka 19 35 rfl ?_
 simp only[sA,sB,sC]
 refine tka 20 36 rfl ?_
 refine tka 21 37 rfl ?_
 refine tka 22 38 rfl ?_
 refine tka 23 39 rfl ?_
 refine tka 24 40 rfl ?_
 simp only[sA,sB,sC]
 refine wpAnyH_ready (rs:=[9]) (by kernel_rfl) (by simp) ?_
 refine AllReadyH.cons (o:={ dst:=some 25,op:=_,type:=_,pos:=_,after:=_,guard:=_ }) rfl (fun K hK=>?_) AllReadyH.nil
 refine zm (by kernel_rfl) (by simp[Act.eval,ent0,go_sem]) ((za HC0 _ (za hHeld.2.2.2.2.2.2)).mono ?_)
 rintro e wc0 ⟨rfl,hac0⟩
 refine hK.out _ _ ⟨hac0.cellk hHeld.1,hac0.cellk hHeld.2.1,hac0.cellk hHeld.2.2.1,hac0.cellk hHeld.2.2.2.1,hac0.cellk hHeld.2.2.2.2.1,hac0.cellk hHeld.2.2.2.2.2.1,(za hHeld.2.2.2.2.2.2).tr hac0⟩ (fun hHeld9=>?_)
 clear hK K
 simp only[Act.put,sA,sB,sC]
 refine tkb 10 26 rfl ?_
 refine tkb 13 29 rfl ?_
 refine tkb 14 30 rfl ?_
 simp only[sA,sB,sC]
 refine wpAnyH_ready (rs:=[25]) (by kernel_rfl) (by simp) ?_
 refine AllReadyH.cons (o:={ dst:=some 41,op:=_,type:=_,pos:=_,after:=_,guard:=_ }) rfl (fun K hK=>?_) AllReadyH.nil
 refine zm (by kernel_rfl) (by simp[Act.eval,hwr,ent1,go_sem]) ((za HC1 _ (za hHeld9.2.2.2.2.2.2)).mono ?_)
 rintro e wc1 ⟨rfl,hac1⟩
 refine hK.out _ _ ⟨hac1.cellk hHeld9.1,hac1.cellk hHeld9.2.1,hac1.cellk hHeld9.2.2.1,hac1.cellk hHeld9.2.2.2.1,hac1.cellk hHeld9.2.2.2.2.1,hac1.cellk hHeld9.2.2.2.2.2.1,(za hHeld9.2.2.2.2.2.2).tr hac1⟩ (fun hHeld25=>?_)
 clear hK K
 simp only[Act.put,sA,sB,sC]
 refine tkb 26 42 rfl ?_
 refine tka 27 4 rfl ?_
 simp only[sA,sB,sC]
 refine wpAnyH_done (by kernel_rfl) ?_ _
 go_wp2_with fail
 go_ret
 rw[za HX]
 exact⟨rfl,(za hHeld25.2.2.2.2.2.2)⟩
end Go.Proofs.YtndgajlidckcdaaGreatDoor
