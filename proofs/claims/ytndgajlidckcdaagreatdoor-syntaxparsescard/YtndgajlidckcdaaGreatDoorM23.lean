/- A part. -/
import Derived.Test.YtndgajlidckcdaaGreatDoorM22
open Go.Proofs.Tryz
namespace Go.Proofs.YtndgajlidckcdaaGreatDoor
open Go.RowKit
set_option linter.unusedVariables false
set_option linter.unusedSimpArgs false
set_option maxRecDepth 100000
set_option maxHeartbeats 8000000
theorem rvl_new {R:Wr} {f D:Nat} (hW:DB R f D) {w:World} (hg:RE w) {b d:Nat} {t:Tree} (hn:Nd w b t) (hx:Wx t) (hm:t.many≤f+1) (hd:d+1≤D) {l:Nat} (hk:t.kind=25) (hl:l<8) :
  Calls prog 82 #[.pointer (some ⟨b,0,none⟩),.int .i64 l,.string (xIn d)] w fun e w'=>e=.returned (.string (zy R d t))∧Add w w':=by
 obtain⟨ksx,hvx⟩:=hn.view
 have c0:=hvx.c0
 rw[hk] at c0
 have hvt:vK t:=by unfold vK;omega
 have hl2:¬(7:Int)<(l:Int):=by omega
 have HR:=zb fun (w1:World) (ha:Add w w1)=>show Calls prog 136 #[.pointer (some ⟨b,0,none⟩)] w1 fun e w'=>e=.returned (.int .i64 7)∧w'=w1 by
  have:=acm (hn.add ha) hvt
  rw[hk,show aap 25=8 from rfl] at this
  exact this
 obtain⟨hl8,hvl⟩:=(show t.kids.length≤8∧∀k∈t.kids,vK k by have:=hx.here.2;rw[hk] at this;exact this)
 have hll:∀k∈t.kids,k∈t.kids∧vK k:=fun k hk'=>⟨hk',hvl k hk'⟩
 have hml:=ac5 hW.f hm
 have c1:=hvx.c1
 have ht:=(abf hx.here.1).1
 have HC0:=zb fun (w1:World) (ha:Add w w1) (hq0:w1.cell? ⟨w.heap.size,0,none⟩=some (.pointer (some ⟨b,0,none⟩))) (hq1:w1.cell? ⟨w.heap.size+1,0,none⟩=some (.string (xIn d)))=>avt hW (hg.add ha) (d:=d) (hn.add ha) hx hm hd hq0 hq1 hvl
 have hz1:(ab2 R d t.kids).size≤50000000:=by
  have:=ag5 hW hx hm hd hll hml
  unfold ab2
  simp only[ByteArray.size_append,bsz,List.size_toArray,List.length_cons,List.length_nil]
  omega
 have ha0:=qC w b (xIn d)
 have q0:=qA w b (xIn d)
 have q1:=qB w b (xIn d)
 have c0':=ha0.cellk c0
 have c1':=ha0.cellk c1
 have HX:=zb (show zy R d t=((⟨#[110,101,119,32]⟩++t.text)++ab2 R d t.kids) by unfold zy;rw[hk,if_neg (show ¬(aac 25).2=true by decide),if_neg (by decide),if_neg (by decide),if_neg (by decide),if_neg (by decide),if_neg (by decide),if_neg (by decide)];unfold aag;rw[hk,if_neg (by decide),if_neg (by decide),if_neg (by decide),if_neg (by decide),if_neg (by decide),if_neg (by decide),if_pos rfl])
 have HA:=zb ha0
 clear hn hx hm hd hg hW ha0 hvx c0 hvt hl hk hll hml hvl hl8 c1
 generalize ab2 R d t.kids=X0 at *
 go_enter func82,ntmps82
 go_wp2_with fail
 generalize ((w.alloc (.cells #[.pointer (some ⟨b,0,none⟩)] 22)).alloc (.cells #[.string (xIn d)] 9))=wb at *
 refine(za HR _ (za HA)).mono ?_
 rintro e w1 ⟨rfl,hw1⟩
 obtain rfl:=hw1.symm
 clear HR
 go_wp2_with fail
 have ent0:∀w:World,Sem.run prog (callFunc 138 #[.int .i64 0,.pointer (some ⟨w.heap.size,0,none⟩),.pointer (some ⟨w.heap.size+1,0,none⟩)]) w=.ok (.enter 138 #[.int .i64 0,.pointer (some ⟨w.heap.size,0,none⟩),.pointer (some ⟨w.heap.size+1,0,none⟩)]) w:=fun _=>by kernel_rfl
 refine wp_region_held_drew (S:=fun w'=>w'.cell? ⟨w.heap.size,0,none⟩=some (.pointer (some ⟨b,0,none⟩))∧w'.cell? ⟨w.heap.size+1,0,none⟩=some (.string (xIn d))∧w'.cell? ⟨b,1,none⟩=some (.string t.text)∧Hid (Add w w')) (by kernel_rfl) ⟨q0,q1,c1',(za HA).drew⟩ (fun hHeld=>?_)
 refine tka 0 96 rfl ?_
 refine tka 1 97 rfl ?_
 refine tka 2 98 rfl ?_
 refine tka 3 99 rfl ?_
 refine tkb 4 100 rfl ?_
 refine tka 5 101 rfl ?_
 simp only[sA,sB,sC]
 refine wpAnyH_ready (rs:=[6]) (by kernel_rfl) (by simp) ?_
 refine AllReadyH.cons (o:={ dst:=some 102,op:=_,type:=_,pos:=_,after:=_,guard:=_ }) rfl (fun K hK=>?_) AllReadyH.nil
 refine zm (by kernel_rfl) (by simp[Act.eval,ent0,go_sem]) ((za HC0 _ (za hHeld.2.2.2) hHeld.1 hHeld.2.1).mono ?_)
 rintro e wc0 ⟨rfl,hac0⟩
 refine hK.out _ _ ⟨hac0.cellk hHeld.1,hac0.cellk hHeld.2.1,hac0.cellk hHeld.2.2.1,(za hHeld.2.2.2).tr hac0⟩ (fun hHeld6=>?_)
 clear hK K
 simp only[Act.put,sA,sB,sC]
 refine tkb 7 103 rfl ?_
 refine tka 8 6 rfl ?_
 simp only[sA,sB,sC]
 refine wpAnyH_done (by kernel_rfl) ?_ _
 go_wp2_with fail
 go_ret
 rw[za HX]
 exact⟨rfl,(za hHeld6.2.2.2)⟩
theorem azy {R:Wr} {f D:Nat} (hW:DB R f D) {w:World} (hg:RE w) {b d:Nat} {t:Tree} (hn:Nd w b t) (hx:Wx t) (hm:t.many≤f+1) (hd:d+1≤D) {l:Nat} (hk:t.kind=26) (hl:l<8) :
  Calls prog 82 #[.pointer (some ⟨b,0,none⟩),.int .i64 l,.string (xIn d)] w fun e w'=>e=.returned (.string (zy R d t))∧Add w w':=by
 obtain⟨ksx,hvx⟩:=hn.view
 have c0:=hvx.c0
 rw[hk] at c0
 have hvt:vK t:=by unfold vK;omega
 have hl2:¬(7:Int)<(l:Int):=by omega
 have HR:=zb fun (w1:World) (ha:Add w w1)=>show Calls prog 136 #[.pointer (some ⟨b,0,none⟩)] w1 fun e w'=>e=.returned (.int .i64 7)∧w'=w1 by
  have:=acm (hn.add ha) hvt
  rw[hk,show aap 26=8 from rfl] at this
  exact this
 obtain⟨hl8,hvl⟩:=(show t.kids.length≤8∧∀k∈t.kids,vK k by have:=hx.here.2;rw[hk] at this;exact this)
 have hll:∀k∈t.kids,k∈t.kids∧vK k:=fun k hk'=>⟨hk',hvl k hk'⟩
 have hml:=ac5 hW.f hm
 have c1:=hvx.c1
 have ht:=(abf hx.here.1).1
 have HC0:=zb fun (w1:World) (ha:Add w w1) (hq0:w1.cell? ⟨w.heap.size,0,none⟩=some (.pointer (some ⟨b,0,none⟩))) (hq1:w1.cell? ⟨w.heap.size+1,0,none⟩=some (.string (xIn d)))=>avt hW (hg.add ha) (d:=d) (hn.add ha) hx hm hd hq0 hq1 hvl
 have hz1:(ab2 R d t.kids).size≤50000000:=by
  have:=ag5 hW hx hm hd hll hml
  unfold ab2
  simp only[ByteArray.size_append,bsz,List.size_toArray,List.length_cons,List.length_nil]
  omega
 have ha0:=qC w b (xIn d)
 have q0:=qA w b (xIn d)
 have q1:=qB w b (xIn d)
 have c0':=ha0.cellk c0
 have c1':=ha0.cellk c1
 have HX:=zb (show zy R d t=((⟨#[115,117,112,101,114,46]⟩++t.text)++ab2 R d t.kids) by unfold zy;rw[hk,if_neg (show ¬(aac 26).2=true by decide),if_neg (by decide),if_neg (by decide),if_neg (by decide),if_neg (by decide),if_neg (by decide),if_neg (by decide)];unfold aag;rw[hk,if_neg (by decide),if_neg (by decide),if_neg (by decide),if_neg (by decide),if_neg (by decide),if_neg (by decide),if_neg (by decide),if_pos rfl])
 have HA:=zb ha0
 clear hn hx hm hd hg hW ha0 hvx c0 hvt hl hk hll hml hvl hl8 c1
 generalize ab2 R d t.kids=X0 at *
 go_enter func82,ntmps82
 go_wp2_with fail
 generalize ((w.alloc (.cells #[.pointer (some ⟨b,0,none⟩)] 22)).alloc (.cells #[.string (xIn d)] 9))=wb at *
 refine(za HR _ (za HA)).mono ?_
 rintro e w1 ⟨rfl,hw1⟩
 obtain rfl:=hw1.symm
 clear HR
 go_wp2_with fail
 have ent0:∀w:World,Sem.run prog (callFunc 138 #[.int .i64 0,.pointer (some ⟨w.heap.size,0,none⟩),.pointer (some ⟨w.heap.size+1,0,none⟩)]) w=.ok (.enter 138 #[.int .i64 0,.pointer (some ⟨w.heap.size,0,none⟩),.pointer (some ⟨w.heap.size+1,0,none⟩)]) w:=fun _=>by kernel_rfl
 refine wp_region_held_drew (S:=fun w'=>w'.cell? ⟨w.heap.size,0,none⟩=some (.pointer (some ⟨b,0,none⟩))∧w'.cell? ⟨w.heap.size+1,0,none⟩=some (.string (xIn d))∧w'.cell? ⟨b,1,none⟩=some (.string t.text)∧Hid (Add w w')) (by kernel_rfl) ⟨q0,q1,c1',(za HA).drew⟩ (fun hHeld=>?_)
 refine tka 0 106 rfl ?_
 refine tka 1 107 rfl ?_
 refine tka 2 108 rfl ?_
 refine tka 3 109 rfl ?_
 refine tkb 4 110 rfl ?_
 refine tka 5 111 rfl ?_
 simp only[sA,sB,sC]
 refine wpAnyH_ready (rs:=[6]) (by kernel_rfl) (by simp) ?_
 refine AllReadyH.cons (o:={ dst:=some 112,op:=_,type:=_,pos:=_,after:=_,guard:=_ }) rfl (fun K hK=>?_) AllReadyH.nil
 refine zm (by kernel_rfl) (by simp[Act.eval,ent0,go_sem]) ((za HC0 _ (za hHeld.2.2.2) hHeld.1 hHeld.2.1).mono ?_)
 rintro e wc0 ⟨rfl,hac0⟩
 refine hK.out _ _ ⟨hac0.cellk hHeld.1,hac0.cellk hHeld.2.1,hac0.cellk hHeld.2.2.1,(za hHeld.2.2.2).tr hac0⟩ (fun hHeld6=>?_)
 clear hK K
 simp only[Act.put,sA,sB,sC]
 refine tkb 7 113 rfl ?_
 refine tka 8 6 rfl ?_
 simp only[sA,sB,sC]
 refine wpAnyH_done (by kernel_rfl) ?_ _
 go_wp2_with fail
 go_ret
 rw[za HX]
 exact⟨rfl,(za hHeld6.2.2.2)⟩
theorem bc2 {R:Wr} {f D:Nat} (hW:DB R f D) {w:World} (hg:RE w) {b d:Nat} {t:Tree} (hn:Nd w b t) (hx:Wx t) (hm:t.many≤f+1) (hd:d+1≤D) {l:Nat} (hk:t.kind=27) (hl:l<8) :
  Calls prog 82 #[.pointer (some ⟨b,0,none⟩),.int .i64 l,.string (xIn d)] w fun e w'=>e=.returned (.string (zy R d t))∧Add w w':=by
 obtain⟨ksx,hvx⟩:=hn.view
 have c0:=hvx.c0
 rw[hk] at c0
 have hvt:vK t:=by unfold vK;omega
 have hl2:¬(7:Int)<(l:Int):=by omega
 have HR:=zb fun (w1:World) (ha:Add w w1)=>show Calls prog 136 #[.pointer (some ⟨b,0,none⟩)] w1 fun e w'=>e=.returned (.int .i64 7)∧w'=w1 by
  have:=acm (hn.add ha) hvt
  rw[hk,show aap 27=8 from rfl] at this
  exact this
 obtain⟨hl8,hvl⟩:=(show t.kids.length≤8∧∀k∈t.kids,vK k by have:=hx.here.2;rw[hk] at this;exact this)
 have hll:∀k∈t.kids,k∈t.kids∧vK k:=fun k hk'=>⟨hk',hvl k hk'⟩
 have hml:=ac5 hW.f hm
 obtain⟨v,c5,rv⟩:=hn.kids
 have HC0:=zb fun (w1:World) (ha:Add w w1)=>agr hW (hg.add ha) (d:=d) (rv.add ha) (agi hx hm hll) hml (Nat.le_of_succ_le hd)
 have hz0:=ag5 hW hx hm hd hll hml
 have ha0:=qC w b (xIn d)
 have q0:=qA w b (xIn d)
 have q1:=qB w b (xIn d)
 have c0':=ha0.cellk c0
 have c5':=ha0.cellk c5
 have HX:=zb (show zy R d t=((⟨#[91]⟩++abo R d t.kids)++⟨#[93]⟩) by unfold zy;rw[hk,if_neg (show ¬(aac 27).2=true by decide),if_neg (by decide),if_neg (by decide),if_neg (by decide),if_neg (by decide),if_neg (by decide),if_neg (by decide)];unfold aag;rw[hk,if_neg (by decide),if_neg (by decide),if_neg (by decide),if_neg (by decide),if_neg (by decide),if_neg (by decide),if_neg (by decide),if_neg (by decide),if_pos rfl])
 have HA:=zb ha0
 clear hn hx hm hd hg hW ha0 hvx c0 hvt hl hk rv hll hml hvl hl8 c5
 generalize abo R d t.kids=X0 at *
 go_enter func82,ntmps82
 go_wp2_with fail
 generalize ((w.alloc (.cells #[.pointer (some ⟨b,0,none⟩)] 22)).alloc (.cells #[.string (xIn d)] 9))=wb at *
 refine(za HR _ (za HA)).mono ?_
 rintro e w1 ⟨rfl,hw1⟩
 obtain rfl:=hw1.symm
 clear HR
 go_wp2_with fail
 have ent0:∀w:World,Sem.run prog (callFunc 86 #[v,.string (xIn d)]) w=.ok (.enter 86 #[v,.string (xIn d)]) w:=fun _=>by kernel_rfl
 refine wp_region_held_drew (S:=fun w'=>w'.cell? ⟨w.heap.size,0,none⟩=some (.pointer (some ⟨b,0,none⟩))∧w'.cell? ⟨w.heap.size+1,0,none⟩=some (.string (xIn d))∧w'.cell? ⟨b,5,none⟩=some (v)∧Hid (Add w w')) (by kernel_rfl) ⟨q0,q1,c5',(za HA).drew⟩ (fun hHeld=>?_)
 refine tka 0 116 rfl ?_
 refine tka 1 117 rfl ?_
 refine tka 2 118 rfl ?_
 refine tka 3 119 rfl ?_
 refine tka 4 120 rfl ?_
 simp only[sA,sB,sC]
 refine wpAnyH_ready (rs:=[5]) (by kernel_rfl) (by simp) ?_
 refine AllReadyH.cons (o:={ dst:=some 121,op:=_,type:=_,pos:=_,after:=_,guard:=_ }) rfl (fun K hK=>?_) AllReadyH.nil
 refine zm (by kernel_rfl) (by simp[Act.eval,ent0,go_sem]) ((za HC0 _ (za hHeld.2.2.2)).mono ?_)
 rintro e wc0 ⟨rfl,hac0⟩
 refine hK.out _ _ ⟨hac0.cellk hHeld.1,hac0.cellk hHeld.2.1,hac0.cellk hHeld.2.2.1,(za hHeld.2.2.2).tr hac0⟩ (fun hHeld5=>?_)
 clear hK K
 simp only[Act.put,sA,sB,sC]
 refine tkb 6 122 rfl ?_
 refine tkb 7 123 rfl ?_
 refine tka 8 6 rfl ?_
 simp only[sA,sB,sC]
 refine wpAnyH_done (by kernel_rfl) ?_ _
 go_wp2_with fail
 go_ret
 rw[za HX]
 exact⟨rfl,(za hHeld5.2.2.2)⟩
theorem rvl_get {R:Wr} {f D:Nat} (hW:DB R f D) {w:World} (hg:RE w) {b d:Nat} {t:Tree} (hn:Nd w b t) (hx:Wx t) (hm:t.many≤f+1) (hd:d+1≤D) {l:Nat} (hk:t.kind=42) (hl:l<8) :
  Calls prog 82 #[.pointer (some ⟨b,0,none⟩),.int .i64 l,.string (xIn d)] w fun e w'=>e=.returned (.string (zy R d t))∧Add w w':=by
 obtain⟨ksx,hvx⟩:=hn.view
 have c0:=hvx.c0
 rw[hk] at c0
 have hvt:vK t:=by unfold vK;omega
 have hl2:¬(7:Int)<(l:Int):=by omega
 have HR:=zb fun (w1:World) (ha:Add w w1)=>show Calls prog 136 #[.pointer (some ⟨b,0,none⟩)] w1 fun e w'=>e=.returned (.int .i64 7)∧w'=w1 by
  have:=acm (hn.add ha) hvt
  rw[hk,show aap 42=8 from rfl] at this
  exact this
 obtain⟨c,ek,hv⟩:=(show ∃a,t.kids=[a]∧vK a by have:=hx.here.2;rw[hk] at this;exact this)
 have c1:=hvx.c1
 have ht:=(abf hx.here.1).1
 have HC0:=zb fun (w1:World) (ha:Add w w1) (hq0:w1.cell? ⟨w.heap.size,0,none⟩=some (.pointer (some ⟨b,0,none⟩))) (hq1:w1.cell? ⟨w.heap.size+1,0,none⟩=some (.string (xIn d)))=>agl hW (hg.add ha) (d:=d) (n:=7) (hn.add ha) hx hm hd hq0 hq1 ek hv
 have hz0:=ad0 hW hx hm hd (k:=c) (by rw[ek];simp) hv 8
 have ha0:=qC w b (xIn d)
 have q0:=qA w b (xIn d)
 have q1:=qB w b (xIn d)
 have c0':=ha0.cellk c0
 have c1':=ha0.cellk c1
 have HX:=zb (show zy R d t=((zu R d 8 c++⟨#[46]⟩)++t.text) by unfold zy;rw[hk,if_neg (show ¬(aac 42).2=true by decide),if_neg (by decide),if_neg (by decide),if_pos rfl,aa3 ek])
 have HA:=zb ha0
 clear hn hx hm hd hg hW ha0 hvx c0 hvt hl hk  c1
 generalize zu R d 8 c=X0 at *
 go_enter func82,ntmps82
 go_wp2_with fail
 generalize ((w.alloc (.cells #[.pointer (some ⟨b,0,none⟩)] 22)).alloc (.cells #[.string (xIn d)] 9))=wb at *
 refine(za HR _ (za HA)).mono ?_
 rintro e w1 ⟨rfl,hw1⟩
 obtain rfl:=hw1.symm
 clear HR
 go_wp2_with fail
 have ent0:∀w:World,Sem.run prog (callFunc 137 #[.int .i64 0,.int .i64 7,.pointer (some ⟨w.heap.size,0,none⟩),.pointer (some ⟨w.heap.size+1,0,none⟩)]) w=.ok (.enter 137 #[.int .i64 0,.int .i64 7,.pointer (some ⟨w.heap.size,0,none⟩),.pointer (some ⟨w.heap.size+1,0,none⟩)]) w:=fun _=>by kernel_rfl
 refine wp_region_held_drew (S:=fun w'=>w'.cell? ⟨w.heap.size,0,none⟩=some (.pointer (some ⟨b,0,none⟩))∧w'.cell? ⟨w.heap.size+1,0,none⟩=some (.string (xIn d))∧w'.cell? ⟨b,1,none⟩=some (.string t.text)∧Hid (Add w w')) (by kernel_rfl) ⟨q0,q1,c1',(za HA).drew⟩ (fun hHeld=>?_)
 refine tka 0 177 rfl ?_
 refine tka 3 180 rfl ?_
 refine tka 4 181 rfl ?_
 refine tka 5 182 rfl ?_
 refine tka 6 183 rfl ?_
 simp only[sA,sB,sC]
 refine wpAnyH_ready (rs:=[1]) (by kernel_rfl) (by simp) ?_
 refine AllReadyH.cons (o:={ dst:=some 178,op:=_,type:=_,pos:=_,after:=_,guard:=_ }) rfl (fun K hK=>?_) AllReadyH.nil
 refine zm (by kernel_rfl) (by simp[Act.eval,ent0,go_sem]) ((za HC0 _ (za hHeld.2.2.2) hHeld.1 hHeld.2.1).mono ?_)
 rintro e wc0 ⟨rfl,hac0⟩
 refine hK.out _ _ ⟨hac0.cellk hHeld.1,hac0.cellk hHeld.2.1,hac0.cellk hHeld.2.2.1,(za hHeld.2.2.2).tr hac0⟩ (fun hHeld1=>?_)
 clear hK K
 simp only[Act.put,sA,sB,sC]
 refine tkb 2 179 rfl ?_
 refine tkb 7 184 rfl ?_
 refine tka 8 6 rfl ?_
 simp only[sA,sB,sC]
 refine wpAnyH_done (by kernel_rfl) ?_ _
 go_wp2_with fail
 go_ret
 rw[za HX]
 exact⟨rfl,(za hHeld1.2.2.2)⟩
theorem bc3 {R:Wr} {f D:Nat} (hW:DB R f D) {w:World} (hg:RE w) {b d:Nat} {t:Tree} (hn:Nd w b t) (hx:Wx t) (hm:t.many≤f+1) (hd:d+1≤D) {l:Nat} (hk:t.kind=43) (hl:l<8) :
  Calls prog 82 #[.pointer (some ⟨b,0,none⟩),.int .i64 l,.string (xIn d)] w fun e w'=>e=.returned (.string (zy R d t))∧Add w w':=by
 obtain⟨ksx,hvx⟩:=hn.view
 have c0:=hvx.c0
 rw[hk] at c0
 have hvt:vK t:=by unfold vK;omega
 have hl2:¬(7:Int)<(l:Int):=by omega
 have HR:=zb fun (w1:World) (ha:Add w w1)=>show Calls prog 136 #[.pointer (some ⟨b,0,none⟩)] w1 fun e w'=>e=.returned (.int .i64 7)∧w'=w1 by
  have:=acm (hn.add ha) hvt
  rw[hk,show aap 43=8 from rfl] at this
  exact this
 obtain⟨c,l',ek,hv,hl8,hvl⟩:=(show ∃a l,t.kids=a :: l∧vK a∧l.length≤8∧∀k∈l,vK k by have:=hx.here.2;rw[hk] at this;exact this)
 have hll:∀k∈l',k∈t.kids∧vK k:=fun k hk'=>⟨by rw[ek];exact List.mem_cons_of_mem _ hk',hvl k hk'⟩
 have hml:aay l'≤1200:=by have:=ac5 hW.f hm;rw[ek,zx] at this;omega
 have c1:=hvx.c1
 have ht:=(abf hx.here.1).1
 have HC0:=zb fun (w1:World) (ha:Add w w1) (hq0:w1.cell? ⟨w.heap.size,0,none⟩=some (.pointer (some ⟨b,0,none⟩))) (hq1:w1.cell? ⟨w.heap.size+1,0,none⟩=some (.string (xIn d)))=>agl hW (hg.add ha) (d:=d) (n:=7) (hn.add ha) hx hm hd hq0 hq1 ek hv
 have HC1:=zb fun (w1:World) (ha:Add w w1) (hq0:w1.cell? ⟨w.heap.size,0,none⟩=some (.pointer (some ⟨b,0,none⟩))) (hq1:w1.cell? ⟨w.heap.size+1,0,none⟩=some (.string (xIn d)))=>as8 hW (hg.add ha) (d:=d) (hn.add ha) hx hm hd hq0 hq1 ek hvl
 have hz0:=ad0 hW hx hm hd (k:=c) (by rw[ek];simp) hv 8
 have hz1:(ab2 R d l').size≤50000000:=by
  have:=ag5 hW hx hm hd hll hml
  unfold ab2
  simp only[ByteArray.size_append,bsz,List.size_toArray,List.length_cons,List.length_nil]
  omega
 have ha0:=qC w b (xIn d)
 have q0:=qA w b (xIn d)
 have q1:=qB w b (xIn d)
 have c0':=ha0.cellk c0
 have c1':=ha0.cellk c1
 have HX:=zb (show zy R d t=(((zu R d 8 c++⟨#[46]⟩)++t.text)++ab2 R d l') by unfold zy;rw[hk,if_neg (show ¬(aac 43).2=true by decide),if_neg (by decide),if_neg (by decide),if_neg (by decide),if_pos rfl,aa3 ek,show t.kids.drop 1=l' by rw[ek];rfl])
 have HA:=zb ha0
 clear hn hx hm hd hg hW ha0 hvx c0 hvt hl hk hll hml hvl hl8 c1
 generalize zu R d 8 c=X0 at *
 generalize ab2 R d l'=X1 at *
 go_enter func82,ntmps82
 go_wp2_with fail
 generalize ((w.alloc (.cells #[.pointer (some ⟨b,0,none⟩)] 22)).alloc (.cells #[.string (xIn d)] 9))=wb at *
 refine(za HR _ (za HA)).mono ?_
 rintro e w1 ⟨rfl,hw1⟩
 obtain rfl:=hw1.symm
 clear HR
 go_wp2_with fail
 have ent0:∀w:World,Sem.run prog (callFunc 137 #[.int .i64 0,.int .i64 7,.pointer (some ⟨w.heap.size,0,none⟩),.pointer (some ⟨w.heap.size+1,0,none⟩)]) w=.ok (.enter 137 #[.int .i64 0,.int .i64 7,.pointer (some ⟨w.heap.size,0,none⟩),.pointer (some ⟨w.heap.size+1,0,none⟩)]) w:=fun _=>by kernel_rfl
 have ent1:∀w:World,Sem.run prog (callFunc 138 #[.int .i64 1,.pointer (some ⟨w.heap.size,0,none⟩),.pointer (some ⟨w.heap.size+1,0,none⟩)]) w=.ok (.enter 138 #[.int .i64 1,.pointer (some ⟨w.heap.size,0,none⟩),.pointer (some ⟨w.heap.size+1,0,none⟩)]) w:=fun _=>by kernel_rfl
 refine wp_region_held_drew (S:=fun w'=>w'.cell? ⟨w.heap.size,0,none⟩=some (.pointer (some ⟨b,0,none⟩))∧w'.cell? ⟨w.heap.size+1,0,none⟩=some (.string (xIn d))∧w'.cell? ⟨b,1,none⟩=some (.string t.text)∧Hid (Add w w')) (by kernel_rfl) ⟨q0,q1,c1',(za HA).drew⟩ (fun hHeld=>?_)
 refine tka 0 187 rfl ?_
 refine tka 3 190 rfl ?_
 refine tka 4 191 rfl ?_
 refine tka 5 192 rfl ?_
 refine tka 6 193 rfl ?_
 refine tka 8 195 rfl ?_
 simp only[sA,sB,sC]
 refine wpAnyH_ready (rs:=[1]) (by kernel_rfl) (by simp) ?_
 refine AllReadyH.cons (o:={ dst:=some 188,op:=_,type:=_,pos:=_,after:=_,guard:=_ }) rfl (fun K hK=>?_) AllReadyH.nil
 refine zm (by kernel_rfl) (by simp[Act.eval,ent0,go_sem]) ((za HC0 _ (za hHeld.2.2.2) hHeld.1 hHeld.2.1).mono ?_)
 rintro e wc0 ⟨rfl,hac0⟩
 refine hK.out _ _ ⟨hac0.cellk hHeld.1,hac0.cellk hHeld.2.1,hac0.cellk hHeld.2.2.1,(za hHeld.2.2.2).tr hac0⟩ (fun hHeld1=>?_)
 clear hK K
 simp only[Act.put,sA,sB,sC]
 refine tkb 2 189 rfl ?_
 refine tkb 7 194 rfl ?_
 simp only[sA,sB,sC]
 refine wpAnyH_ready (rs:=[9]) (by kernel_rfl) (by simp) ?_
 refine AllReadyH.cons (o:={ dst:=some 196,op:=_,type:=_,pos:=_,after:=_,guard:=_ }) rfl (fun K hK=>?_) AllReadyH.nil
 refine zm (by kernel_rfl) (by simp[Act.eval,ent1,go_sem]) ((za HC1 _ (za hHeld1.2.2.2) hHeld1.1 hHeld1.2.1).mono ?_)
 rintro e wc1 ⟨rfl,hac1⟩
 refine hK.out _ _ ⟨hac1.cellk hHeld1.1,hac1.cellk hHeld1.2.1,hac1.cellk hHeld1.2.2.1,(za hHeld1.2.2.2).tr hac1⟩ (fun hHeld9=>?_)
 clear hK K
 simp only[Act.put,sA,sB,sC]
 refine tkb 10 197 rfl ?_
 refine tka 11 6 rfl ?_
 simp only[sA,sB,sC]
 refine wpAnyH_done (by kernel_rfl) ?_ _
 go_wp2_with fail
 go_ret
 rw[za HX]
 exact⟨rfl,(za hHeld9.2.2.2)⟩
theorem as9 {R:Wr} {f D:Nat} (hW:DB R f D) {w:World} (hg:RE w) {b d:Nat} {t:Tree} (hn:Nd w b t) (hx:Wx t) (hm:t.many≤f+1) (hd:d+1≤D) {l:Nat} (hk:t.kind=45) (hl:l<8) (h42:(kid t 0).kind=42) :
  Calls prog 82 #[.pointer (some ⟨b,0,none⟩),.int .i64 l,.string (xIn d)] w fun e w'=>e=.returned (.string (zy R d t))∧Add w w':=by
 obtain⟨ksx,hvx⟩:=hn.view
 have c0:=hvx.c0
 rw[hk] at c0
 have hvt:vK t:=by unfold vK;omega
 have hl2:¬(7:Int)<(l:Int):=by omega
 have HR:=zb fun (w1:World) (ha:Add w w1)=>show Calls prog 136 #[.pointer (some ⟨b,0,none⟩)] w1 fun e w'=>e=.returned (.int .i64 7)∧w'=w1 by
  have:=acm (hn.add ha) hvt
  rw[hk,show aap 45=8 from rfl] at this
  exact this
 obtain⟨c,l',ek,hv,hl8,hvl⟩:=(show ∃a l,t.kids=a :: l∧vK a∧l.length≤8∧∀k∈l,vK k by have:=hx.here.2;rw[hk] at this;exact this)
 have hll:∀k∈l',k∈t.kids∧vK k:=fun k hk'=>⟨by rw[ek];exact List.mem_cons_of_mem _ hk',hvl k hk'⟩
 have hml:aay l'≤1200:=by have:=ac5 hW.f hm;rw[ek,zx] at this;omega
 obtain⟨g,cap,k0,hcap,hmx,c5,g0,n0,hrest⟩:=hn.one ek
 obtain⟨L,hL⟩:∃L,l'.length=L:=⟨_,rfl⟩
 have c5:w.cell? ⟨b,5,none⟩=some (.slice (some ⟨g,0,none⟩) (L+1) cap):=by rw[←hL];exact c5
 obtain⟨ks0,v0⟩:=n0.view
 have z0:=v0.c0
 have hL0:(0:Int)<(L:Int)+1:=by omega
 rw[aa3 ek] at h42
 rw[h42] at z0
 have HC0:=zb fun (w1:World) (ha:Add w w1) (hq0:w1.cell? ⟨w.heap.size,0,none⟩=some (.pointer (some ⟨b,0,none⟩))) (hq1:w1.cell? ⟨w.heap.size+1,0,none⟩=some (.string (xIn d)))=>agl hW (hg.add ha) (d:=d) (n:=0) (hn.add ha) hx hm hd hq0 hq1 ek hv
 have HC1:=zb fun (w1:World) (ha:Add w w1) (hq0:w1.cell? ⟨w.heap.size,0,none⟩=some (.pointer (some ⟨b,0,none⟩))) (hq1:w1.cell? ⟨w.heap.size+1,0,none⟩=some (.string (xIn d)))=>as8 hW (hg.add ha) (d:=d) (hn.add ha) hx hm hd hq0 hq1 ek hvl
 have hz0:=ad0 hW hx hm hd (k:=c) (by rw[ek];simp) hv 1
 have hz1:(ab2 R d l').size≤50000000:=by
  have:=ag5 hW hx hm hd hll hml
  unfold ab2
  simp only[ByteArray.size_append,bsz,List.size_toArray,List.length_cons,List.length_nil]
  omega
 have ha0:=qC w b (xIn d)
 have q0:=qA w b (xIn d)
 have q1:=qB w b (xIn d)
 have c0':=ha0.cellk c0
 have c5':=ha0.cellk c5
 have g0':=ha0.cellk g0
 have z0':=ha0.cellk z0
 have HX:=zb (show zy R d t=(((⟨#[40]⟩++zu R d 1 c)++⟨#[41]⟩)++ab2 R d l') by unfold zy;rw[hk,if_neg (show ¬(aac 45).2=true by decide),if_neg (by decide),if_neg (by decide),if_neg (by decide),if_neg (by decide),if_neg (by decide),if_pos rfl,show t.kids.drop 1=l' by rw[ek];rfl];unfold adp;rw[aa3 ek,if_pos h42,show zu R d 1 c=R.B d c by unfold zu;rw[h42,if_neg (by decide)]])
 have HA:=zb ha0
 clear hn hx hm hd hg hW ha0 hvx c0 hvt hl hk hll hml hvl hl8 n0 hrest hL v0 c5 g0 z0
 generalize zu R d 1 c=X0 at *
 generalize ab2 R d l'=X1 at *
 go_enter func82,ntmps82
 go_wp2_with fail
 generalize ((w.alloc (.cells #[.pointer (some ⟨b,0,none⟩)] 22)).alloc (.cells #[.string (xIn d)] 9))=wb at *
 refine(za HR _ (za HA)).mono ?_
 rintro e w1 ⟨rfl,hw1⟩
 obtain rfl:=hw1.symm
 clear HR
 go_wp2_with fail
 refine(za HC0 _ (za HA) q0 q1).mono ?_
 rintro e wc0 ⟨rfl,hac0⟩
 have HAC0:=zb ((za HA).tr hac0)
 go_wp2_with fail
 refine(za HC1 _ (za HAC0) (hac0.cellk q0) (hac0.cellk q1)).mono ?_
 rintro e wc1 ⟨rfl,hac1⟩
 have HAC1:=zb ((za HAC0).tr hac1)
 clear hac0 hac1
 go_wp2_with fail
 go_ret
 rw[za HX]
 exact⟨rfl,za HAC1⟩
theorem ao6 {R:Wr} {f D:Nat} (hW:DB R f D) {w:World} (hg:RE w) {b d:Nat} {t:Tree} (hn:Nd w b t) (hx:Wx t) (hm:t.many≤f+1) (hd:d+1≤D) {l:Nat} (hk:t.kind=45) (hl:l<8) (h42:(kid t 0).kind≠42) :
  Calls prog 82 #[.pointer (some ⟨b,0,none⟩),.int .i64 l,.string (xIn d)] w fun e w'=>e=.returned (.string (zy R d t))∧Add w w':=by
 obtain⟨ksx,hvx⟩:=hn.view
 have c0:=hvx.c0
 rw[hk] at c0
 have hvt:vK t:=by unfold vK;omega
 have hl2:¬(7:Int)<(l:Int):=by omega
 have HR:=zb fun (w1:World) (ha:Add w w1)=>show Calls prog 136 #[.pointer (some ⟨b,0,none⟩)] w1 fun e w'=>e=.returned (.int .i64 7)∧w'=w1 by
  have:=acm (hn.add ha) hvt
  rw[hk,show aap 45=8 from rfl] at this
  exact this
 obtain⟨c,l',ek,hv,hl8,hvl⟩:=(show ∃a l,t.kids=a :: l∧vK a∧l.length≤8∧∀k∈l,vK k by have:=hx.here.2;rw[hk] at this;exact this)
 have hll:∀k∈l',k∈t.kids∧vK k:=fun k hk'=>⟨by rw[ek];exact List.mem_cons_of_mem _ hk',hvl k hk'⟩
 have hml:aay l'≤1200:=by have:=ac5 hW.f hm;rw[ek,zx] at this;omega
 obtain⟨g,cap,k0,hcap,hmx,c5,g0,n0,hrest⟩:=hn.one ek
 obtain⟨L,hL⟩:∃L,l'.length=L:=⟨_,rfl⟩
 have c5:w.cell? ⟨b,5,none⟩=some (.slice (some ⟨g,0,none⟩) (L+1) cap):=by rw[←hL];exact c5
 obtain⟨ks0,v0⟩:=n0.view
 have z0:=v0.c0
 have hL0:(0:Int)<(L:Int)+1:=by omega
 rw[aa3 ek] at h42
 have m42:((c.kind:Int)==42)=false:=by rw[beq_eq_false_iff_ne];omega
 have HC0:=zb fun (w1:World) (ha:Add w w1) (hq0:w1.cell? ⟨w.heap.size,0,none⟩=some (.pointer (some ⟨b,0,none⟩))) (hq1:w1.cell? ⟨w.heap.size+1,0,none⟩=some (.string (xIn d)))=>agl hW (hg.add ha) (d:=d) (n:=7) (hn.add ha) hx hm hd hq0 hq1 ek hv
 have HC1:=zb fun (w1:World) (ha:Add w w1) (hq0:w1.cell? ⟨w.heap.size,0,none⟩=some (.pointer (some ⟨b,0,none⟩))) (hq1:w1.cell? ⟨w.heap.size+1,0,none⟩=some (.string (xIn d)))=>as8 hW (hg.add ha) (d:=d) (hn.add ha) hx hm hd hq0 hq1 ek hvl
 have hz0:=ad0 hW hx hm hd (k:=c) (by rw[ek];simp) hv 8
 have hz1:(ab2 R d l').size≤50000000:=by
  have:=ag5 hW hx hm hd hll hml
  unfold ab2
  simp only[ByteArray.size_append,bsz,List.size_toArray,List.length_cons,List.length_nil]
  omega
 have ha0:=qC w b (xIn d)
 have q0:=qA w b (xIn d)
 have q1:=qB w b (xIn d)
 have c0':=ha0.cellk c0
 have c5':=ha0.cellk c5
 have g0':=ha0.cellk g0
 have z0':=ha0.cellk z0
 have HX:=zb (show zy R d t=(zu R d 8 c++ab2 R d l') by unfold zy;rw[hk,if_neg (show ¬(aac 45).2=true by decide),if_neg (by decide),if_neg (by decide),if_neg (by decide),if_neg (by decide),if_neg (by decide),if_pos rfl,show t.kids.drop 1=l' by rw[ek];rfl];unfold adp;rw[aa3 ek,if_neg h42])
 have HA:=zb ha0
 clear hn hx hm hd hg hW ha0 hvx c0 hvt hl hk hll hml hvl hl8 n0 hrest hL v0 c5 g0 z0
 generalize zu R d 8 c=X0 at *
 generalize ab2 R d l'=X1 at *
 go_enter func82,ntmps82
 go_wp2_with fail
 generalize ((w.alloc (.cells #[.pointer (some ⟨b,0,none⟩)] 22)).alloc (.cells #[.string (xIn d)] 9))=wb at *
 refine(za HR _ (za HA)).mono ?_
 rintro e w1 ⟨rfl,hw1⟩
 obtain rfl:=hw1.symm
 clear HR
 go_wp2_with fail
 refine(za HC0 _ (za HA) q0 q1).mono ?_
 rintro e wc0 ⟨rfl,hac0⟩
 have HAC0:=zb ((za HA).tr hac0)
 go_wp2_with fail
 refine(za HC1 _ (za HAC0) (hac0.cellk q0) (hac0.cellk q1)).mono ?_
 rintro e wc1 ⟨rfl,hac1⟩
 have HAC1:=zb ((za HAC0).tr hac1)
 clear hac0 hac1
 go_wp2_with fail
 go_ret
 rw[za HX]
 exact⟨rfl,za HAC1⟩
def ata:List ByteArray:=[⟨#[124,124]⟩,⟨#[38,38]⟩,⟨#[61,61]⟩,⟨#[60]⟩,⟨#[43]⟩,⟨#[45]⟩,⟨#[42]⟩,⟨#[47]⟩,⟨#[37]⟩]
theorem aut:Lib.countB ⟨#[124,124,32,38,38,32,61,61,32,60,32,43,32,45,32,42,32,47,32,37]⟩ ⟨#[32]⟩=8:=by kernel_rfl
theorem axd:Lib.splitB ⟨#[32]⟩ 0 8 ⟨#[124,124,32,38,38,32,61,61,32,60,32,43,32,45,32,42,32,47,32,37]⟩=ata:=by kernel_rfl
theorem azz {w:World} (h:RE w):Calls prog 140 #[.string ⟨#[124,124,32,38,38,32,61,61,32,60,32,43,32,45,32,42,32,47,32,37]⟩,.string ⟨#[32]⟩] w fun e w'=>∃g,e=.returned (.slice (some ⟨g,0,none⟩) 9 9)∧Add w w'∧∀(i:Nat) (s:ByteArray),ata[i]?=some s→w'.cell? ⟨g,i,none⟩=some (.string s):=by
 obtain⟨m,hm⟩:=h.2
 refine(Tryz.strings_Split ⟨#[124,124,32,38,38,32,61,61,32,60,32,43,32,45,32,42,32,47,32,37]⟩ ⟨#[32]⟩ m w (by decide) hm (by decide)).mono ?_
 rintro e w' ⟨rfl,rfl⟩
 rw[aut,axd]
 refine⟨w.heap.size,rfl,(Add.refl w).alloc _,fun i s hs=>?_⟩
 rw[zd (aaq _ _) i,List.getElem?_toArray,List.getElem?_map,hs]
 rfl
theorem bc4:∀k,k<46→31≤k→k≤39→∃(j s1:Nat) (sg:ByteArray),k=j+31∧aac k=((sg,k,s1+1),true)∧aap k=s1+1∧s1≤6∧ata[j]?=some sg:=by
 intro k _ h1 h2
 rcases(by omega:k=31∨k=32∨k=33∨k=34∨k=35∨k=36∨k=37∨k=38∨k=39) with rfl | rfl | rfl | rfl | rfl | rfl | rfl | rfl | rfl
 all_goals exact⟨_,_,_,rfl,rfl,rfl,by decide,rfl⟩
theorem bc5 {R:Wr} {f D:Nat} (hW:DB R f D) {w:World} (hg:RE w) {b d:Nat} {t:Tree} (hn:Nd w b t) (hx:Wx t) (hm:t.many≤f+1) (hd:d+1≤D) {l:Nat} (hp1:31≤t.kind) (hp2:t.kind≤39) (hl:l<aap t.kind) :
  Calls prog 82 #[.pointer (some ⟨b,0,none⟩),.int .i64 l,.string (xIn d)] w fun e w'=>e=.returned (.string (zy R d t))∧Add w w':=by
 obtain⟨ksx,hvx⟩:=hn.view
 have c0:=hvx.c0
 have hvt:vK t:=by unfold vK;omega
 obtain⟨j,s1,sg,hj,hsg,hst,hs6,hmk⟩:=bc4 t.kind (by omega) hp1 hp2
 have hj9:j<9:=by omega
 rw[hst] at hl
 have hl2:¬(s1:Int)<(l:Int):=by omega
 have HR:=zb fun (w1:World) (ha:Add w w1)=>show Calls prog 136 #[.pointer (some ⟨b,0,none⟩)] w1 fun e w'=>e=.returned (.int .i64 s1)∧w'=w1 by
  have:=acm (hn.add ha) hvt
  rw[hst,show ((s1+1:Nat):Int)-1=(s1:Int) by omega] at this
  exact this
 have h4:=(aiy t.kind (by omega) (by rw[hsg])).1
 obtain⟨c,c2,ek,hv,hv2⟩:=(show ∃a b,t.kids=[a,b]∧vK a∧vK b by have:=hx.here.2;rw[h4] at this;exact this)
 have HC0:=zb fun (w1:World) (ha:Add w w1) (hq0:w1.cell? ⟨w.heap.size,0,none⟩=some (.pointer (some ⟨b,0,none⟩))) (hq1:w1.cell? ⟨w.heap.size+1,0,none⟩=some (.string (xIn d)))=>agl hW (hg.add ha) (d:=d) (n:=s1) (hn.add ha) hx hm hd hq0 hq1 ek hv
 have HC1:=zb fun (w1:World) (ha:Add w w1) (hq0:w1.cell? ⟨w.heap.size,0,none⟩=some (.pointer (some ⟨b,0,none⟩))) (hq1:w1.cell? ⟨w.heap.size+1,0,none⟩=some (.string (xIn d)))=>show Calls prog 137 #[.int .i64 1,.int .i64 ((s1:Int)+1),.pointer (some ⟨w.heap.size,0,none⟩),.pointer (some ⟨w.heap.size+1,0,none⟩)] w1 fun e w'=>e=.returned (.string (zu R d (s1+2) c2))∧Add w1 w' from azv hW (hg.add ha) (d:=d) (n:=s1+1) (hn.add ha) hx hm hd hq0 hq1 ek hv2
 have hwk:IntKind.i64.wrap (j:Int)=(j:Int):=by rw[IntKind.wrap_i64];omega
 have hws:IntKind.i64.wrap ((s1:Int)+1)=(s1:Int)+1:=by rw[IntKind.wrap_i64];omega
 have hjj:(j:Int)<9:=by omega
 have hjz:(0:Int)≤(j:Int):=by omega
 have hsgs:sg.size≤2:=by
  have:=(aiy t.kind (by omega) (by rw[hsg])).2
  rw[hsg] at this
  exact this
 have m18:(((j:Int)+31)==18)=false:=by rw[beq_eq_false_iff_ne];omega
 have m19:(((j:Int)+31)==19)=false:=by rw[beq_eq_false_iff_ne];omega
 have m20:(((j:Int)+31)==20)=false:=by rw[beq_eq_false_iff_ne];omega
 have m21:(((j:Int)+31)==21)=false:=by rw[beq_eq_false_iff_ne];omega
 have m22:(((j:Int)+31)==22)=false:=by rw[beq_eq_false_iff_ne];omega
 have m23:(((j:Int)+31)==23)=false:=by rw[beq_eq_false_iff_ne];omega
 have m24:(((j:Int)+31)==24)=false:=by rw[beq_eq_false_iff_ne];omega
 have m25:(((j:Int)+31)==25)=false:=by rw[beq_eq_false_iff_ne];omega
 have m26:(((j:Int)+31)==26)=false:=by rw[beq_eq_false_iff_ne];omega
 have m27:(((j:Int)+31)==27)=false:=by rw[beq_eq_false_iff_ne];omega
 have m28:(((j:Int)+31)==28)=false:=by rw[beq_eq_false_iff_ne];omega
 have m29:(((j:Int)+31)==29)=false:=by rw[beq_eq_false_iff_ne];omega
 have m30:(((j:Int)+31)==30)=false:=by rw[beq_eq_false_iff_ne];omega
 have m40:(((j:Int)+31)==40)=false:=by rw[beq_eq_false_iff_ne];omega
 have m41:(((j:Int)+31)==41)=false:=by rw[beq_eq_false_iff_ne];omega
 have m42:(((j:Int)+31)==42)=false:=by rw[beq_eq_false_iff_ne];omega
 have m43:(((j:Int)+31)==43)=false:=by rw[beq_eq_false_iff_ne];omega
 have m44:(((j:Int)+31)==44)=false:=by rw[beq_eq_false_iff_ne];omega
 have m45:(((j:Int)+31)==45)=false:=by rw[beq_eq_false_iff_ne];omega
 have HSP:=zb fun (w1:World) (ha:Add w w1)=>azz (hg.add ha)
 have HRA:=zb fun (w1:World) (ha:Add w w1)=>show Calls prog 136 #[.pointer (some ⟨b,0,none⟩)] w1 fun e w'=>e=.returned (.int .i64 s1)∧Add w1 w' from (za HR w1 ha).mono fun e w' h=>⟨h.1,h.2 ▸ Add.refl _⟩
 have hz0:=ad0 hW hx hm hd (k:=c) (by rw[ek];simp) hv (s1+1)
 have hz1:=ad0 hW hx hm hd (k:=c2) (by rw[ek];simp) hv2 (s1+2)
 have c0:w.cell? ⟨b,0,none⟩=some (.int .i64 ((j:Int)+31)):=by rw[hj] at c0;exact c0
 have ha0:=qC w b (xIn d)
 have q0:=qA w b (xIn d)
 have q1:=qB w b (xIn d)
 have c0':=ha0.cellk c0
 have HX:=zb (show zy R d t=((((zu R d (s1+1) c++⟨#[32]⟩)++sg)++⟨#[32]⟩)++zu R d (s1+2) c2) by unfold zy;rw[hsg,if_pos rfl,aa3 ek,aeu ek])
 have HA:=zb ha0
 have HMK:=zb hmk
 clear hn hx hm hd hg hW ha0 hvx c0 hvt hl hp1 hp2 hst hs6 hsg hj h4 hmk
 generalize zu R d (s1+1) c=X0 at *
 generalize zu R d (s1+2) c2=X1 at *
 go_enter func82,ntmps82
 go_wp2_with fail
 generalize ((w.alloc (.cells #[.pointer (some ⟨b,0,none⟩)] 22)).alloc (.cells #[.string (xIn d)] 9))=wb at *
 refine(za HR _ (za HA)).mono ?_
 rintro e w1 ⟨rfl,hw1⟩
 obtain rfl:=hw1.symm
 clear HR
 go_wp2_with fail
 have entS:∀w:World,Sem.run prog (callFunc 140 #[.string ⟨#[124,124,32,38,38,32,61,61,32,60,32,43,32,45,32,42,32,47,32,37]⟩,.string ⟨#[32]⟩]) w=.ok (.enter 140 #[.string ⟨#[124,124,32,38,38,32,61,61,32,60,32,43,32,45,32,42,32,47,32,37]⟩,.string ⟨#[32]⟩]) w:=fun _=>by kernel_rfl
 refine wp_region_held_drew (S:=fun w'=>w'.cell? ⟨w.heap.size,0,none⟩=some (.pointer (some ⟨b,0,none⟩))∧w'.cell? ⟨w.heap.size+1,0,none⟩=some (.string (xIn d))∧w'.cell? ⟨b,0,none⟩=some (.int .i64 ((j:Int)+31))∧Hid (Add w w')) (by kernel_rfl) ⟨q0,q1,c0',(za HA).drew⟩ (fun hHeld=>?_)
 refine tka 1 232 rfl ?_
 refine tka 2 233 rfl ?_
 refine tka 3 234 rfl ?_
 refine tka 4 235 rfl ?_
 refine tka 5 236 rfl ?_
 simp only[sA,sB,sC]
 refine wpAnyH_ready (rs:=[0]) (by kernel_rfl) (by simp) ?_
 refine AllReadyH.cons (o:={ dst:=some 231,op:=_,type:=_,pos:=_,after:=_,guard:=_ }) rfl (fun K hK=>?_) AllReadyH.nil
 refine zm (by kernel_rfl) (by simp[Act.eval,entS,go_sem]) ((za HSP _ (za hHeld.2.2.2)).mono ?_)
 rintro e ws ⟨gs,rfl,has,hsc⟩
 have hcs:=hsc j sg (za HMK)
 refine hK.out _ _ ⟨has.cellk hHeld.1,has.cellk hHeld.2.1,has.cellk hHeld.2.2.1,(za hHeld.2.2.2).tr has⟩ (fun hHeld0=>?_)
 clear hK K hsc
 simp only[Act.put,sA,sB,sC]
 refine tka 6 237 rfl ?_
 simp only[sA,sB,sC]
 refine wpAnyH_ready (rs:=[7]) (by kernel_rfl) (by simp) ?_
 refine AllReadyH.cons (o:={ dst:=some 238,op:=_,type:=_,pos:=_,after:=_,guard:=_ }) rfl (fun K hK=>?_) AllReadyH.nil
 go_simp
 refine hK.out _ _ hHeld0 (fun hHeld7=>?_)
 clear hK K
 refine tka 8 13 rfl ?_
 simp only[sA,sB,sC]
 refine wpAnyH_done (by kernel_rfl) ?_ _
 have y0:=hHeld0.1
 have y1:=hHeld0.2.1
 have HAS:=zb (za hHeld0.2.2.2)
 clear hHeld hHeld0 hHeld7 has hcs q0 q1 c0' HSP
 go_wp2_with fail
 have ent0:∀w:World,Sem.run prog (callFunc 136 #[.pointer (some ⟨b,0,none⟩)]) w=.ok (.enter 136 #[.pointer (some ⟨b,0,none⟩)]) w:=fun _=>by kernel_rfl
 have ent1:∀w:World,Sem.run prog (callFunc 137 #[.int .i64 0,.int .i64 s1,.pointer (some ⟨w.heap.size,0,none⟩),.pointer (some ⟨w.heap.size+1,0,none⟩)]) w=.ok (.enter 137 #[.int .i64 0,.int .i64 s1,.pointer (some ⟨w.heap.size,0,none⟩),.pointer (some ⟨w.heap.size+1,0,none⟩)]) w:=fun _=>by kernel_rfl
 have ent2:∀w:World,Sem.run prog (callFunc 136 #[.pointer (some ⟨b,0,none⟩)]) w=.ok (.enter 136 #[.pointer (some ⟨b,0,none⟩)]) w:=fun _=>by kernel_rfl
 have ent3:∀w:World,Sem.run prog (callFunc 137 #[.int .i64 1,.int .i64 ((s1:Int)+1),.pointer (some ⟨w.heap.size,0,none⟩),.pointer (some ⟨w.heap.size+1,0,none⟩)]) w=.ok (.enter 137 #[.int .i64 1,.int .i64 ((s1:Int)+1),.pointer (some ⟨w.heap.size,0,none⟩),.pointer (some ⟨w.heap.size+1,0,none⟩)]) w:=fun _=>by kernel_rfl
 refine wp_region_held_drew (S:=fun w'=>w'.cell? ⟨w.heap.size,0,none⟩=some (.pointer (some ⟨b,0,none⟩))∧w'.cell? ⟨w.heap.size+1,0,none⟩=some (.string (xIn d))∧Hid (Add w w')) (by kernel_rfl) ⟨y0,y1,(za HAS).drew⟩ (fun hHeld=>?_)
 refine tka 0 239 rfl ?_
 refine tka 1 240 rfl ?_
 refine tka 5 244 rfl ?_
 refine tka 8 247 rfl ?_
 refine tka 9 248 rfl ?_
 simp only[sA,sB,sC]
 refine wpAnyH_ready (rs:=[2]) (by kernel_rfl) (by simp) ?_
 refine AllReadyH.cons (o:={ dst:=some 241,op:=_,type:=_,pos:=_,after:=_,guard:=_ }) rfl (fun K hK=>?_) AllReadyH.nil
 refine zm (by kernel_rfl) (by simp[Act.eval,ent0,go_sem]) ((za HRA _ (za hHeld.2.2)).mono ?_)
 rintro e wc0 ⟨rfl,hac0⟩
 refine hK.out _ _ ⟨hac0.cellk hHeld.1,hac0.cellk hHeld.2.1,(za hHeld.2.2).tr hac0⟩ (fun hHeld2=>?_)
 clear hK K
 simp only[Act.put,sA,sB,sC]
 refine wpAnyH_ready (rs:=[3]) (by kernel_rfl) (by simp) ?_
 refine AllReadyH.cons (o:={ dst:=some 242,op:=_,type:=_,pos:=_,after:=_,guard:=_ }) rfl (fun K hK=>?_) AllReadyH.nil
 refine zm (by kernel_rfl) (by simp[Act.eval,ent1,go_sem]) ((za HC0 _ (za hHeld2.2.2) hHeld2.1 hHeld2.2.1).mono ?_)
 rintro e wc1 ⟨rfl,hac1⟩
 refine hK.out _ _ ⟨hac1.cellk hHeld2.1,hac1.cellk hHeld2.2.1,(za hHeld2.2.2).tr hac1⟩ (fun hHeld3=>?_)
 clear hK K
 simp only[Act.put,sA,sB,sC]
 refine tkb 4 243 rfl ?_
 refine tkb 6 245 rfl ?_
 refine tkb 7 246 rfl ?_
 simp only[sA,sB,sC]
 refine wpAnyH_ready (rs:=[10]) (by kernel_rfl) (by simp) ?_
 refine AllReadyH.cons (o:={ dst:=some 249,op:=_,type:=_,pos:=_,after:=_,guard:=_ }) rfl (fun K hK=>?_) AllReadyH.nil
 refine zm (by kernel_rfl) (by simp[Act.eval,ent2,go_sem]) ((za HRA _ (za hHeld3.2.2)).mono ?_)
 rintro e wc2 ⟨rfl,hac2⟩
 refine hK.out _ _ ⟨hac2.cellk hHeld3.1,hac2.cellk hHeld3.2.1,(za hHeld3.2.2).tr hac2⟩ (fun hHeld10=>?_)
 clear hK K
 simp only[Act.put,sA,sB,sC]
 refine tka 11 250 rfl ?_
 simp only[sA,sB,sC]
 refine wpAnyH_ready (rs:=[12]) (by kernel_rfl) (by simp) ?_
 refine AllReadyH.cons (o:={ dst:=some 251,op:=_,type:=_,pos:=_,after:=_,guard:=_ }) rfl (fun K hK=>?_) AllReadyH.nil
 refine zm (by kernel_rfl) (by simp[Act.eval,hws,ent3,go_sem]) ((za HC1 _ (za hHeld10.2.2) hHeld10.1 hHeld10.2.1).mono ?_)
 rintro e wc3 ⟨rfl,hac3⟩
 refine hK.out _ _ ⟨hac3.cellk hHeld10.1,hac3.cellk hHeld10.2.1,(za hHeld10.2.2).tr hac3⟩ (fun hHeld12=>?_)
 clear hK K
 simp only[Act.put,sA,sB,sC]
 refine tkb 13 252 rfl ?_
 refine tka 14 6 rfl ?_
 simp only[sA,sB,sC]
 refine wpAnyH_done (by kernel_rfl) ?_ _
 go_wp2_with fail
 go_ret
 rw[za HX]
 exact⟨rfl,(za hHeld12.2.2)⟩
end Go.Proofs.YtndgajlidckcdaaGreatDoor
