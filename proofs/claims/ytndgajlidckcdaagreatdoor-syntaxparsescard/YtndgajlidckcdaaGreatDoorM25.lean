/- A part. -/
import Derived.Test.YtndgajlidckcdaaGreatDoorM24
open Go.Proofs.Tryz
namespace Go.Proofs.YtndgajlidckcdaaGreatDoor
open Go.RowKit
set_option linter.unusedVariables false
set_option linter.unusedSimpArgs false
set_option maxRecDepth 100000
set_option maxHeartbeats 8000000
theorem an1 {R:Wr} {f D:Nat} (hW:DB R f D) {w:World} (hg:RE w) {b d:Nat} {t:Tree} (hn:Nd w b t) (hx:Wx t) (hm:t.many≤f+1) (hd:d+1≤D) (hk:t.kind=2) (hu0:t.under≠zc) :
  Calls prog 47 #[.pointer (some ⟨b,0,none⟩),.string (xIn d)] w fun e w'=>e=.returned (.string ((xIn d++aad R d t)++⟨#[10]⟩))∧Add w w':=by
 obtain⟨ksx,hvx⟩:=hn.view
 have c0:=hvx.c0
 rw[hk] at c0
 have hd3:d≤3000:=by have:=hW.D;omega
 obtain⟨fs,ms,ek,_,h3,h4⟩:=(show ∃fs ms,t.kids=fs++ms∧fs.length≤8∧(∀k∈fs,k.kind=3)∧∀k∈ms,k.kind=4 by have:=hx.here.2;rw[hk] at this;exact this)
 obtain⟨v,c5,rv⟩:=hn.kids
 have hso:DsOk f t.kids:=fun k hk'=>⟨hx.kid hk',by
  rw[ek] at hk'
  rcases List.mem_append.1 hk' with q | q
  ·exact⟨Or.inr (Or.inr (Or.inl (h3 k q))),by have:=h3 k q;omega⟩
  ·exact⟨Or.inr (Or.inr (Or.inr (Or.inl (h4 k q)))),by have:=h4 k q;omega⟩,acr hm hk'⟩
 have hu:=(abf hx.here.1).2
 have c2:=hvx.c2
 have c1:=hvx.c1
 have ht:=(abf hx.here.1).1
 have hue:(t.under.toList==([]:List UInt8))=false:=by
  rw[beq_eq_false_iff_ne]
  intro e
  rw[ByteArray.toList_eq] at e
  exact hu0 (WideShapes.bytes_inj (by rw[e];rfl))
 have hhd:((((⟨#[99,108,97,115,115,32]⟩++t.text)++⟨#[32,60,32]⟩)++t.under)).size≤100000000:=by
  simp only[ByteArray.size_append,bsz,List.size_toArray,List.length_cons,List.length_nil]
  omega
 have HC0:=zb fun (w1:World) (ha:Add w w1)=>adt hW (hg.add ha) (d:=d) hhd (rv.add ha) hso (ac5 hW.f hm) hd
 have ha0:=qC w b (xIn d)
 have q0:=qA w b (xIn d)
 have q1:=qB w b (xIn d)
 have c0':=ha0.cellk c0
 have c1':=ha0.cellk c1
 have c2':=ha0.cellk c2
 have c5':=ha0.cellk c5
 have HX:=zb (show ((xIn d++aad R d t)++(⟨#[10]⟩:ByteArray))=ab8 R d (((⟨#[99,108,97,115,115,32]⟩++t.text)++⟨#[32,60,32]⟩)++t.under) t.kids by rw[acs];unfold aad;rw[hk,if_pos rfl,show afp t=(⟨#[32,60,32]⟩++t.under) from if_neg hu0];try simp only[ByteArray.append_assoc])
 have HA:=zb ha0
 clear hn hx hm hd hg hW ha0 hvx c0 hk rv hso h3 h4 ek hhd hu0 c1 c2 c5
 generalize ab8 R d (((⟨#[99,108,97,115,115,32]⟩++t.text)++⟨#[32,60,32]⟩)++t.under) t.kids=Y0 at *
 go_enter func47,ntmps47
 go_wp2_with fail
 generalize ((w.alloc (.cells #[.pointer (some ⟨b,0,none⟩)] 22)).alloc (.cells #[.string (xIn d)] 9))=wb at *
 have ent0:∀w:World,Sem.run prog (callFunc 85 #[.string (((⟨#[99,108,97,115,115,32]⟩++t.text)++⟨#[32,60,32]⟩)++t.under),v,.string (xIn d)]) w=.ok (.enter 85 #[.string (((⟨#[99,108,97,115,115,32]⟩++t.text)++⟨#[32,60,32]⟩)++t.under),v,.string (xIn d)]) w:=fun _=>by kernel_rfl
 refine wp_region_held_drew (S:=fun w'=>w'.cell? ⟨w.heap.size,0,none⟩=some (.pointer (some ⟨b,0,none⟩))∧w'.cell? ⟨w.heap.size+1,0,none⟩=some (.string (xIn d))∧w'.cell? ⟨b,1,none⟩=some (.string t.text)∧w'.cell? ⟨b,2,none⟩=some (.string t.under)∧w'.cell? ⟨b,5,none⟩=some (v)∧Hid (Add w w')) (by kernel_rfl) ⟨q0,q1,c1',c2',c5',(za HA).drew⟩ (fun hHeld=>?_)
 refine tka 0 23 rfl ?_
 refine tka 1 24 rfl ?_
 refine tka 2 25 rfl ?_
 refine tka 3 26 rfl ?_
 refine tkb 4 27 rfl ?_
 refine tkb 5 28 rfl ?_
 refine tka 6 29 rfl ?_
 refine tka 7 30 rfl ?_
 refine tka 8 31 rfl ?_
 refine tka 9 32 rfl ?_
 simp only[sA,sB,sC]
 refine tkb 10 33 rfl ?_
 refine tka 11 34 rfl ?_
 refine tka 12 35 rfl ?_
 refine tka 13 36 rfl ?_
 refine tka 14 37 rfl ?_
 refine tka 15 38 rfl ?_
 simp only[sA,sB,sC]
 refine wpAnyH_ready (rs:=[16]) (by kernel_rfl) (by simp) ?_
 refine AllReadyH.cons (o:={ dst:=some 39,op:=_,type:=_,pos:=_,after:=_,guard:=_ }) rfl (fun K hK=>?_) AllReadyH.nil
 refine zm (by kernel_rfl) (by simp[Act.eval,ent0,go_sem]) ((za HC0 _ (za hHeld.2.2.2.2.2)).mono ?_)
 rintro e wc0 ⟨rfl,hac0⟩
 refine hK.out _ _ ⟨hac0.cellk hHeld.1,hac0.cellk hHeld.2.1,hac0.cellk hHeld.2.2.1,hac0.cellk hHeld.2.2.2.1,hac0.cellk hHeld.2.2.2.2.1,(za hHeld.2.2.2.2.2).tr hac0⟩ (fun hHeld16=>?_)
 clear hK K
 simp only[Act.put,sA,sB,sC]
 refine tka 17 4 rfl ?_
 simp only[sA,sB,sC]
 refine wpAnyH_done (by kernel_rfl) ?_ _
 go_wp2_with fail
 go_ret
 rw[za HX]
 exact⟨rfl,(za hHeld16.2.2.2.2.2)⟩
theorem ao7 {R:Wr} {f D:Nat} (hW:DB R f D) {w:World} (hg:RE w) {b d:Nat} {t:Tree} (hn:Nd w b t) (hx:Wx t) (hm:t.many≤f+1) (hd:d+1≤D) (hk:t.kind=2) (hu0:t.under=zc) :
  Calls prog 47 #[.pointer (some ⟨b,0,none⟩),.string (xIn d)] w fun e w'=>e=.returned (.string ((xIn d++aad R d t)++⟨#[10]⟩))∧Add w w':=by
 obtain⟨ksx,hvx⟩:=hn.view
 have c0:=hvx.c0
 rw[hk] at c0
 have hd3:d≤3000:=by have:=hW.D;omega
 obtain⟨fs,ms,ek,_,h3,h4⟩:=(show ∃fs ms,t.kids=fs++ms∧fs.length≤8∧(∀k∈fs,k.kind=3)∧∀k∈ms,k.kind=4 by have:=hx.here.2;rw[hk] at this;exact this)
 obtain⟨v,c5,rv⟩:=hn.kids
 have hso:DsOk f t.kids:=fun k hk'=>⟨hx.kid hk',by
  rw[ek] at hk'
  rcases List.mem_append.1 hk' with q | q
  ·exact⟨Or.inr (Or.inr (Or.inl (h3 k q))),by have:=h3 k q;omega⟩
  ·exact⟨Or.inr (Or.inr (Or.inr (Or.inl (h4 k q)))),by have:=h4 k q;omega⟩,acr hm hk'⟩
 have hu:=(abf hx.here.1).2
 have c2:=hvx.c2
 have c1:=hvx.c1
 have ht:=(abf hx.here.1).1
 rw[hu0] at c2
 have c2:w.cell? ⟨b,2,none⟩=some (.string ⟨#[]⟩):=c2
 have hhd:((⟨#[99,108,97,115,115,32]⟩++t.text)).size≤100000000:=by
  simp only[ByteArray.size_append,bsz,List.size_toArray,List.length_cons,List.length_nil]
  omega
 have HC0:=zb fun (w1:World) (ha:Add w w1)=>adt hW (hg.add ha) (d:=d) hhd (rv.add ha) hso (ac5 hW.f hm) hd
 have ha0:=qC w b (xIn d)
 have q0:=qA w b (xIn d)
 have q1:=qB w b (xIn d)
 have c0':=ha0.cellk c0
 have c1':=ha0.cellk c1
 have c2':=ha0.cellk c2
 have c5':=ha0.cellk c5
 have HX:=zb (show ((xIn d++aad R d t)++(⟨#[10]⟩:ByteArray))=ab8 R d (⟨#[99,108,97,115,115,32]⟩++t.text) t.kids by rw[acs];unfold aad;rw[hk,if_pos rfl,show ((⟨#[99,108,97,115,115,32]⟩++t.text)++afp t)=(⟨#[99,108,97,115,115,32]⟩++t.text) by rw[show afp t=zc from if_pos hu0];apply ahz;rw[ByteArray.data_append,Array.toList_append];exact List.append_nil _];try simp only[ByteArray.append_assoc])
 have HA:=zb ha0
 clear hn hx hm hd hg hW ha0 hvx c0 hk rv hso h3 h4 ek hhd hu0 c1 c2 c5
 generalize ab8 R d (⟨#[99,108,97,115,115,32]⟩++t.text) t.kids=Y0 at *
 go_enter func47,ntmps47
 go_wp2_with fail
 generalize ((w.alloc (.cells #[.pointer (some ⟨b,0,none⟩)] 22)).alloc (.cells #[.string (xIn d)] 9))=wb at *
 have ent0:∀w:World,Sem.run prog (callFunc 85 #[.string (⟨#[99,108,97,115,115,32]⟩++t.text),v,.string (xIn d)]) w=.ok (.enter 85 #[.string (⟨#[99,108,97,115,115,32]⟩++t.text),v,.string (xIn d)]) w:=fun _=>by kernel_rfl
 refine wp_region_held_drew (S:=fun w'=>w'.cell? ⟨w.heap.size,0,none⟩=some (.pointer (some ⟨b,0,none⟩))∧w'.cell? ⟨w.heap.size+1,0,none⟩=some (.string (xIn d))∧w'.cell? ⟨b,1,none⟩=some (.string t.text)∧w'.cell? ⟨b,5,none⟩=some (v)∧Hid (Add w w')) (by kernel_rfl) ⟨q0,q1,c1',c5',(za HA).drew⟩ (fun hHeld=>?_)
 refine tka 0 40 rfl ?_
 refine tka 1 41 rfl ?_
 refine tka 2 42 rfl ?_
 refine tka 3 43 rfl ?_
 refine tkb 4 44 rfl ?_
 refine tka 5 45 rfl ?_
 refine tka 6 46 rfl ?_
 refine tka 7 47 rfl ?_
 refine tka 8 48 rfl ?_
 refine tka 9 49 rfl ?_
 simp only[sA,sB,sC]
 refine wpAnyH_ready (rs:=[10]) (by kernel_rfl) (by simp) ?_
 refine AllReadyH.cons (o:={ dst:=some 50,op:=_,type:=_,pos:=_,after:=_,guard:=_ }) rfl (fun K hK=>?_) AllReadyH.nil
 refine zm (by kernel_rfl) (by simp[Act.eval,ent0,go_sem]) ((za HC0 _ (za hHeld.2.2.2.2)).mono ?_)
 rintro e wc0 ⟨rfl,hac0⟩
 refine hK.out _ _ ⟨hac0.cellk hHeld.1,hac0.cellk hHeld.2.1,hac0.cellk hHeld.2.2.1,hac0.cellk hHeld.2.2.2.1,(za hHeld.2.2.2.2).tr hac0⟩ (fun hHeld10=>?_)
 clear hK K
 simp only[Act.put,sA,sB,sC]
 refine tka 11 4 rfl ?_
 simp only[sA,sB,sC]
 refine wpAnyH_done (by kernel_rfl) ?_ _
 go_wp2_with fail
 go_ret
 rw[za HX]
 exact⟨rfl,(za hHeld10.2.2.2.2)⟩
theorem az2 {R:Wr} {f D:Nat} (hW:DB R f D) {w:World} (hg:RE w) {b d:Nat} {t:Tree} (hn:Nd w b t) (hx:Wx t) (hm:t.many≤f+1) (hd:d+1≤D) (hk:t.kind=3) :
  Calls prog 47 #[.pointer (some ⟨b,0,none⟩),.string (xIn d)] w fun e w'=>e=.returned (.string ((xIn d++aad R d t)++⟨#[10]⟩))∧Add w w':=by
 obtain⟨ksx,hvx⟩:=hn.view
 have c0:=hvx.c0
 rw[hk] at c0
 have hd3:d≤3000:=by have:=hW.D;omega
 have c1:=hvx.c1
 have ht:=(abf hx.here.1).1
 have HC0:=zb fun (w1:World) (hq1:w1.cell? ⟨w.heap.size+1,0,none⟩=some (.string (xIn d)))=>aga (s:=((⟨#[102,105,101,108,100,32]⟩++t.text)++⟨#[59]⟩)) hd3 hq1 (by simp only[ByteArray.size_append,bsz,List.size_toArray,List.length_cons,List.length_nil];omega)
 have ha0:=qC w b (xIn d)
 have q0:=qA w b (xIn d)
 have q1:=qB w b (xIn d)
 have c0':=ha0.cellk c0
 have c1':=ha0.cellk c1
 have HX:=zb (show ((xIn d++aad R d t)++(⟨#[10]⟩:ByteArray))=((xIn d++((⟨#[102,105,101,108,100,32]⟩++t.text)++⟨#[59]⟩))++⟨#[10]⟩) by unfold aad;rw[hk,if_neg (by decide),if_pos rfl])
 have HA:=zb ha0
 clear hn hx hm hd hg hW ha0 hvx c0 hk  c1
 go_enter func47,ntmps47
 go_wp2_with fail
 generalize ((w.alloc (.cells #[.pointer (some ⟨b,0,none⟩)] 22)).alloc (.cells #[.string (xIn d)] 9))=wb at *
 refine(za HC0 _ q1).mono ?_
 rintro e wc0 ⟨rfl,hac0⟩
 have HAC0:=zb ((za HA).tr hac0)
 have x0:=hac0.cellk q0
 have z0:=hac0.cellk q1
 clear hac0 q0 q1
 go_wp2_with fail
 go_ret
 rw[za HX]
 exact⟨rfl,(za HAC0)⟩
theorem axf {R:Wr} {f D:Nat} (hW:DB R f D) {w:World} (hg:RE w) {b d:Nat} {t:Tree} (hn:Nd w b t) (hx:Wx t) (hm:t.many≤f+1) (hd:d+1≤D) (hk:t.kind=4) :
  Calls prog 47 #[.pointer (some ⟨b,0,none⟩),.string (xIn d)] w fun e w'=>e=.returned (.string ((xIn d++aad R d t)++⟨#[10]⟩))∧Add w w':=by
 obtain⟨ksx,hvx⟩:=hn.view
 have c0:=hvx.c0
 rw[hk] at c0
 have hd3:d≤3000:=by have:=hW.D;omega
 obtain⟨p,bl,ek,h6,h7⟩:=(show ∃p b,t.kids=[p,b]∧p.kind=6∧b.kind=7 by have:=hx.here.2;rw[hk] at this;exact this)
 have c1:=hvx.c1
 have ht:=(abf hx.here.1).1
 have HC0:=zb fun (w1:World) (ha:Add w w1) (hq0:w1.cell? ⟨w.heap.size,0,none⟩=some (.pointer (some ⟨b,0,none⟩))) (hq1:w1.cell? ⟨w.heap.size+1,0,none⟩=some (.string (xIn d)))=>az1 hW (hg.add ha) (d:=d) (hn.add ha) hx hm hd hq0 hq1 (h:=t.text) (by (try simp only[ByteArray.size_append,bsz,List.size_toArray,List.length_cons,List.length_nil]);omega) ek h6 h7
 have ha0:=qC w b (xIn d)
 have q0:=qA w b (xIn d)
 have q1:=qB w b (xIn d)
 have c0':=ha0.cellk c0
 have c1':=ha0.cellk c1
 have HX:=zb (show ((xIn d++aad R d t)++(⟨#[10]⟩:ByteArray))=ab8 R d (((t.text++⟨#[40]⟩)++abo R d p.kids)++⟨#[41]⟩) bl.kids by rw[acs];unfold aad;rw[hk,if_neg (by decide),if_neg (by decide),if_pos rfl];unfold afo;rw[aa3 ek,aeu ek,show (⟨#[41,32]⟩:ByteArray)=⟨#[41]⟩++⟨#[32]⟩ from rfl];try simp only[ByteArray.append_assoc])
 have HA:=zb ha0
 clear hn hx hm hd hg hW ha0 hvx c0 hk h6 h7 c1
 generalize ab8 R d (((t.text++⟨#[40]⟩)++abo R d p.kids)++⟨#[41]⟩) bl.kids=Y0 at *
 go_enter func47,ntmps47
 go_wp2_with fail
 generalize ((w.alloc (.cells #[.pointer (some ⟨b,0,none⟩)] 22)).alloc (.cells #[.string (xIn d)] 9))=wb at *
 refine(za HC0 _ (za HA) q0 q1).mono ?_
 rintro e wc0 ⟨rfl,hac0⟩
 have HAC0:=zb ((za HA).tr hac0)
 have x0:=hac0.cellk q0
 have z0:=hac0.cellk q1
 clear hac0 q0 q1
 go_wp2_with fail
 go_ret
 rw[za HX]
 exact⟨rfl,(za HAC0)⟩
theorem rst_fn {R:Wr} {f D:Nat} (hW:DB R f D) {w:World} (hg:RE w) {b d:Nat} {t:Tree} (hn:Nd w b t) (hx:Wx t) (hm:t.many≤f+1) (hd:d+1≤D) (hk:t.kind=5) :
  Calls prog 47 #[.pointer (some ⟨b,0,none⟩),.string (xIn d)] w fun e w'=>e=.returned (.string ((xIn d++aad R d t)++⟨#[10]⟩))∧Add w w':=by
 obtain⟨ksx,hvx⟩:=hn.view
 have c0:=hvx.c0
 rw[hk] at c0
 have hd3:d≤3000:=by have:=hW.D;omega
 obtain⟨p,bl,ek,h6,h7⟩:=(show ∃p b,t.kids=[p,b]∧p.kind=6∧b.kind=7 by have:=hx.here.2;rw[hk] at this;exact this)
 have c1:=hvx.c1
 have ht:=(abf hx.here.1).1
 have HC0:=zb fun (w1:World) (ha:Add w w1) (hq0:w1.cell? ⟨w.heap.size,0,none⟩=some (.pointer (some ⟨b,0,none⟩))) (hq1:w1.cell? ⟨w.heap.size+1,0,none⟩=some (.string (xIn d)))=>az1 hW (hg.add ha) (d:=d) (hn.add ha) hx hm hd hq0 hq1 (h:=(⟨#[102,110,32]⟩++t.text)) (by (try simp only[ByteArray.size_append,bsz,List.size_toArray,List.length_cons,List.length_nil]);omega) ek h6 h7
 have ha0:=qC w b (xIn d)
 have q0:=qA w b (xIn d)
 have q1:=qB w b (xIn d)
 have c0':=ha0.cellk c0
 have c1':=ha0.cellk c1
 have HX:=zb (show ((xIn d++aad R d t)++(⟨#[10]⟩:ByteArray))=ab8 R d ((((⟨#[102,110,32]⟩++t.text)++⟨#[40]⟩)++abo R d p.kids)++⟨#[41]⟩) bl.kids by rw[acs];unfold aad;rw[hk,if_neg (by decide),if_neg (by decide),if_neg (by decide),if_pos rfl];unfold afo;rw[aa3 ek,aeu ek,show (⟨#[41,32]⟩:ByteArray)=⟨#[41]⟩++⟨#[32]⟩ from rfl];try simp only[ByteArray.append_assoc])
 have HA:=zb ha0
 clear hn hx hm hd hg hW ha0 hvx c0 hk h6 h7 c1
 generalize ab8 R d ((((⟨#[102,110,32]⟩++t.text)++⟨#[40]⟩)++abo R d p.kids)++⟨#[41]⟩) bl.kids=Y0 at *
 go_enter func47,ntmps47
 go_wp2_with fail
 generalize ((w.alloc (.cells #[.pointer (some ⟨b,0,none⟩)] 22)).alloc (.cells #[.string (xIn d)] 9))=wb at *
 refine(za HC0 _ (za HA) q0 q1).mono ?_
 rintro e wc0 ⟨rfl,hac0⟩
 have HAC0:=zb ((za HA).tr hac0)
 have x0:=hac0.cellk q0
 have z0:=hac0.cellk q1
 clear hac0 q0 q1
 go_wp2_with fail
 go_ret
 rw[za HX]
 exact⟨rfl,(za HAC0)⟩
theorem rst_var {R:Wr} {f D:Nat} (hW:DB R f D) {w:World} (hg:RE w) {b d:Nat} {t:Tree} (hn:Nd w b t) (hx:Wx t) (hm:t.many≤f+1) (hd:d+1≤D) (hk:t.kind=8) :
  Calls prog 47 #[.pointer (some ⟨b,0,none⟩),.string (xIn d)] w fun e w'=>e=.returned (.string ((xIn d++aad R d t)++⟨#[10]⟩))∧Add w w':=by
 obtain⟨ksx,hvx⟩:=hn.view
 have c0:=hvx.c0
 rw[hk] at c0
 have hd3:d≤3000:=by have:=hW.D;omega
 obtain⟨c,ek,hv⟩:=(show ∃a,t.kids=[a]∧vK a by have:=hx.here.2;rw[hk] at this;exact this)
 have c1:=hvx.c1
 have ht:=(abf hx.here.1).1
 have hz0:=ad0 hW hx hm hd (k:=c) (by rw[ek];simp) hv (0+1)
 have HC0:=zb fun (w1:World) (ha:Add w w1) (hq0:w1.cell? ⟨w.heap.size,0,none⟩=some (.pointer (some ⟨b,0,none⟩))) (hq1:w1.cell? ⟨w.heap.size+1,0,none⟩=some (.string (xIn d)))=>ahn hW (hg.add ha) (d:=d) (hn.add ha) hx hm hd hq0 hq1 ek hv
 have HC1:=zb fun (w1:World) (hq1:w1.cell? ⟨w.heap.size+1,0,none⟩=some (.string (xIn d)))=>aga (s:=((((⟨#[118,97,114,32]⟩++t.text)++⟨#[32,61,32]⟩)++zu R d (0+1) c)++⟨#[59]⟩)) hd3 hq1 (by simp only[ByteArray.size_append,bsz,List.size_toArray,List.length_cons,List.length_nil];omega)
 have ha0:=qC w b (xIn d)
 have q0:=qA w b (xIn d)
 have q1:=qB w b (xIn d)
 have c0':=ha0.cellk c0
 have c1':=ha0.cellk c1
 have HX:=zb (show ((xIn d++aad R d t)++(⟨#[10]⟩:ByteArray))=((xIn d++((((⟨#[118,97,114,32]⟩++t.text)++⟨#[32,61,32]⟩)++zu R d (0+1) c)++⟨#[59]⟩))++⟨#[10]⟩) by unfold aad;rw[hk,if_neg (by decide),if_neg (by decide),if_neg (by decide),if_neg (by decide),if_pos rfl,aa3 ek])
 have HA:=zb ha0
 clear hn hx hm hd hg hW ha0 hvx c0 hk  c1
 generalize zu R d (0+1) c=X0 at *
 go_enter func47,ntmps47
 go_wp2_with fail
 generalize ((w.alloc (.cells #[.pointer (some ⟨b,0,none⟩)] 22)).alloc (.cells #[.string (xIn d)] 9))=wb at *
 have ent0:∀w:World,Sem.run prog (callFunc 81 #[.int .i64 0,.pointer (some ⟨w.heap.size,0,none⟩),.pointer (some ⟨w.heap.size+1,0,none⟩)]) w=.ok (.enter 81 #[.int .i64 0,.pointer (some ⟨w.heap.size,0,none⟩),.pointer (some ⟨w.heap.size+1,0,none⟩)]) w:=fun _=>by kernel_rfl
 have ent1:∀w:World,Sem.run prog (callFunc 83 #[.string ((((⟨#[118,97,114,32]⟩++t.text)++⟨#[32,61,32]⟩)++X0)++⟨#[59]⟩),.pointer (some ⟨w.heap.size+1,0,none⟩)]) w=.ok (.enter 83 #[.string ((((⟨#[118,97,114,32]⟩++t.text)++⟨#[32,61,32]⟩)++X0)++⟨#[59]⟩),.pointer (some ⟨w.heap.size+1,0,none⟩)]) w:=fun _=>by kernel_rfl
 refine wp_region_held_drew (S:=fun w'=>w'.cell? ⟨w.heap.size,0,none⟩=some (.pointer (some ⟨b,0,none⟩))∧w'.cell? ⟨w.heap.size+1,0,none⟩=some (.string (xIn d))∧w'.cell? ⟨b,1,none⟩=some (.string t.text)∧Hid (Add w w')) (by kernel_rfl) ⟨q0,q1,c1',(za HA).drew⟩ (fun hHeld=>?_)
 refine tka 0 80 rfl ?_
 refine tka 1 81 rfl ?_
 refine tka 2 82 rfl ?_
 refine tka 3 83 rfl ?_
 refine tka 4 84 rfl ?_
 refine tkb 5 85 rfl ?_
 refine tkb 6 86 rfl ?_
 refine tka 7 87 rfl ?_
 simp only[sA,sB,sC]
 refine wpAnyH_ready (rs:=[8]) (by kernel_rfl) (by simp) ?_
 refine AllReadyH.cons (o:={ dst:=some 88,op:=_,type:=_,pos:=_,after:=_,guard:=_ }) rfl (fun K hK=>?_) AllReadyH.nil
 refine zm (by kernel_rfl) (by simp[Act.eval,ent0,go_sem]) ((za HC0 _ (za hHeld.2.2.2) hHeld.1 hHeld.2.1).mono ?_)
 rintro e wc0 ⟨rfl,hac0⟩
 refine hK.out _ _ ⟨hac0.cellk hHeld.1,hac0.cellk hHeld.2.1,hac0.cellk hHeld.2.2.1,(za hHeld.2.2.2).tr hac0⟩ (fun hHeld8=>?_)
 clear hK K
 simp only[Act.put,sA,sB,sC]
 refine tkb 9 89 rfl ?_
 refine tkb 10 90 rfl ?_
 simp only[sA,sB,sC]
 refine wpAnyH_ready (rs:=[11]) (by kernel_rfl) (by simp) ?_
 refine AllReadyH.cons (o:={ dst:=some 91,op:=_,type:=_,pos:=_,after:=_,guard:=_ }) rfl (fun K hK=>?_) AllReadyH.nil
 refine zm (by kernel_rfl) (by simp[Act.eval,ent1,go_sem]) ((za HC1 _ hHeld8.2.1).mono ?_)
 rintro e wc1 ⟨rfl,hac1⟩
 refine hK.out _ _ ⟨hac1.cellk hHeld8.1,hac1.cellk hHeld8.2.1,hac1.cellk hHeld8.2.2.1,(za hHeld8.2.2.2).tr hac1⟩ (fun hHeld11=>?_)
 clear hK K
 simp only[Act.put,sA,sB,sC]
 refine tka 12 4 rfl ?_
 simp only[sA,sB,sC]
 refine wpAnyH_done (by kernel_rfl) ?_ _
 go_wp2_with fail
 go_ret
 rw[za HX]
 exact⟨rfl,(za hHeld11.2.2.2)⟩
theorem rst_set {R:Wr} {f D:Nat} (hW:DB R f D) {w:World} (hg:RE w) {b d:Nat} {t:Tree} (hn:Nd w b t) (hx:Wx t) (hm:t.many≤f+1) (hd:d+1≤D) (hk:t.kind=9) :
  Calls prog 47 #[.pointer (some ⟨b,0,none⟩),.string (xIn d)] w fun e w'=>e=.returned (.string ((xIn d++aad R d t)++⟨#[10]⟩))∧Add w w':=by
 obtain⟨ksx,hvx⟩:=hn.view
 have c0:=hvx.c0
 rw[hk] at c0
 have hd3:d≤3000:=by have:=hW.D;omega
 obtain⟨c,c2,ek,hv,hv2,_⟩:=(show ∃a b,t.kids=[a,b]∧vK a∧vK b∧adm a.kind=true by have:=hx.here.2;rw[hk] at this;exact this)
 have hz0:(ada R d t).size≤40000000:=by
  have:=agf (aa3 ek) (ab3 hW.len hx hm hd (k:=c) (by rw[ek];simp) hv)
  have:=acr hm (k:=c) (by rw[ek];simp)
  have:=hW.f
  omega
 have hz1:=ad0 hW hx hm hd (k:=c2) (by rw[ek];simp) hv2 (0+1)
 have HC0:=zb fun (w1:World) (ha:Add w w1)=>atb hW (hg.add ha) (d:=d) (hn.add ha) hx hm hd ek hv
 have HC1:=zb fun (w1:World) (ha:Add w w1) (hq0:w1.cell? ⟨w.heap.size,0,none⟩=some (.pointer (some ⟨b,0,none⟩))) (hq1:w1.cell? ⟨w.heap.size+1,0,none⟩=some (.string (xIn d)))=>sv_one hW (hg.add ha) (d:=d) (hn.add ha) hx hm hd hq0 hq1 ek hv2
 have HC2:=zb fun (w1:World) (hq1:w1.cell? ⟨w.heap.size+1,0,none⟩=some (.string (xIn d)))=>aga (s:=(((ada R d t++⟨#[32,61,32]⟩)++zu R d (0+1) c2)++⟨#[59]⟩)) hd3 hq1 (by simp only[ByteArray.size_append,bsz,List.size_toArray,List.length_cons,List.length_nil];omega)
 have ha0:=qC w b (xIn d)
 have q0:=qA w b (xIn d)
 have q1:=qB w b (xIn d)
 have c0':=ha0.cellk c0
 have HX:=zb (show ((xIn d++aad R d t)++(⟨#[10]⟩:ByteArray))=((xIn d++(((ada R d t++⟨#[32,61,32]⟩)++zu R d (0+1) c2)++⟨#[59]⟩))++⟨#[10]⟩) by unfold aad;rw[hk,if_neg (by decide),if_neg (by decide),if_neg (by decide),if_neg (by decide),if_neg (by decide),if_pos rfl,aeu ek])
 have HA:=zb ha0
 clear hn hx hm hd hg hW ha0 hvx c0 hk  
 generalize ada R d t=X0 at *
 generalize zu R d (0+1) c2=X1 at *
 go_enter func47,ntmps47
 go_wp2_with fail
 generalize ((w.alloc (.cells #[.pointer (some ⟨b,0,none⟩)] 22)).alloc (.cells #[.string (xIn d)] 9))=wb at *
 refine(za HC0 _ (za HA)).mono ?_
 rintro e wc0 ⟨rfl,hac0⟩
 have HAC0:=zb ((za HA).tr hac0)
 have x0:=hac0.cellk q0
 have z0:=hac0.cellk q1
 clear hac0 q0 q1
 go_wp2_with fail
 refine(za HC1 _ (za HAC0) x0 z0).mono ?_
 rintro e wc1 ⟨rfl,hac1⟩
 have HAC1:=zb ((za HAC0).tr hac1)
 have x1:=hac1.cellk x0
 have z1:=hac1.cellk z0
 clear hac1 x0 z0
 go_wp2_with fail
 refine(za HC2 _ z1).mono ?_
 rintro e wc2 ⟨rfl,hac2⟩
 have HAC2:=zb ((za HAC1).tr hac2)
 have x2:=hac2.cellk x1
 have z2:=hac2.cellk z1
 clear hac2 x1 z1
 go_wp2_with fail
 go_ret
 rw[za HX]
 exact⟨rfl,(za HAC2)⟩
theorem an2 {R:Wr} {f D:Nat} (hW:DB R f D) {w:World} (hg:RE w) {b d:Nat} {t:Tree} (hn:Nd w b t) (hx:Wx t) (hm:t.many≤f+1) (hd:d+1≤D) (hk:t.kind=12) (ek:t.kids=[]) :
  Calls prog 47 #[.pointer (some ⟨b,0,none⟩),.string (xIn d)] w fun e w'=>e=.returned (.string ((xIn d++aad R d t)++⟨#[10]⟩))∧Add w w':=by
 obtain⟨ksx,hvx⟩:=hn.view
 have c0:=hvx.c0
 rw[hk] at c0
 have hd3:d≤3000:=by have:=hW.D;omega
 obtain⟨g0,cap0,e1,_,_,_⟩:=hvx.kids
 have c5:=hvx.c5
 rw[e1,ek] at c5
 have c5:w.cell? ⟨b,5,none⟩=some (.slice g0 0 cap0):=c5
 have HC0:=zb fun (w1:World) (hq1:w1.cell? ⟨w.heap.size+1,0,none⟩=some (.string (xIn d)))=>aga (s:=⟨#[114,101,116,117,114,110,59]⟩) hd3 hq1 (by simp only[bsz,List.size_toArray,List.length_cons,List.length_nil];omega)
 have ha0:=qC w b (xIn d)
 have q0:=qA w b (xIn d)
 have q1:=qB w b (xIn d)
 have c0':=ha0.cellk c0
 have c5':=ha0.cellk c5
 have HX:=zb (show ((xIn d++aad R d t)++(⟨#[10]⟩:ByteArray))=((xIn d++⟨#[114,101,116,117,114,110,59]⟩)++⟨#[10]⟩) by unfold aad;rw[hk,if_neg (by decide),if_neg (by decide),if_neg (by decide),if_neg (by decide),if_neg (by decide),if_neg (by decide),if_neg (by decide),if_neg (by decide),if_pos rfl];unfold ahb;rw[if_pos (by rw[ek];rfl)])
 have HA:=zb ha0
 clear hn hx hm hd hg hW ha0 hvx c0 hk e1 c5
 go_enter func47,ntmps47
 go_wp2_with fail
 generalize ((w.alloc (.cells #[.pointer (some ⟨b,0,none⟩)] 22)).alloc (.cells #[.string (xIn d)] 9))=wb at *
 refine(za HC0 _ q1).mono ?_
 rintro e wc0 ⟨rfl,hac0⟩
 have HAC0:=zb ((za HA).tr hac0)
 have x0:=hac0.cellk q0
 have z0:=hac0.cellk q1
 clear hac0 q0 q1
 go_wp2_with fail
 go_ret
 rw[za HX]
 exact⟨rfl,(za HAC0)⟩
theorem ao8 {R:Wr} {f D:Nat} (hW:DB R f D) {w:World} (hg:RE w) {b d:Nat} {t:Tree} (hn:Nd w b t) (hx:Wx t) (hm:t.many≤f+1) (hd:d+1≤D) (hk:t.kind=12) {c:Tree} (ek:t.kids=[c]) (hv:vK c) :
  Calls prog 47 #[.pointer (some ⟨b,0,none⟩),.string (xIn d)] w fun e w'=>e=.returned (.string ((xIn d++aad R d t)++⟨#[10]⟩))∧Add w w':=by
 obtain⟨ksx,hvx⟩:=hn.view
 have c0:=hvx.c0
 rw[hk] at c0
 have hd3:d≤3000:=by have:=hW.D;omega
 obtain⟨g,cap,k0,hcap,hmx,c5,g0,n0,hrest⟩:=hn.one ek
 have c5:w.cell? ⟨b,5,none⟩=some (.slice (some ⟨g,0,none⟩) 1 cap):=c5
 have hz0:=ad0 hW hx hm hd (k:=c) (by rw[ek];simp) hv (0+1)
 have HC0:=zb fun (w1:World) (ha:Add w w1) (hq0:w1.cell? ⟨w.heap.size,0,none⟩=some (.pointer (some ⟨b,0,none⟩))) (hq1:w1.cell? ⟨w.heap.size+1,0,none⟩=some (.string (xIn d)))=>ahn hW (hg.add ha) (d:=d) (hn.add ha) hx hm hd hq0 hq1 ek hv
 have HC1:=zb fun (w1:World) (hq1:w1.cell? ⟨w.heap.size+1,0,none⟩=some (.string (xIn d)))=>aga (s:=((⟨#[114,101,116,117,114,110,32]⟩++zu R d (0+1) c)++⟨#[59]⟩)) hd3 hq1 (by simp only[ByteArray.size_append,bsz,List.size_toArray,List.length_cons,List.length_nil];omega)
 have ha0:=qC w b (xIn d)
 have q0:=qA w b (xIn d)
 have q1:=qB w b (xIn d)
 have c0':=ha0.cellk c0
 have c5':=ha0.cellk c5
 have HX:=zb (show ((xIn d++aad R d t)++(⟨#[10]⟩:ByteArray))=((xIn d++((⟨#[114,101,116,117,114,110,32]⟩++zu R d (0+1) c)++⟨#[59]⟩))++⟨#[10]⟩) by unfold aad;rw[hk,if_neg (by decide),if_neg (by decide),if_neg (by decide),if_neg (by decide),if_neg (by decide),if_neg (by decide),if_neg (by decide),if_neg (by decide),if_pos rfl];unfold ahb;rw[aa3 ek,if_neg (by rw[ek];simp)])
 have HA:=zb ha0
 clear hn hx hm hd hg hW ha0 hvx c0 hk n0 hrest g0 c5
 generalize zu R d (0+1) c=X0 at *
 go_enter func47,ntmps47
 go_wp2_with fail
 generalize ((w.alloc (.cells #[.pointer (some ⟨b,0,none⟩)] 22)).alloc (.cells #[.string (xIn d)] 9))=wb at *
 refine(za HC0 _ (za HA) q0 q1).mono ?_
 rintro e wc0 ⟨rfl,hac0⟩
 have HAC0:=zb ((za HA).tr hac0)
 have x0:=hac0.cellk q0
 have z0:=hac0.cellk q1
 clear hac0 q0 q1
 go_wp2_with fail
 refine(za HC1 _ z0).mono ?_
 rintro e wc1 ⟨rfl,hac1⟩
 have HAC1:=zb ((za HAC0).tr hac1)
 have x1:=hac1.cellk x0
 have z1:=hac1.cellk z0
 clear hac1 x0 z0
 go_wp2_with fail
 go_ret
 rw[za HX]
 exact⟨rfl,(za HAC1)⟩
theorem az3 {R:Wr} {f D:Nat} (hW:DB R f D) {w:World} (hg:RE w) {b d:Nat} {t:Tree} (hn:Nd w b t) (hx:Wx t) (hm:t.many≤f+1) (hd:d+1≤D) (hk:t.kind=13) :
  Calls prog 47 #[.pointer (some ⟨b,0,none⟩),.string (xIn d)] w fun e w'=>e=.returned (.string ((xIn d++aad R d t)++⟨#[10]⟩))∧Add w w':=by
 obtain⟨ksx,hvx⟩:=hn.view
 have c0:=hvx.c0
 rw[hk] at c0
 have hd3:d≤3000:=by have:=hW.D;omega
 obtain⟨c,ek,hv⟩:=(show ∃a,t.kids=[a]∧vK a by have:=hx.here.2;rw[hk] at this;exact this)
 have hz0:=ad0 hW hx hm hd (k:=c) (by rw[ek];simp) hv (0+1)
 have HC0:=zb fun (w1:World) (ha:Add w w1) (hq0:w1.cell? ⟨w.heap.size,0,none⟩=some (.pointer (some ⟨b,0,none⟩))) (hq1:w1.cell? ⟨w.heap.size+1,0,none⟩=some (.string (xIn d)))=>ahn hW (hg.add ha) (d:=d) (hn.add ha) hx hm hd hq0 hq1 ek hv
 have HC1:=zb fun (w1:World) (hq1:w1.cell? ⟨w.heap.size+1,0,none⟩=some (.string (xIn d)))=>aga (s:=((⟨#[116,104,114,111,119,32]⟩++zu R d (0+1) c)++⟨#[59]⟩)) hd3 hq1 (by simp only[ByteArray.size_append,bsz,List.size_toArray,List.length_cons,List.length_nil];omega)
 have ha0:=qC w b (xIn d)
 have q0:=qA w b (xIn d)
 have q1:=qB w b (xIn d)
 have c0':=ha0.cellk c0
 have HX:=zb (show ((xIn d++aad R d t)++(⟨#[10]⟩:ByteArray))=((xIn d++((⟨#[116,104,114,111,119,32]⟩++zu R d (0+1) c)++⟨#[59]⟩))++⟨#[10]⟩) by unfold aad;rw[hk,if_neg (by decide),if_neg (by decide),if_neg (by decide),if_neg (by decide),if_neg (by decide),if_neg (by decide),if_neg (by decide),if_neg (by decide),if_neg (by decide),if_pos rfl,aa3 ek])
 have HA:=zb ha0
 clear hn hx hm hd hg hW ha0 hvx c0 hk  
 generalize zu R d (0+1) c=X0 at *
 go_enter func47,ntmps47
 go_wp2_with fail
 generalize ((w.alloc (.cells #[.pointer (some ⟨b,0,none⟩)] 22)).alloc (.cells #[.string (xIn d)] 9))=wb at *
 refine(za HC0 _ (za HA) q0 q1).mono ?_
 rintro e wc0 ⟨rfl,hac0⟩
 have HAC0:=zb ((za HA).tr hac0)
 have x0:=hac0.cellk q0
 have z0:=hac0.cellk q1
 clear hac0 q0 q1
 go_wp2_with fail
 refine(za HC1 _ z0).mono ?_
 rintro e wc1 ⟨rfl,hac1⟩
 have HAC1:=zb ((za HAC0).tr hac1)
 have x1:=hac1.cellk x0
 have z1:=hac1.cellk z0
 clear hac1 x0 z0
 go_wp2_with fail
 go_ret
 rw[za HX]
 exact⟨rfl,(za HAC1)⟩
theorem az4 {R:Wr} {f D:Nat} (hW:DB R f D) {w:World} (hg:RE w) {b d:Nat} {t:Tree} (hn:Nd w b t) (hx:Wx t) (hm:t.many≤f+1) (hd:d+1≤D) (hk:t.kind=16) :
  Calls prog 47 #[.pointer (some ⟨b,0,none⟩),.string (xIn d)] w fun e w'=>e=.returned (.string ((xIn d++aad R d t)++⟨#[10]⟩))∧Add w w':=by
 obtain⟨ksx,hvx⟩:=hn.view
 have c0:=hvx.c0
 rw[hk] at c0
 have hd3:d≤3000:=by have:=hW.D;omega
 obtain⟨c,ek,hv⟩:=(show ∃a,t.kids=[a]∧vK a by have:=hx.here.2;rw[hk] at this;exact this)
 have hz0:=ad0 hW hx hm hd (k:=c) (by rw[ek];simp) hv (0+1)
 have HC0:=zb fun (w1:World) (ha:Add w w1) (hq0:w1.cell? ⟨w.heap.size,0,none⟩=some (.pointer (some ⟨b,0,none⟩))) (hq1:w1.cell? ⟨w.heap.size+1,0,none⟩=some (.string (xIn d)))=>ahn hW (hg.add ha) (d:=d) (hn.add ha) hx hm hd hq0 hq1 ek hv
 have HC1:=zb fun (w1:World) (hq1:w1.cell? ⟨w.heap.size+1,0,none⟩=some (.string (xIn d)))=>aga (s:=((⟨#[112,114,105,110,116,40]⟩++zu R d (0+1) c)++⟨#[41,59]⟩)) hd3 hq1 (by simp only[ByteArray.size_append,bsz,List.size_toArray,List.length_cons,List.length_nil];omega)
 have ha0:=qC w b (xIn d)
 have q0:=qA w b (xIn d)
 have q1:=qB w b (xIn d)
 have c0':=ha0.cellk c0
 have HX:=zb (show ((xIn d++aad R d t)++(⟨#[10]⟩:ByteArray))=((xIn d++((⟨#[112,114,105,110,116,40]⟩++zu R d (0+1) c)++⟨#[41,59]⟩))++⟨#[10]⟩) by unfold aad;rw[hk,if_neg (by decide),if_neg (by decide),if_neg (by decide),if_neg (by decide),if_neg (by decide),if_neg (by decide),if_neg (by decide),if_neg (by decide),if_neg (by decide),if_neg (by decide),if_neg (by decide),if_neg (by decide),if_pos rfl,aa3 ek])
 have HA:=zb ha0
 clear hn hx hm hd hg hW ha0 hvx c0 hk  
 generalize zu R d (0+1) c=X0 at *
 go_enter func47,ntmps47
 go_wp2_with fail
 generalize ((w.alloc (.cells #[.pointer (some ⟨b,0,none⟩)] 22)).alloc (.cells #[.string (xIn d)] 9))=wb at *
 refine(za HC0 _ (za HA) q0 q1).mono ?_
 rintro e wc0 ⟨rfl,hac0⟩
 have HAC0:=zb ((za HA).tr hac0)
 have x0:=hac0.cellk q0
 have z0:=hac0.cellk q1
 clear hac0 q0 q1
 go_wp2_with fail
 refine(za HC1 _ z0).mono ?_
 rintro e wc1 ⟨rfl,hac1⟩
 have HAC1:=zb ((za HAC0).tr hac1)
 have x1:=hac1.cellk x0
 have z1:=hac1.cellk z0
 clear hac1 x0 z0
 go_wp2_with fail
 go_ret
 rw[za HX]
 exact⟨rfl,(za HAC1)⟩
theorem rst_do {R:Wr} {f D:Nat} (hW:DB R f D) {w:World} (hg:RE w) {b d:Nat} {t:Tree} (hn:Nd w b t) (hx:Wx t) (hm:t.many≤f+1) (hd:d+1≤D) (hk:t.kind=17) :
  Calls prog 47 #[.pointer (some ⟨b,0,none⟩),.string (xIn d)] w fun e w'=>e=.returned (.string ((xIn d++aad R d t)++⟨#[10]⟩))∧Add w w':=by
 obtain⟨ksx,hvx⟩:=hn.view
 have c0:=hvx.c0
 rw[hk] at c0
 have hd3:d≤3000:=by have:=hW.D;omega
 obtain⟨c,ek,hv⟩:=(show ∃a,t.kids=[a]∧vK a by have:=hx.here.2;rw[hk] at this;exact this)
 have hz0:(ada R d t).size≤40000000:=by
  have:=agf (aa3 ek) (ab3 hW.len hx hm hd (k:=c) (by rw[ek];simp) hv)
  have:=acr hm (k:=c) (by rw[ek];simp)
  have:=hW.f
  omega
 have HC0:=zb fun (w1:World) (ha:Add w w1)=>atb hW (hg.add ha) (d:=d) (hn.add ha) hx hm hd ek hv
 have HC1:=zb fun (w1:World) (hq1:w1.cell? ⟨w.heap.size+1,0,none⟩=some (.string (xIn d)))=>aga (s:=(ada R d t++⟨#[59]⟩)) hd3 hq1 (by simp only[ByteArray.size_append,bsz,List.size_toArray,List.length_cons,List.length_nil];omega)
 have ha0:=qC w b (xIn d)
 have q0:=qA w b (xIn d)
 have q1:=qB w b (xIn d)
 have c0':=ha0.cellk c0
 have HX:=zb (show ((xIn d++aad R d t)++(⟨#[10]⟩:ByteArray))=((xIn d++(ada R d t++⟨#[59]⟩))++⟨#[10]⟩) by unfold aad;rw[hk,if_neg (by decide),if_neg (by decide),if_neg (by decide),if_neg (by decide),if_neg (by decide),if_neg (by decide),if_neg (by decide),if_neg (by decide),if_neg (by decide),if_neg (by decide),if_neg (by decide),if_neg (by decide),if_neg (by decide)])
 have HA:=zb ha0
 clear hn hx hm hd hg hW ha0 hvx c0 hk  
 generalize ada R d t=X0 at *
 go_enter func47,ntmps47
 go_wp2_with fail
 generalize ((w.alloc (.cells #[.pointer (some ⟨b,0,none⟩)] 22)).alloc (.cells #[.string (xIn d)] 9))=wb at *
 refine(za HC0 _ (za HA)).mono ?_
 rintro e wc0 ⟨rfl,hac0⟩
 have HAC0:=zb ((za HA).tr hac0)
 have x0:=hac0.cellk q0
 have z0:=hac0.cellk q1
 clear hac0 q0 q1
 go_wp2_with fail
 refine(za HC1 _ z0).mono ?_
 rintro e wc1 ⟨rfl,hac1⟩
 have HAC1:=zb ((za HAC0).tr hac1)
 have x1:=hac1.cellk x0
 have z1:=hac1.cellk z0
 clear hac1 x0 z0
 go_wp2_with fail
 go_ret
 rw[za HX]
 exact⟨rfl,(za HAC1)⟩
theorem az5 {R:Wr} {f D:Nat} (hW:DB R f D) {w:World} (hg:RE w) {b d:Nat} {t:Tree} (hn:Nd w b t) (hx:Wx t) (hm:t.many≤f+1) (hd:d+1≤D) (hk:t.kind=11) :
  Calls prog 47 #[.pointer (some ⟨b,0,none⟩),.string (xIn d)] w fun e w'=>e=.returned (.string ((xIn d++aad R d t)++⟨#[10]⟩))∧Add w w':=by
 obtain⟨ksx,hvx⟩:=hn.view
 have c0:=hvx.c0
 rw[hk] at c0
 have hd3:d≤3000:=by have:=hW.D;omega
 obtain⟨c,bl,ek,hv,h7⟩:=(show ∃c b,t.kids=[c,b]∧vK c∧b.kind=7 by have:=hx.here.2;rw[hk] at this;exact this)
 obtain⟨g,cap,k0,hcap,hmx,c5,g0,n0,hrest⟩:=hn.one ek
 obtain⟨k1,g1,n1⟩:=hrest 0 _ rfl
 obtain⟨vb,b5,rb⟩:=n1.kids
 have c5:w.cell? ⟨b,5,none⟩=some (.slice (some ⟨g,0,none⟩) 2 cap):=c5
 have hz0:=ad0 hW hx hm hd (k:=c) (by rw[ek];simp) hv (0+1)
 have HC0:=zb fun (w1:World) (ha:Add w w1) (hq0:w1.cell? ⟨w.heap.size,0,none⟩=some (.pointer (some ⟨b,0,none⟩))) (hq1:w1.cell? ⟨w.heap.size+1,0,none⟩=some (.string (xIn d)))=>ahn hW (hg.add ha) (d:=d) (hn.add ha) hx hm hd hq0 hq1 ek hv
 have hhd1:(((⟨#[119,104,105,108,101,32,40]⟩++zu R d (0+1) c)++⟨#[41]⟩)).size≤100000000:=by
  simp only[ByteArray.size_append,bsz,List.size_toArray,List.length_cons,List.length_nil]
  omega
 have HC1:=zb fun (w1:World) (ha:Add w w1)=>adt hW (hg.add ha) (d:=d) hhd1 (rb.add ha) (af9 hx hm (by rw[ek];simp) h7) (aeb hW.f hm (by rw[ek];simp)) hd
 have ha0:=qC w b (xIn d)
 have q0:=qA w b (xIn d)
 have q1:=qB w b (xIn d)
 have c0':=ha0.cellk c0
 have c5':=ha0.cellk c5
 have g1':=ha0.cellk g1
 have b5':=ha0.cellk b5
 have HX:=zb (show ((xIn d++aad R d t)++(⟨#[10]⟩:ByteArray))=ab8 R d ((⟨#[119,104,105,108,101,32,40]⟩++zu R d (0+1) c)++⟨#[41]⟩) bl.kids by rw[acs];unfold aad;rw[hk,if_neg (by decide),if_neg (by decide),if_neg (by decide),if_neg (by decide),if_neg (by decide),if_neg (by decide),if_neg (by decide),if_pos rfl];unfold adi;rw[aa3 ek,aeu ek,show (⟨#[119,104,105,108,101,32,40]⟩:ByteArray)=⟨#[119,104,105,108,101,32]⟩++⟨#[40]⟩ from rfl,show (⟨#[41,32]⟩:ByteArray)=⟨#[41]⟩++⟨#[32]⟩ from rfl];try simp only[ByteArray.append_assoc])
 have HA:=zb ha0
 clear hn hx hm hd hg hW ha0 hvx c0 hk n0 n1 rb hrest g0 hhd1 c5 g1 b5
 generalize ab8 R d ((⟨#[119,104,105,108,101,32,40]⟩++zu R d (0+1) c)++⟨#[41]⟩) bl.kids=Y0 at *
 generalize zu R d (0+1) c=X0 at *
 go_enter func47,ntmps47
 go_wp2_with fail
 generalize ((w.alloc (.cells #[.pointer (some ⟨b,0,none⟩)] 22)).alloc (.cells #[.string (xIn d)] 9))=wb at *
 have ent0:∀w:World,Sem.run prog (callFunc 81 #[.int .i64 0,.pointer (some ⟨w.heap.size,0,none⟩),.pointer (some ⟨w.heap.size+1,0,none⟩)]) w=.ok (.enter 81 #[.int .i64 0,.pointer (some ⟨w.heap.size,0,none⟩),.pointer (some ⟨w.heap.size+1,0,none⟩)]) w:=fun _=>by kernel_rfl
 have ent1:∀w:World,Sem.run prog (callFunc 85 #[.string ((⟨#[119,104,105,108,101,32,40]⟩++X0)++⟨#[41]⟩),vb,.string (xIn d)]) w=.ok (.enter 85 #[.string ((⟨#[119,104,105,108,101,32,40]⟩++X0)++⟨#[41]⟩),vb,.string (xIn d)]) w:=fun _=>by kernel_rfl
 refine wp_region_held_drew (S:=fun w'=>w'.cell? ⟨w.heap.size,0,none⟩=some (.pointer (some ⟨b,0,none⟩))∧w'.cell? ⟨w.heap.size+1,0,none⟩=some (.string (xIn d))∧w'.cell? ⟨b,5,none⟩=some (.slice (some ⟨g,0,none⟩) 2 cap)∧w'.cell? ⟨g,1,none⟩=some (.pointer (some ⟨k1,0,none⟩))∧w'.cell? ⟨k1,5,none⟩=some (vb)∧Hid (Add w w')) (by kernel_rfl) ⟨q0,q1,c5',g1',b5',(za HA).drew⟩ (fun hHeld=>?_)
 refine tka 0 143 rfl ?_
 refine tka 4 147 rfl ?_
 refine tka 5 148 rfl ?_
 refine tka 6 149 rfl ?_
 refine tka 7 150 rfl ?_
 refine tka 8 151 rfl ?_
 refine tka 9 152 rfl ?_
 refine tka 10 153 rfl ?_
 refine tka 11 154 rfl ?_
 refine tka 12 155 rfl ?_
 simp only[sA,sB,sC]
 refine tka 13 156 rfl ?_
 simp only[sA,sB,sC]
 refine wpAnyH_ready (rs:=[1]) (by kernel_rfl) (by simp) ?_
 refine AllReadyH.cons (o:={ dst:=some 144,op:=_,type:=_,pos:=_,after:=_,guard:=_ }) rfl (fun K hK=>?_) AllReadyH.nil
 refine zm (by kernel_rfl) (by simp[Act.eval,ent0,go_sem]) ((za HC0 _ (za hHeld.2.2.2.2.2) hHeld.1 hHeld.2.1).mono ?_)
 rintro e wc0 ⟨rfl,hac0⟩
 refine hK.out _ _ ⟨hac0.cellk hHeld.1,hac0.cellk hHeld.2.1,hac0.cellk hHeld.2.2.1,hac0.cellk hHeld.2.2.2.1,hac0.cellk hHeld.2.2.2.2.1,(za hHeld.2.2.2.2.2).tr hac0⟩ (fun hHeld1=>?_)
 clear hK K
 simp only[Act.put,sA,sB,sC]
 refine tkb 2 145 rfl ?_
 refine tkb 3 146 rfl ?_
 simp only[sA,sB,sC]
 refine wpAnyH_ready (rs:=[14]) (by kernel_rfl) (by simp) ?_
 refine AllReadyH.cons (o:={ dst:=some 157,op:=_,type:=_,pos:=_,after:=_,guard:=_ }) rfl (fun K hK=>?_) AllReadyH.nil
 refine zm (by kernel_rfl) (by simp[Act.eval,ent1,go_sem]) ((za HC1 _ (za hHeld1.2.2.2.2.2)).mono ?_)
 rintro e wc1 ⟨rfl,hac1⟩
 refine hK.out _ _ ⟨hac1.cellk hHeld1.1,hac1.cellk hHeld1.2.1,hac1.cellk hHeld1.2.2.1,hac1.cellk hHeld1.2.2.2.1,hac1.cellk hHeld1.2.2.2.2.1,(za hHeld1.2.2.2.2.2).tr hac1⟩ (fun hHeld14=>?_)
 clear hK K
 simp only[Act.put,sA,sB,sC]
 refine tka 15 4 rfl ?_
 simp only[sA,sB,sC]
 refine wpAnyH_done (by kernel_rfl) ?_ _
 go_wp2_with fail
 go_ret
 rw[za HX]
 exact⟨rfl,(za hHeld14.2.2.2.2.2)⟩
theorem axg {R:Wr} {f D:Nat} (hW:DB R f D) {w:World} (hg:RE w) {b d:Nat} {t:Tree} (hn:Nd w b t) (hx:Wx t) (hm:t.many≤f+1) (hd:d+1≤D) (hk:t.kind=10) {c bl:Tree} (ek:t.kids=[c,bl]) (hv:vK c) (h7:bl.kind=7) :
  Calls prog 47 #[.pointer (some ⟨b,0,none⟩),.string (xIn d)] w fun e w'=>e=.returned (.string ((xIn d++aad R d t)++⟨#[10]⟩))∧Add w w':=by
 obtain⟨ksx,hvx⟩:=hn.view
 have c0:=hvx.c0
 rw[hk] at c0
 have hd3:d≤3000:=by have:=hW.D;omega
 obtain⟨g,cap,k0,hcap,hmx,c5,g0,n0,hrest⟩:=hn.one ek
 obtain⟨k1,g1,n1⟩:=hrest 0 _ rfl
 obtain⟨vb,b5,rb⟩:=n1.kids
 have c5:w.cell? ⟨b,5,none⟩=some (.slice (some ⟨g,0,none⟩) 2 cap):=c5
 have hz0:=ad0 hW hx hm hd (k:=c) (by rw[ek];simp) hv (0+1)
 have HC0:=zb fun (w1:World) (ha:Add w w1) (hq0:w1.cell? ⟨w.heap.size,0,none⟩=some (.pointer (some ⟨b,0,none⟩))) (hq1:w1.cell? ⟨w.heap.size+1,0,none⟩=some (.string (xIn d)))=>ahn hW (hg.add ha) (d:=d) (hn.add ha) hx hm hd hq0 hq1 ek hv
 have hhd1:(((⟨#[105,102,32,40]⟩++zu R d (0+1) c)++⟨#[41]⟩)).size≤100000000:=by
  simp only[ByteArray.size_append,bsz,List.size_toArray,List.length_cons,List.length_nil]
  omega
 have HC1:=zb fun (w1:World) (ha:Add w w1)=>adt hW (hg.add ha) (d:=d) hhd1 (rb.add ha) (af9 hx hm (by rw[ek];simp) h7) (aeb hW.f hm (by rw[ek];simp)) hd
 have ha0:=qC w b (xIn d)
 have q0:=qA w b (xIn d)
 have q1:=qB w b (xIn d)
 have c0':=ha0.cellk c0
 have c5':=ha0.cellk c5
 have g1':=ha0.cellk g1
 have b5':=ha0.cellk b5
 have HX:=zb (show ((xIn d++aad R d t)++(⟨#[10]⟩:ByteArray))=ab8 R d ((⟨#[105,102,32,40]⟩++zu R d (0+1) c)++⟨#[41]⟩) bl.kids by rw[acs];unfold aad;rw[hk,if_neg (by decide),if_neg (by decide),if_neg (by decide),if_neg (by decide),if_neg (by decide),if_neg (by decide),if_pos rfl];unfold xIf;rw[if_neg (by rw[ek];simp)];unfold adi;rw[aa3 ek,aeu ek,show (⟨#[105,102,32,40]⟩:ByteArray)=⟨#[105,102,32]⟩++⟨#[40]⟩ from rfl,show (⟨#[41,32]⟩:ByteArray)=⟨#[41]⟩++⟨#[32]⟩ from rfl];try simp only[ByteArray.append_assoc])
 have HA:=zb ha0
 clear hn hx hm hd hg hW ha0 hvx c0 hk n0 n1 rb hrest g0 hhd1 c5 g1 b5
 generalize ab8 R d ((⟨#[105,102,32,40]⟩++zu R d (0+1) c)++⟨#[41]⟩) bl.kids=Y0 at *
 generalize zu R d (0+1) c=X0 at *
 go_enter func47,ntmps47
 go_wp2_with fail
 generalize ((w.alloc (.cells #[.pointer (some ⟨b,0,none⟩)] 22)).alloc (.cells #[.string (xIn d)] 9))=wb at *
 have ent0:∀w:World,Sem.run prog (callFunc 81 #[.int .i64 0,.pointer (some ⟨w.heap.size,0,none⟩),.pointer (some ⟨w.heap.size+1,0,none⟩)]) w=.ok (.enter 81 #[.int .i64 0,.pointer (some ⟨w.heap.size,0,none⟩),.pointer (some ⟨w.heap.size+1,0,none⟩)]) w:=fun _=>by kernel_rfl
 have ent1:∀w:World,Sem.run prog (callFunc 85 #[.string ((⟨#[105,102,32,40]⟩++X0)++⟨#[41]⟩),vb,.string (xIn d)]) w=.ok (.enter 85 #[.string ((⟨#[105,102,32,40]⟩++X0)++⟨#[41]⟩),vb,.string (xIn d)]) w:=fun _=>by kernel_rfl
 refine wp_region_held_drew (S:=fun w'=>w'.cell? ⟨w.heap.size,0,none⟩=some (.pointer (some ⟨b,0,none⟩))∧w'.cell? ⟨w.heap.size+1,0,none⟩=some (.string (xIn d))∧w'.cell? ⟨b,5,none⟩=some (.slice (some ⟨g,0,none⟩) 2 cap)∧w'.cell? ⟨g,1,none⟩=some (.pointer (some ⟨k1,0,none⟩))∧w'.cell? ⟨k1,5,none⟩=some (vb)∧Hid (Add w w')) (by kernel_rfl) ⟨q0,q1,c5',g1',b5',(za HA).drew⟩ (fun hHeld=>?_)
 refine tka 0 106 rfl ?_
 refine tka 4 110 rfl ?_
 refine tka 5 111 rfl ?_
 refine tka 6 112 rfl ?_
 refine tka 7 113 rfl ?_
 refine tka 8 114 rfl ?_
 refine tka 9 115 rfl ?_
 refine tka 10 116 rfl ?_
 refine tka 11 117 rfl ?_
 refine tka 12 118 rfl ?_
 simp only[sA,sB,sC]
 refine tka 13 119 rfl ?_
 simp only[sA,sB,sC]
 refine wpAnyH_ready (rs:=[1]) (by kernel_rfl) (by simp) ?_
 refine AllReadyH.cons (o:={ dst:=some 107,op:=_,type:=_,pos:=_,after:=_,guard:=_ }) rfl (fun K hK=>?_) AllReadyH.nil
 refine zm (by kernel_rfl) (by simp[Act.eval,ent0,go_sem]) ((za HC0 _ (za hHeld.2.2.2.2.2) hHeld.1 hHeld.2.1).mono ?_)
 rintro e wc0 ⟨rfl,hac0⟩
 refine hK.out _ _ ⟨hac0.cellk hHeld.1,hac0.cellk hHeld.2.1,hac0.cellk hHeld.2.2.1,hac0.cellk hHeld.2.2.2.1,hac0.cellk hHeld.2.2.2.2.1,(za hHeld.2.2.2.2.2).tr hac0⟩ (fun hHeld1=>?_)
 clear hK K
 simp only[Act.put,sA,sB,sC]
 refine tkb 2 108 rfl ?_
 refine tkb 3 109 rfl ?_
 simp only[sA,sB,sC]
 refine wpAnyH_ready (rs:=[14]) (by kernel_rfl) (by simp) ?_
 refine AllReadyH.cons (o:={ dst:=some 120,op:=_,type:=_,pos:=_,after:=_,guard:=_ }) rfl (fun K hK=>?_) AllReadyH.nil
 refine zm (by kernel_rfl) (by simp[Act.eval,ent1,go_sem]) ((za HC1 _ (za hHeld1.2.2.2.2.2)).mono ?_)
 rintro e wc1 ⟨rfl,hac1⟩
 refine hK.out _ _ ⟨hac1.cellk hHeld1.1,hac1.cellk hHeld1.2.1,hac1.cellk hHeld1.2.2.1,hac1.cellk hHeld1.2.2.2.1,hac1.cellk hHeld1.2.2.2.2.1,(za hHeld1.2.2.2.2.2).tr hac1⟩ (fun hHeld14=>?_)
 clear hK K
 simp only[Act.put,sA,sB,sC]
 refine tka 15 8 rfl ?_
 simp only[sA,sB,sC]
 refine wpAnyH_done (by kernel_rfl) ?_ _
 have HAL:=zb (za hHeld14.2.2.2.2.2)
 have y0:=hHeld14.1
 have y5:=hHeld14.2.2.1
 clear hHeld hHeld1 hHeld14 hac0 hac1
 go_wp2_with fail
 go_ret
 rw[za HX]
 exact⟨rfl,za HAL⟩
theorem atc {R:Wr} {f D:Nat} (hW:DB R f D) {w:World} (hg:RE w) {b d:Nat} {t:Tree} (hn:Nd w b t) (hx:Wx t) (hm:t.many≤f+1) (hd:d+1≤D) (hk:t.kind=10) {c bl el:Tree} (ek:t.kids=[c,bl,el]) (hv:vK c) (h7:bl.kind=7) (he:el.kind=7) :
  Calls prog 47 #[.pointer (some ⟨b,0,none⟩),.string (xIn d)] w fun e w'=>e=.returned (.string ((xIn d++aad R d t)++⟨#[10]⟩))∧Add w w':=by
 obtain⟨ksx,hvx⟩:=hn.view
 have c0:=hvx.c0
 rw[hk] at c0
 have hd3:d≤3000:=by have:=hW.D;omega
 obtain⟨g,cap,k0,hcap,hmx,c5,g0,n0,hrest⟩:=hn.one ek
 obtain⟨k1,g1,n1⟩:=hrest 0 _ rfl
 obtain⟨vb,b5,rb⟩:=n1.kids
 obtain⟨k2,g2,n2⟩:=hrest 1 _ rfl
 obtain⟨ve,e5,re⟩:=n2.kids
 have c5:w.cell? ⟨b,5,none⟩=some (.slice (some ⟨g,0,none⟩) 3 cap):=c5
 have hz0:=ad0 hW hx hm hd (k:=c) (by rw[ek];simp) hv (0+1)
 have HC0:=zb fun (w1:World) (ha:Add w w1) (hq0:w1.cell? ⟨w.heap.size,0,none⟩=some (.pointer (some ⟨b,0,none⟩))) (hq1:w1.cell? ⟨w.heap.size+1,0,none⟩=some (.string (xIn d)))=>ahn hW (hg.add ha) (d:=d) (hn.add ha) hx hm hd hq0 hq1 ek hv
 have hhd1:(((⟨#[105,102,32,40]⟩++zu R d (0+1) c)++⟨#[41]⟩)).size≤100000000:=by
  simp only[ByteArray.size_append,bsz,List.size_toArray,List.length_cons,List.length_nil]
  omega
 have HC1:=zb fun (w1:World) (ha:Add w w1)=>adt hW (hg.add ha) (d:=d) hhd1 (rb.add ha) (af9 hx hm (by rw[ek];simp) h7) (aeb hW.f hm (by rw[ek];simp)) hd
 have hhd2:((⟨#[101,108,115,101]⟩:ByteArray)).size≤100000000:=by
  simp only[bsz,List.size_toArray,List.length_cons,List.length_nil]
  omega
 have HC2:=zb fun (w1:World) (ha:Add w w1)=>adt hW (hg.add ha) (d:=d) hhd2 (re.add ha) (af9 hx hm (by rw[ek];simp) he) (aeb hW.f hm (by rw[ek];simp)) hd
 have hzA:(ab8 R d ((⟨#[105,102,32,40]⟩++zu R d (0+1) c)++⟨#[41]⟩) bl.kids).size≤200000000:=by
  have a2:=an0 hW hx hm hd (p:=bl) (by rw[ek];simp) h7
  have a3:=aeh d
  rw[acs]
  simp only[ByteArray.size_append,bsz,List.size_toArray,List.length_cons,List.length_nil]
  omega
 have hzB:(ab8 R d ⟨#[101,108,115,101]⟩ el.kids).size≤200000000:=by
  have a2:=an0 hW hx hm hd (p:=el) (by rw[ek];simp) he
  have a3:=aeh d
  rw[acs]
  simp only[ByteArray.size_append,bsz,List.size_toArray,List.length_cons,List.length_nil]
  omega
 have ha0:=qC w b (xIn d)
 have q0:=qA w b (xIn d)
 have q1:=qB w b (xIn d)
 have c0':=ha0.cellk c0
 have c5':=ha0.cellk c5
 have g1':=ha0.cellk g1
 have b5':=ha0.cellk b5
 have g2':=ha0.cellk g2
 have e5':=ha0.cellk e5
 have HX:=zb (show ((xIn d++aad R d t)++(⟨#[10]⟩:ByteArray))=(ab8 R d ((⟨#[105,102,32,40]⟩++zu R d (0+1) c)++⟨#[41]⟩) bl.kids++ab8 R d ⟨#[101,108,115,101]⟩ el.kids) by rw[acs,acs];unfold aad;rw[hk,if_neg (by decide),if_neg (by decide),if_neg (by decide),if_neg (by decide),if_neg (by decide),if_neg (by decide),if_pos rfl];unfold xIf;rw[kid2 ek,if_pos (by rw[ek];simp)];unfold adi;rw[aa3 ek,aeu ek,show (⟨#[105,102,32,40]⟩:ByteArray)=⟨#[105,102,32]⟩++⟨#[40]⟩ from rfl,show (⟨#[41,32]⟩:ByteArray)=⟨#[41]⟩++⟨#[32]⟩ from rfl,show (⟨#[101,108,115,101,32]⟩:ByteArray)=⟨#[101,108,115,101]⟩++⟨#[32]⟩ from rfl];simp only[ByteArray.append_assoc])
 have HA:=zb ha0
 clear hn hx hm hd hg hW ha0 hvx c0 hk n0 n1 n2 rb re hrest g0 hhd1 hhd2 c5 g1 b5 g2 e5
 generalize ab8 R d ⟨#[101,108,115,101]⟩ el.kids=Y1 at *
 generalize ab8 R d ((⟨#[105,102,32,40]⟩++zu R d (0+1) c)++⟨#[41]⟩) bl.kids=Y0 at *
 generalize zu R d (0+1) c=X0 at *
 go_enter func47,ntmps47
 go_wp2_with fail
 generalize ((w.alloc (.cells #[.pointer (some ⟨b,0,none⟩)] 22)).alloc (.cells #[.string (xIn d)] 9))=wb at *
 have ent0:∀w:World,Sem.run prog (callFunc 81 #[.int .i64 0,.pointer (some ⟨w.heap.size,0,none⟩),.pointer (some ⟨w.heap.size+1,0,none⟩)]) w=.ok (.enter 81 #[.int .i64 0,.pointer (some ⟨w.heap.size,0,none⟩),.pointer (some ⟨w.heap.size+1,0,none⟩)]) w:=fun _=>by kernel_rfl
 have ent1:∀w:World,Sem.run prog (callFunc 85 #[.string ((⟨#[105,102,32,40]⟩++X0)++⟨#[41]⟩),vb,.string (xIn d)]) w=.ok (.enter 85 #[.string ((⟨#[105,102,32,40]⟩++X0)++⟨#[41]⟩),vb,.string (xIn d)]) w:=fun _=>by kernel_rfl
 refine wp_region_held_drew (S:=fun w'=>w'.cell? ⟨w.heap.size,0,none⟩=some (.pointer (some ⟨b,0,none⟩))∧w'.cell? ⟨w.heap.size+1,0,none⟩=some (.string (xIn d))∧w'.cell? ⟨b,5,none⟩=some (.slice (some ⟨g,0,none⟩) 3 cap)∧w'.cell? ⟨g,1,none⟩=some (.pointer (some ⟨k1,0,none⟩))∧w'.cell? ⟨k1,5,none⟩=some (vb)∧w'.cell? ⟨g,2,none⟩=some (.pointer (some ⟨k2,0,none⟩))∧w'.cell? ⟨k2,5,none⟩=some (ve)∧Hid (Add w w')) (by kernel_rfl) ⟨q0,q1,c5',g1',b5',g2',e5',(za HA).drew⟩ (fun hHeld=>?_)
 refine tka 0 106 rfl ?_
 refine tka 4 110 rfl ?_
 refine tka 5 111 rfl ?_
 refine tka 6 112 rfl ?_
 refine tka 7 113 rfl ?_
 refine tka 8 114 rfl ?_
 refine tka 9 115 rfl ?_
 refine tka 10 116 rfl ?_
 refine tka 11 117 rfl ?_
 refine tka 12 118 rfl ?_
 simp only[sA,sB,sC]
 refine tka 13 119 rfl ?_
 simp only[sA,sB,sC]
 refine wpAnyH_ready (rs:=[1]) (by kernel_rfl) (by simp) ?_
 refine AllReadyH.cons (o:={ dst:=some 107,op:=_,type:=_,pos:=_,after:=_,guard:=_ }) rfl (fun K hK=>?_) AllReadyH.nil
 refine zm (by kernel_rfl) (by simp[Act.eval,ent0,go_sem]) ((za HC0 _ (za hHeld.2.2.2.2.2.2.2) hHeld.1 hHeld.2.1).mono ?_)
 rintro e wc0 ⟨rfl,hac0⟩
 refine hK.out _ _ ⟨hac0.cellk hHeld.1,hac0.cellk hHeld.2.1,hac0.cellk hHeld.2.2.1,hac0.cellk hHeld.2.2.2.1,hac0.cellk hHeld.2.2.2.2.1,hac0.cellk hHeld.2.2.2.2.2.1,hac0.cellk hHeld.2.2.2.2.2.2.1,(za hHeld.2.2.2.2.2.2.2).tr hac0⟩ (fun hHeld1=>?_)
 clear hK K
 simp only[Act.put,sA,sB,sC]
 refine tkb 2 108 rfl ?_
 refine tkb 3 109 rfl ?_
 simp only[sA,sB,sC]
 refine wpAnyH_ready (rs:=[14]) (by kernel_rfl) (by simp) ?_
 refine AllReadyH.cons (o:={ dst:=some 120,op:=_,type:=_,pos:=_,after:=_,guard:=_ }) rfl (fun K hK=>?_) AllReadyH.nil
 refine zm (by kernel_rfl) (by simp[Act.eval,ent1,go_sem]) ((za HC1 _ (za hHeld1.2.2.2.2.2.2.2)).mono ?_)
 rintro e wc1 ⟨rfl,hac1⟩
 refine hK.out _ _ ⟨hac1.cellk hHeld1.1,hac1.cellk hHeld1.2.1,hac1.cellk hHeld1.2.2.1,hac1.cellk hHeld1.2.2.2.1,hac1.cellk hHeld1.2.2.2.2.1,hac1.cellk hHeld1.2.2.2.2.2.1,hac1.cellk hHeld1.2.2.2.2.2.2.1,(za hHeld1.2.2.2.2.2.2.2).tr hac1⟩ (fun hHeld14=>?_)
 clear hK K
 simp only[Act.put,sA,sB,sC]
 refine tka 15 8 rfl ?_
 simp only[sA,sB,sC]
 refine wpAnyH_done (by kernel_rfl) ?_ _
 have HAL:=zb (za hHeld14.2.2.2.2.2.2.2)
 have y0:=hHeld14.1
 have y1:=hHeld14.2.1
 have y2:=hHeld14.2.2.1
 have y3:=hHeld14.2.2.2.2.2.1
 have y4:=hHeld14.2.2.2.2.2.2.1
 clear hHeld hHeld1 hHeld14 hac0 hac1 q0 q1 c5' g1' b5' g2' e5' c0'
 go_wp2_with fail
 have ent0:∀w:World,Sem.run prog (callFunc 85 #[.string ⟨#[101,108,115,101]⟩,ve,.string (xIn d)]) w=.ok (.enter 85 #[.string ⟨#[101,108,115,101]⟩,ve,.string (xIn d)]) w:=fun _=>by kernel_rfl
 refine wp_region_held_drew (S:=fun w'=>w'.cell? ⟨w.heap.size,0,none⟩=some (.pointer (some ⟨b,0,none⟩))∧w'.cell? ⟨w.heap.size+1,0,none⟩=some (.string (xIn d))∧w'.cell? ⟨b,5,none⟩=some (.slice (some ⟨g,0,none⟩) 3 cap)∧w'.cell? ⟨g,2,none⟩=some (.pointer (some ⟨k2,0,none⟩))∧w'.cell? ⟨k2,5,none⟩=some (ve)∧Hid (Add w w')) (by kernel_rfl) ⟨y0,y1,y2,y3,y4,(za HAL).drew⟩ (fun hHeld=>?_)
 refine tka 0 127 rfl ?_
 refine tka 1 128 rfl ?_
 refine tka 2 129 rfl ?_
 refine tka 3 130 rfl ?_
 refine tka 4 131 rfl ?_
 refine tka 5 132 rfl ?_
 refine tka 6 133 rfl ?_
 refine tka 7 134 rfl ?_
 refine tka 8 135 rfl ?_
 refine tka 9 136 rfl ?_
 simp only[sA,sB,sC]
 refine tka 10 137 rfl ?_
 simp only[sA,sB,sC]
 refine wpAnyH_ready (rs:=[11]) (by kernel_rfl) (by simp) ?_
 refine AllReadyH.cons (o:={ dst:=some 138,op:=_,type:=_,pos:=_,after:=_,guard:=_ }) rfl (fun K hK=>?_) AllReadyH.nil
 refine zm (by kernel_rfl) (by simp[Act.eval,ent0,go_sem]) ((za HC2 _ (za hHeld.2.2.2.2.2)).mono ?_)
 rintro e wc0 ⟨rfl,hac0⟩
 refine hK.out _ _ ⟨hac0.cellk hHeld.1,hac0.cellk hHeld.2.1,hac0.cellk hHeld.2.2.1,hac0.cellk hHeld.2.2.2.1,hac0.cellk hHeld.2.2.2.2.1,(za hHeld.2.2.2.2.2).tr hac0⟩ (fun hHeld11=>?_)
 clear hK K
 simp only[Act.put,sA,sB,sC]
 refine tkb 12 139 rfl ?_
 refine tka 13 8 rfl ?_
 simp only[sA,sB,sC]
 refine wpAnyH_done (by kernel_rfl) ?_ _
 go_wp2_with fail
 go_ret
 rw[za HX]
 exact⟨rfl,(za hHeld11.2.2.2.2.2)⟩
theorem rst_try {R:Wr} {f D:Nat} (hW:DB R f D) {w:World} (hg:RE w) {b d:Nat} {t:Tree} (hn:Nd w b t) (hx:Wx t) (hm:t.many≤f+1) (hd:d+1≤D) (hk:t.kind=14) :
  Calls prog 47 #[.pointer (some ⟨b,0,none⟩),.string (xIn d)] w fun e w'=>e=.returned (.string ((xIn d++aad R d t)++⟨#[10]⟩))∧Add w w':=by
 obtain⟨ksx,hvx⟩:=hn.view
 have c0:=hvx.c0
 rw[hk] at c0
 have hd3:d≤3000:=by have:=hW.D;omega
 obtain⟨bl,cc,ek,h7,h15⟩:=(show ∃b c,t.kids=[b,c]∧b.kind=7∧c.kind=15 by have:=hx.here.2;rw[hk] at this;exact this)
 have hxc:=hx.kid (k:=cc) (by rw[ek];simp)
 have hmc:=Nat.le_succ_of_le (acr hm (k:=cc) (by rw[ek];simp))
 obtain⟨cb,ekc,h7c⟩:=(show ∃b,cc.kids=[b]∧b.kind=7 by have:=hxc.here.2;rw[h15] at this;exact this)
 obtain⟨g,cap,k0,hcap,hmx,c5,g0,n0,hrest⟩:=hn.one ek
 obtain⟨k1,g1,n1⟩:=hrest 0 _ rfl
 obtain⟨vb,b5,rb⟩:=n0.kids
 have c5:w.cell? ⟨b,5,none⟩=some (.slice (some ⟨g,0,none⟩) 2 cap):=c5
 obtain⟨kx1,v1⟩:=n1.view
 have t1:=v1.c1
 obtain⟨g2,cap2,kc,hcap2,hmx2,d5,g3,n3,hrest2⟩:=n1.one ekc
 have d5:w.cell? ⟨k1,5,none⟩=some (.slice (some ⟨g2,0,none⟩) 1 cap2):=d5
 obtain⟨ve,e5,re⟩:=n3.kids
 have htc:=(abf hxc.here.1).1
 have hhd0:((⟨#[116,114,121]⟩:ByteArray)).size≤100000000:=by
  simp only[bsz,List.size_toArray,List.length_cons,List.length_nil]
  omega
 have HC0:=zb fun (w1:World) (ha:Add w w1)=>adt hW (hg.add ha) (d:=d) hhd0 (rb.add ha) (af9 hx hm (by rw[ek];simp) h7) (aeb hW.f hm (by rw[ek];simp)) hd
 have hhd1:(((⟨#[99,97,116,99,104,32,40]⟩++cc.text)++⟨#[41]⟩)).size≤100000000:=by
  simp only[ByteArray.size_append,bsz,List.size_toArray,List.length_cons,List.length_nil]
  omega
 have HC1:=zb fun (w1:World) (ha:Add w w1)=>adt hW (hg.add ha) (d:=d) hhd1 (re.add ha) (af9 hxc hmc (by rw[ekc];simp) h7c) (aeb hW.f hmc (by rw[ekc];simp)) hd
 have hzA:(ab8 R d ⟨#[116,114,121]⟩ bl.kids).size≤200000000:=by
  have a2:=an0 hW hx hm hd (p:=bl) (by rw[ek];simp) h7
  have a3:=aeh d
  rw[acs]
  simp only[ByteArray.size_append,bsz,List.size_toArray,List.length_cons,List.length_nil]
  omega
 have hzB:(ab8 R d ((⟨#[99,97,116,99,104,32,40]⟩++cc.text)++⟨#[41]⟩) cb.kids).size≤200000000:=by
  have a2:=an0 hW hxc hmc hd (p:=cb) (by rw[ekc];simp) h7c
  have a3:=aeh d
  rw[acs]
  simp only[ByteArray.size_append,bsz,List.size_toArray,List.length_cons,List.length_nil]
  omega
 have ha0:=qC w b (xIn d)
 have q0:=qA w b (xIn d)
 have q1:=qB w b (xIn d)
 have c0':=ha0.cellk c0
 have c5':=ha0.cellk c5
 have g0':=ha0.cellk g0
 have g1':=ha0.cellk g1
 have b5':=ha0.cellk b5
 have t1':=ha0.cellk t1
 have d5':=ha0.cellk d5
 have g3':=ha0.cellk g3
 have e5':=ha0.cellk e5
 have HX:=zb (show ((xIn d++aad R d t)++(⟨#[10]⟩:ByteArray))=(ab8 R d ⟨#[116,114,121]⟩ bl.kids++ab8 R d ((⟨#[99,97,116,99,104,32,40]⟩++cc.text)++⟨#[41]⟩) cb.kids) by rw[acs,acs];unfold aad;rw[hk,if_neg (by decide),if_neg (by decide),if_neg (by decide),if_neg (by decide),if_neg (by decide),if_neg (by decide),if_neg (by decide),if_neg (by decide),if_neg (by decide),if_neg (by decide),if_pos rfl,aa3 ek,aeu ek];unfold af6;rw[aa3 ekc,show (⟨#[116,114,121,32]⟩:ByteArray)=⟨#[116,114,121]⟩++⟨#[32]⟩ from rfl,show (⟨#[41,32]⟩:ByteArray)=⟨#[41]⟩++⟨#[32]⟩ from rfl];simp only[ByteArray.append_assoc])
 have HA:=zb ha0
 clear hn hx hm hd hg hW ha0 hvx c0 hk n0 n1 n3 rb re hrest hrest2 hhd0 hhd1 v1 hxc hmc c5 g0 g1 b5 t1 d5 g3 e5
 generalize ab8 R d ((⟨#[99,97,116,99,104,32,40]⟩++cc.text)++⟨#[41]⟩) cb.kids=Y1 at *
 generalize ab8 R d ⟨#[116,114,121]⟩ bl.kids=Y0 at *
 go_enter func47,ntmps47
 go_wp2_with fail
 generalize ((w.alloc (.cells #[.pointer (some ⟨b,0,none⟩)] 22)).alloc (.cells #[.string (xIn d)] 9))=wb at *
 have ent0:∀w:World,Sem.run prog (callFunc 85 #[.string ⟨#[116,114,121]⟩,vb,.string (xIn d)]) w=.ok (.enter 85 #[.string ⟨#[116,114,121]⟩,vb,.string (xIn d)]) w:=fun _=>by kernel_rfl
 have ent1:∀w:World,Sem.run prog (callFunc 85 #[.string ((⟨#[99,97,116,99,104,32,40]⟩++cc.text)++⟨#[41]⟩),ve,.string (xIn d)]) w=.ok (.enter 85 #[.string ((⟨#[99,97,116,99,104,32,40]⟩++cc.text)++⟨#[41]⟩),ve,.string (xIn d)]) w:=fun _=>by kernel_rfl
 refine wp_region_held_drew (S:=fun w'=>w'.cell? ⟨w.heap.size,0,none⟩=some (.pointer (some ⟨b,0,none⟩))∧w'.cell? ⟨w.heap.size+1,0,none⟩=some (.string (xIn d))∧w'.cell? ⟨b,5,none⟩=some (.slice (some ⟨g,0,none⟩) 2 cap)∧w'.cell? ⟨g,0,none⟩=some (.pointer (some ⟨k0,0,none⟩))∧w'.cell? ⟨g,1,none⟩=some (.pointer (some ⟨k1,0,none⟩))∧w'.cell? ⟨k0,5,none⟩=some (vb)∧w'.cell? ⟨k1,1,none⟩=some (.string cc.text)∧w'.cell? ⟨k1,5,none⟩=some (.slice (some ⟨g2,0,none⟩) 1 cap2)∧w'.cell? ⟨g2,0,none⟩=some (.pointer (some ⟨kc,0,none⟩))∧w'.cell? ⟨kc,5,none⟩=some (ve)∧Hid (Add w w')) (by kernel_rfl) ⟨q0,q1,c5',g0',g1',b5',t1',d5',g3',e5',(za HA).drew⟩ (fun hHeld=>?_)
 refine tka 0 160 rfl ?_
 refine tka 1 161 rfl ?_
 refine tka 2 162 rfl ?_
 refine tka 3 163 rfl ?_
 refine tka 4 164 rfl ?_
 refine tka 5 165 rfl ?_
 refine tka 6 166 rfl ?_
 refine tka 7 167 rfl ?_
 refine tka 8 168 rfl ?_
 refine tka 9 169 rfl ?_
 simp only[sA,sB,sC]
 refine tka 11 171 rfl ?_
 refine tka 12 172 rfl ?_
 refine tka 13 173 rfl ?_
 refine tka 14 174 rfl ?_
 refine tka 15 175 rfl ?_
 refine tka 16 176 rfl ?_
 refine tka 17 177 rfl ?_
 refine tka 18 178 rfl ?_
 refine tka 19 179 rfl ?_
 refine tkb 20 180 rfl ?_
 simp only[sA,sB,sC]
 refine tkb 21 181 rfl ?_
 refine tka 22 182 rfl ?_
 refine tka 23 183 rfl ?_
 refine tka 24 184 rfl ?_
 refine tka 25 185 rfl ?_
 refine tka 26 186 rfl ?_
 refine tka 27 187 rfl ?_
 refine tka 28 188 rfl ?_
 refine tka 29 189 rfl ?_
 refine tka 30 190 rfl ?_
 simp only[sA,sB,sC]
 refine tka 31 191 rfl ?_
 refine tka 32 192 rfl ?_
 refine tka 33 193 rfl ?_
 refine tka 34 194 rfl ?_
 refine tka 35 195 rfl ?_
 refine tka 36 196 rfl ?_
 simp only[sA,sB,sC]
 refine wpAnyH_ready (rs:=[10]) (by kernel_rfl) (by simp) ?_
 refine AllReadyH.cons (o:={ dst:=some 170,op:=_,type:=_,pos:=_,after:=_,guard:=_ }) rfl (fun K hK=>?_) AllReadyH.nil
 refine zm (by kernel_rfl) (by simp[Act.eval,ent0,go_sem]) ((za HC0 _ (za hHeld.2.2.2.2.2.2.2.2.2.2)).mono ?_)
 rintro e wc0 ⟨rfl,hac0⟩
 refine hK.out _ _ ⟨hac0.cellk hHeld.1,hac0.cellk hHeld.2.1,hac0.cellk hHeld.2.2.1,hac0.cellk hHeld.2.2.2.1,hac0.cellk hHeld.2.2.2.2.1,hac0.cellk hHeld.2.2.2.2.2.1,hac0.cellk hHeld.2.2.2.2.2.2.1,hac0.cellk hHeld.2.2.2.2.2.2.2.1,hac0.cellk hHeld.2.2.2.2.2.2.2.2.1,hac0.cellk hHeld.2.2.2.2.2.2.2.2.2.1,(za hHeld.2.2.2.2.2.2.2.2.2.2).tr hac0⟩ (fun hHeld10=>?_)
 clear hK K
 simp only[Act.put,sA,sB,sC]
 refine wpAnyH_ready (rs:=[37]) (by kernel_rfl) (by simp) ?_
 refine AllReadyH.cons (o:={ dst:=some 197,op:=_,type:=_,pos:=_,after:=_,guard:=_ }) rfl (fun K hK=>?_) AllReadyH.nil
 refine zm (by kernel_rfl) (by simp[Act.eval,ent1,go_sem]) ((za HC1 _ (za hHeld10.2.2.2.2.2.2.2.2.2.2)).mono ?_)
 rintro e wc1 ⟨rfl,hac1⟩
 refine hK.out _ _ ⟨hac1.cellk hHeld10.1,hac1.cellk hHeld10.2.1,hac1.cellk hHeld10.2.2.1,hac1.cellk hHeld10.2.2.2.1,hac1.cellk hHeld10.2.2.2.2.1,hac1.cellk hHeld10.2.2.2.2.2.1,hac1.cellk hHeld10.2.2.2.2.2.2.1,hac1.cellk hHeld10.2.2.2.2.2.2.2.1,hac1.cellk hHeld10.2.2.2.2.2.2.2.2.1,hac1.cellk hHeld10.2.2.2.2.2.2.2.2.2.1,(za hHeld10.2.2.2.2.2.2.2.2.2.2).tr hac1⟩ (fun hHeld37=>?_)
 clear hK K
 simp only[Act.put,sA,sB,sC]
 refine tkb 38 198 rfl ?_
 refine tka 39 4 rfl ?_
 simp only[sA,sB,sC]
 refine wpAnyH_done (by kernel_rfl) ?_ _
 go_wp2_with fail
 go_ret
 rw[za HX]
 exact⟨rfl,(za hHeld37.2.2.2.2.2.2.2.2.2.2)⟩
theorem rst_any {R:Wr} {f D:Nat} (hW:DB R f D) {w:World} (hg:RE w) {b d:Nat} {t:Tree} (hn:Nd w b t) (hx:Wx t) (hm:t.many≤f+1) (hd:d+1≤D) (hs:dsK t):Calls prog 47 #[.pointer (some ⟨b,0,none⟩),.string (xIn d)] w fun e w'=>e=.returned (.string ((xIn d++aad R d t)++⟨#[10]⟩))∧Add w w':=by
 have hc:=hx.here.2
 obtain⟨hs,hn15⟩:=hs
 unfold stK sK at hs
 rcases(by omega:t.kind=2∨t.kind=3∨t.kind=4∨t.kind=5∨t.kind=8∨t.kind=9∨t.kind=10∨t.kind=11∨t.kind=12∨t.kind=13∨t.kind=14∨t.kind=16∨t.kind=17) with h | h | h | h | h | h | h | h | h | h | h | h | h
 ·by_cases hu:t.under=zc
  ·exact ao7 hW hg hn hx hm hd h hu
  ·exact an1 hW hg hn hx hm hd h hu
 ·exact az2 hW hg hn hx hm hd h
 ·exact axf hW hg hn hx hm hd h
 ·exact rst_fn hW hg hn hx hm hd h
 ·exact rst_var hW hg hn hx hm hd h
 ·exact rst_set hW hg hn hx hm hd h
 ·rw[h] at hc
  obtain⟨c,bl,h1,h7,ek | ⟨el,ek,he⟩⟩:=(show ∃c b,vK c∧b.kind=7∧(t.kids=[c,b]∨∃e,t.kids=[c,b,e]∧e.kind=7) from hc)
  ·exact axg hW hg hn hx hm hd h ek h1 h7
  ·exact atc hW hg hn hx hm hd h ek h1 h7 he
 ·exact az5 hW hg hn hx hm hd h
 ·rw[h] at hc
  rcases(show t.kids=[]∨∃a,t.kids=[a]∧vK a from hc) with ek | ⟨a,ek,ha⟩
  ·exact an2 hW hg hn hx hm hd h ek
  ·exact ao8 hW hg hn hx hm hd h ek ha
 ·exact az3 hW hg hn hx hm hd h
 ·exact rst_try hW hg hn hx hm hd h
 ·exact az4 hW hg hn hx hm hd h
 ·exact rst_do hW hg hn hx hm hd h
theorem atd:∀(f D:Nat),f≤1200→f+D≤3000→DB (xN f) f D
 | 0,D,hf,h=>⟨fun w b t d l _ _ _ _ hm=>by rw[aa4] at hm;omega,fun w b t d _ _ _ _ hm=>by rw[aa4] at hm;omega,aik 0 D h,hf,by omega⟩
 | f+1,D,hf,h=>⟨fun w b t d l hg hn hx hv hm hd=>bc7 (atd f (D+1) (by omega) (by omega)) hg hn hx hm (by omega) hv (by have:=(aik (f+1) D h).v t d hx hv hm hd;have e:(xN (f+1)).B d t=zy (xN f) d t:=rfl;rw[e] at this;omega),fun w b t d hg hn hx hs hm hd=>rst_any (atd f (D+1) (by omega) (by omega)) hg hn hx hm (by omega) hs,aik (f+1) D h,hf,by omega⟩
end Go.Proofs.YtndgajlidckcdaaGreatDoor
