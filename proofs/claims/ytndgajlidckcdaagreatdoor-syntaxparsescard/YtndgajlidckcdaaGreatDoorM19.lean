/- A part. -/
import Derived.Test.YtndgajlidckcdaaGreatDoorM18
open Go.Proofs.Tryz
namespace Go.Proofs.YtndgajlidckcdaaGreatDoor
open Go.RowKit
set_option linter.unusedVariables false
set_option linter.unusedSimpArgs false
set_option maxRecDepth 100000
set_option maxHeartbeats 8000000
theorem aoy {R:Wr} {f D:Nat} (hW:WB R f D) {w:World} (hg:SG w) {b d:Nat} {t:Tree} (hn:Nd w b t) (hx:Wx t) (hm:t.many≤f+1) (hd:d+1≤D) (hk:t.kind=20) :
  Calls prog 250 #[.agg #[.int .i64 d],.pointer (some ⟨b,0,none⟩)] w fun e w'=>e=.returned (.string (aag R d t))∧Add w w':=by
 obtain⟨ksx,hvx⟩:=hn.view
 have c0:=hvx.c0
 rw[hk] at c0
 have ha0:=qE w d
 have q0:=qD w d
 have c0':=ha0.cellk c0
 have HX:=zb (show aag R d t=⟨#[116,114,117,101]⟩ by unfold aag;rw[hk,if_neg (by decide),if_neg (by decide),if_pos rfl])
 have HA:=zb ha0
 clear hn hx hm hd hg hW ha0 hvx c0  
 go_enter func250,ntmps250
 go_wp2_with fail
 go_ret
 rw[za HX]
 exact⟨rfl,za HA⟩
theorem anp {R:Wr} {f D:Nat} (hW:WB R f D) {w:World} (hg:SG w) {b d:Nat} {t:Tree} (hn:Nd w b t) (hx:Wx t) (hm:t.many≤f+1) (hd:d+1≤D) (hk:t.kind=21) :
  Calls prog 250 #[.agg #[.int .i64 d],.pointer (some ⟨b,0,none⟩)] w fun e w'=>e=.returned (.string (aag R d t))∧Add w w':=by
 obtain⟨ksx,hvx⟩:=hn.view
 have c0:=hvx.c0
 rw[hk] at c0
 have ha0:=qE w d
 have q0:=qD w d
 have c0':=ha0.cellk c0
 have HX:=zb (show aag R d t=⟨#[102,97,108,115,101]⟩ by unfold aag;rw[hk,if_neg (by decide),if_neg (by decide),if_neg (by decide),if_pos rfl])
 have HA:=zb ha0
 clear hn hx hm hd hg hW ha0 hvx c0  
 go_enter func250,ntmps250
 go_wp2_with fail
 go_ret
 rw[za HX]
 exact⟨rfl,za HA⟩
theorem aqs {R:Wr} {f D:Nat} (hW:WB R f D) {w:World} (hg:SG w) {b d:Nat} {t:Tree} (hn:Nd w b t) (hx:Wx t) (hm:t.many≤f+1) (hd:d+1≤D) (hk:t.kind=22) :
  Calls prog 250 #[.agg #[.int .i64 d],.pointer (some ⟨b,0,none⟩)] w fun e w'=>e=.returned (.string (aag R d t))∧Add w w':=by
 obtain⟨ksx,hvx⟩:=hn.view
 have c0:=hvx.c0
 rw[hk] at c0
 have ha0:=qE w d
 have q0:=qD w d
 have c0':=ha0.cellk c0
 have HX:=zb (show aag R d t=⟨#[110,105,108]⟩ by unfold aag;rw[hk,if_neg (by decide),if_neg (by decide),if_neg (by decide),if_neg (by decide),if_pos rfl])
 have HA:=zb ha0
 clear hn hx hm hd hg hW ha0 hvx c0  
 go_enter func250,ntmps250
 go_wp2_with fail
 go_ret
 rw[za HX]
 exact⟨rfl,za HA⟩
theorem aoz {R:Wr} {f D:Nat} (hW:WB R f D) {w:World} (hg:SG w) {b d:Nat} {t:Tree} (hn:Nd w b t) (hx:Wx t) (hm:t.many≤f+1) (hd:d+1≤D) (hk:t.kind=23) :
  Calls prog 250 #[.agg #[.int .i64 d],.pointer (some ⟨b,0,none⟩)] w fun e w'=>e=.returned (.string (aag R d t))∧Add w w':=by
 obtain⟨ksx,hvx⟩:=hn.view
 have c0:=hvx.c0
 rw[hk] at c0
 have ha0:=qE w d
 have q0:=qD w d
 have c0':=ha0.cellk c0
 have HX:=zb (show aag R d t=⟨#[116,104,105,115]⟩ by unfold aag;rw[hk,if_neg (by decide),if_neg (by decide),if_neg (by decide),if_neg (by decide),if_neg (by decide),if_pos rfl])
 have HA:=zb ha0
 clear hn hx hm hd hg hW ha0 hvx c0  
 go_enter func250,ntmps250
 go_wp2_with fail
 go_ret
 rw[za HX]
 exact⟨rfl,za HA⟩
theorem anq {R:Wr} {f D:Nat} (hW:WB R f D) {w:World} (hg:SG w) {b d:Nat} {t:Tree} (hn:Nd w b t) (hx:Wx t) (hm:t.many≤f+1) (hd:d+1≤D) (hk:t.kind=29) :
  Calls prog 250 #[.agg #[.int .i64 d],.pointer (some ⟨b,0,none⟩)] w fun e w'=>e=.returned (.string (aag R d t))∧Add w w':=by
 obtain⟨ksx,hvx⟩:=hn.view
 have c0:=hvx.c0
 rw[hk] at c0
 have ha0:=qE w d
 have q0:=qD w d
 have c0':=ha0.cellk c0
 have HX:=zb (show aag R d t=⟨#[105,110,112,117,116,40,41]⟩ by unfold aag;rw[hk,if_neg (by decide),if_neg (by decide),if_neg (by decide),if_neg (by decide),if_neg (by decide),if_neg (by decide),if_neg (by decide),if_neg (by decide),if_neg (by decide),if_neg (by decide),if_pos rfl])
 have HA:=zb ha0
 clear hn hx hm hd hg hW ha0 hvx c0  
 go_enter func250,ntmps250
 go_wp2_with fail
 go_ret
 rw[za HX]
 exact⟨rfl,za HA⟩
theorem ao0 {R:Wr} {f D:Nat} (hW:WB R f D) {w:World} (hg:SG w) {b d:Nat} {t:Tree} (hn:Nd w b t) (hx:Wx t) (hm:t.many≤f+1) (hd:d+1≤D) (hk:t.kind=24) :
  Calls prog 250 #[.agg #[.int .i64 d],.pointer (some ⟨b,0,none⟩)] w fun e w'=>e=.returned (.string (aag R d t))∧Add w w':=by
 obtain⟨ksx,hvx⟩:=hn.view
 have c0:=hvx.c0
 rw[hk] at c0
 have c1:=hvx.c1
 have ht:=(abf hx.here.1).1
 have ha0:=qE w d
 have q0:=qD w d
 have c0':=ha0.cellk c0
 have c1':=ha0.cellk c1
 have HX:=zb (show aag R d t=t.text by unfold aag;rw[hk,if_neg (by decide),if_neg (by decide),if_neg (by decide),if_neg (by decide),if_neg (by decide),if_neg (by decide),if_neg (by decide),if_neg (by decide),if_neg (by decide),if_neg (by decide),if_neg (by decide),if_neg (by decide)])
 have HA:=zb ha0
 clear hn hx hm hd hg hW ha0 hvx c0  c1
 go_enter func250,ntmps250
 go_wp2_with fail
 go_ret
 rw[za HX]
 exact⟨rfl,za HA⟩
theorem aqt {R:Wr} {f D:Nat} (hW:WB R f D) {w:World} (hg:SG w) {b d:Nat} {t:Tree} (hn:Nd w b t) (hx:Wx t) (hm:t.many≤f+1) (hd:d+1≤D) (hk:t.kind=19) :
  Calls prog 250 #[.agg #[.int .i64 d],.pointer (some ⟨b,0,none⟩)] w fun e w'=>e=.returned (.string (aag R d t))∧Add w w':=by
 obtain⟨ksx,hvx⟩:=hn.view
 have c0:=hvx.c0
 rw[hk] at c0
 have c1:=hvx.c1
 have ht:=(abf hx.here.1).1
 have hts:t.text.size≤300:=ht
 have HC0:=zb fun (w1:World) (_:Add w w1)=>aw3 t.text hts w1
 have ha0:=qE w d
 have q0:=qD w d
 have c0':=ha0.cellk c0
 have c1':=ha0.cellk c1
 have HX:=zb (show aag R d t=ah2 t.text by unfold aag;rw[hk,if_neg (by decide),if_pos rfl])
 have HA:=zb ha0
 clear hn hx hm hd hg hW ha0 hvx c0  c1
 generalize ah2 t.text=X0 at *
 go_enter func250,ntmps250
 go_wp2_with fail
 refine(za HC0 _ (za HA)).mono ?_
 rintro e wc0 ⟨rfl,hac0⟩
 have HAC0:=zb ((za HA).tr hac0)
 clear hac0
 go_wp2_with fail
 go_ret
 rw[za HX]
 exact⟨rfl,za HAC0⟩
theorem aqu {R:Wr} {f D:Nat} (hW:WB R f D) {w:World} (hg:SG w) {b d:Nat} {t:Tree} (hn:Nd w b t) (hx:Wx t) (hm:t.many≤f+1) (hd:d+1≤D) (hk:t.kind=18) :
  Calls prog 250 #[.agg #[.int .i64 d],.pointer (some ⟨b,0,none⟩)] w fun e w'=>e=.returned (.string (aag R d t))∧Add w w':=by
 obtain⟨ksx,hvx⟩:=hn.view
 have c0:=hvx.c0
 rw[hk] at c0
 have c3:=hvx.c3
 have hwr:IntKind.u64.wrap t.n=((t.n % 18446744073709551616).toNat:Int):=by
  rw[IntKind.wrap_u64]
  have:=Int.emod_nonneg t.n (show (18446744073709551616:Int)≠0 by decide)
  omega
 have hlt:(t.n % 18446744073709551616).toNat<18446744073709551616:=by
  have:=Int.emod_lt_of_pos t.n (show (0:Int)<18446744073709551616 by decide)
  have:=Int.emod_nonneg t.n (show (18446744073709551616:Int)≠0 by decide)
  omega
 have HC0:=zb fun (w1:World) (ha:Add w w1)=>show Calls prog 139 #[.int .u64 (IntKind.u64.wrap t.n),.int .i64 10] w1 fun e w'=>e=.returned (.string (aj3 t.n))∧Add w1 w' by rw[hwr];exact ano _ hlt w1 (hg.add ha).2
 have ha0:=qE w d
 have q0:=qD w d
 have c0':=ha0.cellk c0
 have c3':=ha0.cellk c3
 have HX:=zb (show aag R d t=aj3 t.n by unfold aag;rw[hk,if_pos rfl])
 have HA:=zb ha0
 clear hn hx hm hd hg hW ha0 hvx c0 hwr hlt c3
 generalize aj3 t.n=X0 at *
 go_enter func250,ntmps250
 go_wp2_with fail
 refine(za HC0 _ (za HA)).mono ?_
 rintro e wc0 ⟨rfl,hac0⟩
 have HAC0:=zb ((za HA).tr hac0)
 clear hac0
 go_wp2_with fail
 go_ret
 rw[za HX]
 exact⟨rfl,za HAC0⟩
theorem aqv {R:Wr} {f D:Nat} (hW:WB R f D) {w:World} (hg:SG w) {b d:Nat} {t:Tree} (hn:Nd w b t) (hx:Wx t) (hm:t.many≤f+1) (hd:d+1≤D) (hk:t.kind=25) :
  Calls prog 250 #[.agg #[.int .i64 d],.pointer (some ⟨b,0,none⟩)] w fun e w'=>e=.returned (.string (aag R d t))∧Add w w':=by
 obtain⟨ksx,hvx⟩:=hn.view
 have c0:=hvx.c0
 rw[hk] at c0
 obtain⟨hl8,hvl⟩:=(show t.kids.length≤8∧∀k∈t.kids,vK k by have:=hx.here.2;rw[hk] at this;exact this)
 obtain⟨v,c5,rv⟩:=hn.kids
 have hll:∀k∈t.kids,k∈t.kids∧vK k:=fun k hk'=>⟨hk',hvl k hk'⟩
 have hml:=ac5 hW.f hm
 have c1:=hvx.c1
 have ht:=(abf hx.here.1).1
 have HC0:=zb fun (w1:World) (ha:Add w w1)=>afz hW (hg.add ha) (d:=d) (rv.add ha) (agi hx hm hll) hml (Nat.le_of_succ_le hd)
 have hz0:=ajl hW hx hm hd hll hml
 have ha0:=qE w d
 have q0:=qD w d
 have c0':=ha0.cellk c0
 have c1':=ha0.cellk c1
 have c5':=ha0.cellk c5
 have HX:=zb (show aag R d t=((⟨#[110,101,119,32]⟩++t.text)++ab2 R d t.kids) by unfold aag;rw[hk,if_neg (by decide),if_neg (by decide),if_neg (by decide),if_neg (by decide),if_neg (by decide),if_neg (by decide),if_pos rfl])
 have HA:=zb ha0
 clear hn hx hm hd hg hW ha0 hvx c0 rv hll hml hvl hl8 c1 c5
 generalize ab2 R d t.kids=X0 at *
 go_enter func250,ntmps250
 go_wp2_with fail
 generalize w.alloc (.cells #[.int .i64 d] 89)=wb at *
 have ent0:∀w:World,Sem.run prog (callFunc 248 #[.agg #[.int .i64 d],v]) w=.ok (.enter 248 #[.agg #[.int .i64 d],v]) w:=fun _=>by kernel_rfl
 refine wp_region_held_drew (S:=fun w'=>w'.cell? ⟨w.heap.size,0,none⟩=some (.int .i64 d)∧w'.cell? ⟨b,1,none⟩=some (.string t.text)∧w'.cell? ⟨b,5,none⟩=some (v)∧Hid (Add w w')) (by kernel_rfl) ⟨q0,c1',c5',(za HA).drew⟩ (fun hHeld=>?_)
 refine tka 0 34 rfl ?_
 refine tka 1 35 rfl ?_
 refine tka 2 36 rfl ?_
 refine tka 3 37 rfl ?_
 refine tkb 4 38 rfl ?_
 refine tka 5 39 rfl ?_
 refine tka 6 40 rfl ?_
 refine tka 7 41 rfl ?_
 refine tka 8 42 rfl ?_
 refine tka 9 43 rfl ?_
 simp only[sA,sB,sC]
 refine wpAnyH_ready (rs:=[10]) (by kernel_rfl) (by simp) ?_
 refine AllReadyH.cons (o:={ dst:=some 44,op:=_,type:=_,pos:=_,after:=_,guard:=_ }) rfl (fun K hK=>?_) AllReadyH.nil
 refine zm (by kernel_rfl) (by simp[Act.eval,ent0,go_sem]) ((za HC0 _ (za hHeld.2.2.2)).mono ?_)
 rintro e wc0 ⟨rfl,hac0⟩
 refine hK.out _ _ ⟨hac0.cellk hHeld.1,hac0.cellk hHeld.2.1,hac0.cellk hHeld.2.2.1,(za hHeld.2.2.2).tr hac0⟩ (fun hHeld10=>?_)
 clear hK K
 simp only[Act.put,sA,sB,sC]
 refine tkb 11 45 rfl ?_
 refine tka 12 4 rfl ?_
 simp only[sA,sB,sC]
 refine wpAnyH_done (by kernel_rfl) ?_ _
 go_wp2_with fail
 go_ret
 rw[za HX]
 exact⟨rfl,(za hHeld10.2.2.2)⟩
theorem anr {R:Wr} {f D:Nat} (hW:WB R f D) {w:World} (hg:SG w) {b d:Nat} {t:Tree} (hn:Nd w b t) (hx:Wx t) (hm:t.many≤f+1) (hd:d+1≤D) (hk:t.kind=26) :
  Calls prog 250 #[.agg #[.int .i64 d],.pointer (some ⟨b,0,none⟩)] w fun e w'=>e=.returned (.string (aag R d t))∧Add w w':=by
 obtain⟨ksx,hvx⟩:=hn.view
 have c0:=hvx.c0
 rw[hk] at c0
 obtain⟨hl8,hvl⟩:=(show t.kids.length≤8∧∀k∈t.kids,vK k by have:=hx.here.2;rw[hk] at this;exact this)
 obtain⟨v,c5,rv⟩:=hn.kids
 have hll:∀k∈t.kids,k∈t.kids∧vK k:=fun k hk'=>⟨hk',hvl k hk'⟩
 have hml:=ac5 hW.f hm
 have c1:=hvx.c1
 have ht:=(abf hx.here.1).1
 have HC0:=zb fun (w1:World) (ha:Add w w1)=>afz hW (hg.add ha) (d:=d) (rv.add ha) (agi hx hm hll) hml (Nat.le_of_succ_le hd)
 have hz0:=ajl hW hx hm hd hll hml
 have ha0:=qE w d
 have q0:=qD w d
 have c0':=ha0.cellk c0
 have c1':=ha0.cellk c1
 have c5':=ha0.cellk c5
 have HX:=zb (show aag R d t=((⟨#[115,117,112,101,114,46]⟩++t.text)++ab2 R d t.kids) by unfold aag;rw[hk,if_neg (by decide),if_neg (by decide),if_neg (by decide),if_neg (by decide),if_neg (by decide),if_neg (by decide),if_neg (by decide),if_pos rfl])
 have HA:=zb ha0
 clear hn hx hm hd hg hW ha0 hvx c0 rv hll hml hvl hl8 c1 c5
 generalize ab2 R d t.kids=X0 at *
 go_enter func250,ntmps250
 go_wp2_with fail
 generalize w.alloc (.cells #[.int .i64 d] 89)=wb at *
 have ent0:∀w:World,Sem.run prog (callFunc 248 #[.agg #[.int .i64 d],v]) w=.ok (.enter 248 #[.agg #[.int .i64 d],v]) w:=fun _=>by kernel_rfl
 refine wp_region_held_drew (S:=fun w'=>w'.cell? ⟨w.heap.size,0,none⟩=some (.int .i64 d)∧w'.cell? ⟨b,1,none⟩=some (.string t.text)∧w'.cell? ⟨b,5,none⟩=some (v)∧Hid (Add w w')) (by kernel_rfl) ⟨q0,c1',c5',(za HA).drew⟩ (fun hHeld=>?_)
 refine tka 0 48 rfl ?_
 refine tka 1 49 rfl ?_
 refine tka 2 50 rfl ?_
 refine tka 3 51 rfl ?_
 refine tkb 4 52 rfl ?_
 refine tka 5 53 rfl ?_
 refine tka 6 54 rfl ?_
 refine tka 7 55 rfl ?_
 refine tka 8 56 rfl ?_
 refine tka 9 57 rfl ?_
 simp only[sA,sB,sC]
 refine wpAnyH_ready (rs:=[10]) (by kernel_rfl) (by simp) ?_
 refine AllReadyH.cons (o:={ dst:=some 58,op:=_,type:=_,pos:=_,after:=_,guard:=_ }) rfl (fun K hK=>?_) AllReadyH.nil
 refine zm (by kernel_rfl) (by simp[Act.eval,ent0,go_sem]) ((za HC0 _ (za hHeld.2.2.2)).mono ?_)
 rintro e wc0 ⟨rfl,hac0⟩
 refine hK.out _ _ ⟨hac0.cellk hHeld.1,hac0.cellk hHeld.2.1,hac0.cellk hHeld.2.2.1,(za hHeld.2.2.2).tr hac0⟩ (fun hHeld10=>?_)
 clear hK K
 simp only[Act.put,sA,sB,sC]
 refine tkb 11 59 rfl ?_
 refine tka 12 4 rfl ?_
 simp only[sA,sB,sC]
 refine wpAnyH_done (by kernel_rfl) ?_ _
 go_wp2_with fail
 go_ret
 rw[za HX]
 exact⟨rfl,(za hHeld10.2.2.2)⟩
theorem ao1 {R:Wr} {f D:Nat} (hW:WB R f D) {w:World} (hg:SG w) {b d:Nat} {t:Tree} (hn:Nd w b t) (hx:Wx t) (hm:t.many≤f+1) (hd:d+1≤D) (hk:t.kind=27) :
  Calls prog 250 #[.agg #[.int .i64 d],.pointer (some ⟨b,0,none⟩)] w fun e w'=>e=.returned (.string (aag R d t))∧Add w w':=by
 obtain⟨ksx,hvx⟩:=hn.view
 have c0:=hvx.c0
 rw[hk] at c0
 obtain⟨hl8,hvl⟩:=(show t.kids.length≤8∧∀k∈t.kids,vK k by have:=hx.here.2;rw[hk] at this;exact this)
 obtain⟨v,c5,rv⟩:=hn.kids
 have hll:∀k∈t.kids,k∈t.kids∧vK k:=fun k hk'=>⟨hk',hvl k hk'⟩
 have hml:=ac5 hW.f hm
 have HC0:=zb fun (w1:World) (ha:Add w w1)=>aj4 hW (hg.add ha) (d:=d) (rv.add ha) (agi hx hm hll) hml (Nat.le_of_succ_le hd)
 have hz0:=sz_vals hW hx hm hd hll hml
 have ha0:=qE w d
 have q0:=qD w d
 have c0':=ha0.cellk c0
 have c5':=ha0.cellk c5
 have HX:=zb (show aag R d t=((⟨#[91]⟩++abo R d t.kids)++⟨#[93]⟩) by unfold aag;rw[hk,if_neg (by decide),if_neg (by decide),if_neg (by decide),if_neg (by decide),if_neg (by decide),if_neg (by decide),if_neg (by decide),if_neg (by decide),if_pos rfl])
 have HA:=zb ha0
 clear hn hx hm hd hg hW ha0 hvx c0 rv hll hml hvl hl8 c5
 generalize abo R d t.kids=X0 at *
 go_enter func250,ntmps250
 go_wp2_with fail
 generalize w.alloc (.cells #[.int .i64 d] 89)=wb at *
 have ent0:∀w:World,Sem.run prog (callFunc 192 #[.agg #[.int .i64 d],v]) w=.ok (.enter 192 #[.agg #[.int .i64 d],v]) w:=fun _=>by kernel_rfl
 refine wp_region_held_drew (S:=fun w'=>w'.cell? ⟨w.heap.size,0,none⟩=some (.int .i64 d)∧w'.cell? ⟨b,5,none⟩=some (v)∧Hid (Add w w')) (by kernel_rfl) ⟨q0,c5',(za HA).drew⟩ (fun hHeld=>?_)
 refine tka 0 62 rfl ?_
 refine tka 1 63 rfl ?_
 refine tka 2 64 rfl ?_
 refine tka 3 65 rfl ?_
 refine tka 4 66 rfl ?_
 simp only[sA,sB,sC]
 refine wpAnyH_ready (rs:=[5]) (by kernel_rfl) (by simp) ?_
 refine AllReadyH.cons (o:={ dst:=some 67,op:=_,type:=_,pos:=_,after:=_,guard:=_ }) rfl (fun K hK=>?_) AllReadyH.nil
 refine zm (by kernel_rfl) (by simp[Act.eval,ent0,go_sem]) ((za HC0 _ (za hHeld.2.2)).mono ?_)
 rintro e wc0 ⟨rfl,hac0⟩
 refine hK.out _ _ ⟨hac0.cellk hHeld.1,hac0.cellk hHeld.2.1,(za hHeld.2.2).tr hac0⟩ (fun hHeld5=>?_)
 clear hK K
 simp only[Act.put,sA,sB,sC]
 refine tkb 6 68 rfl ?_
 refine tkb 7 69 rfl ?_
 refine tka 8 4 rfl ?_
 simp only[sA,sB,sC]
 refine wpAnyH_done (by kernel_rfl) ?_ _
 go_wp2_with fail
 go_ret
 rw[za HX]
 exact⟨rfl,(za hHeld5.2.2)⟩
theorem asv {R:Wr} {f D:Nat} (hW:WB R f D) {d:Nat} {t:Tree} (hx:Wx t) (hm:t.many≤f+1) (hd:d+1≤D) (hc:ahq 2 t.kids):(afo R d t).size≤100000000:=by
 have:=ale hW.len hx hm hd hW.D hc
 have:=hW.f
 omega
theorem amj {R:Wr} {f D:Nat} (hW:WB R f D) {w:World} (hg:SG w) {b d:Nat} {t:Tree} (hn:Nd w b t) (hx:Wx t) (hm:t.many≤f+1) (hd:d+1≤D) (hk:t.kind=28) :
  Calls prog 250 #[.agg #[.int .i64 d],.pointer (some ⟨b,0,none⟩)] w fun e w'=>e=.returned (.string (aag R d t))∧Add w w':=by
 obtain⟨ksx,hvx⟩:=hn.view
 have c0:=hvx.c0
 rw[hk] at c0
 have hc:ahq 2 t.kids:=by have:=hx.here.2;rw[hk] at this;exact this
 have HC0:=zb fun (w1:World) (ha:Add w w1)=>aje hW (hg.add ha) (d:=d) (hn.add ha) hx hm hd hc
 have hz0:=asv hW hx hm hd hc
 have ha0:=qE w d
 have q0:=qD w d
 have c0':=ha0.cellk c0
 have HX:=zb (show aag R d t=(⟨#[102,110]⟩++afo R d t) by unfold aag;rw[hk,if_neg (by decide),if_neg (by decide),if_neg (by decide),if_neg (by decide),if_neg (by decide),if_neg (by decide),if_neg (by decide),if_neg (by decide),if_neg (by decide),if_pos rfl])
 have HA:=zb ha0
 clear hn hx hm hd hg hW ha0 hvx c0 hc 
 generalize afo R d t=X0 at *
 go_enter func250,ntmps250
 go_wp2_with fail
 refine(za HC0 _ (za HA)).mono ?_
 rintro e wc0 ⟨rfl,hac0⟩
 have HAC0:=zb ((za HA).tr hac0)
 clear hac0
 go_wp2_with fail
 go_ret
 rw[za HX]
 exact⟨rfl,za HAC0⟩
theorem aqw {R:Wr} {f D:Nat} (hW:WB R f D) {w:World} (hg:SG w) {b d:Nat} {t:Tree} (hn:Nd w b t) (hx:Wx t) (hm:t.many≤f+1) (hd:d+1≤D) (hk:t.kind=30) :
  Calls prog 250 #[.agg #[.int .i64 d],.pointer (some ⟨b,0,none⟩)] w fun e w'=>e=.returned (.string (aag R d t))∧Add w w':=by
 obtain⟨ksx,hvx⟩:=hn.view
 have c0:=hvx.c0
 rw[hk] at c0
 obtain⟨c,ek,hv⟩:=(show ∃a,t.kids=[a]∧vK a by have:=hx.here.2;rw[hk] at this;exact this)
 obtain⟨g,cap,k0,hcap,hmx,c5,g0,n0,hrest⟩:=hn.one ek
 have c5:w.cell? ⟨b,5,none⟩=some (.slice (some ⟨g,0,none⟩) 1 cap):=c5
 have oc:=adc hx hm (k:=c) (by rw[ek];simp) hv
 have HC0:=zb fun (w1:World) (ha:Add w w1)=>ae4 hW (hg.add ha) (d:=d) (n0.add ha) oc.1 oc.2.1 oc.2.2 (Nat.le_of_succ_le hd)
 have hz0:=ads hW hx hm hd (k:=c) (by rw[ek];simp) hv 1
 have ha0:=qE w d
 have q0:=qD w d
 have c0':=ha0.cellk c0
 have c5':=ha0.cellk c5
 have g0':=ha0.cellk g0
 have HX:=zb (show aag R d t=((⟨#[108,101,110,40]⟩++zu R d 1 c)++⟨#[41]⟩) by unfold aag;rw[hk,if_neg (by decide),if_neg (by decide),if_neg (by decide),if_neg (by decide),if_neg (by decide),if_neg (by decide),if_neg (by decide),if_neg (by decide),if_neg (by decide),if_neg (by decide),if_neg (by decide),if_pos rfl,aa3 ek])
 have HA:=zb ha0
 clear hn hx hm hd hg hW ha0 hvx c0 n0 hrest oc c5 g0
 generalize zu R d 1 c=X0 at *
 go_enter func250,ntmps250
 go_wp2_with fail
 generalize w.alloc (.cells #[.int .i64 d] 89)=wb at *
 have ent0:∀w:World,Sem.run prog (callFunc 131 #[.agg #[.int .i64 d],.pointer (some ⟨k0,0,none⟩)]) w=.ok (.enter 131 #[.agg #[.int .i64 d],.pointer (some ⟨k0,0,none⟩)]) w:=fun _=>by kernel_rfl
 refine wp_region_held_drew (S:=fun w'=>w'.cell? ⟨w.heap.size,0,none⟩=some (.int .i64 d)∧w'.cell? ⟨b,5,none⟩=some (.slice (some ⟨g,0,none⟩) 1 cap)∧w'.cell? ⟨g,0,none⟩=some (.pointer (some ⟨k0,0,none⟩))∧Hid (Add w w')) (by kernel_rfl) ⟨q0,c5',g0',(za HA).drew⟩ (fun hHeld=>?_)
 refine tka 0 80 rfl ?_
 refine tka 1 81 rfl ?_
 refine tka 2 82 rfl ?_
 refine tka 3 83 rfl ?_
 refine tka 4 84 rfl ?_
 refine tka 5 85 rfl ?_
 refine tka 6 86 rfl ?_
 simp only[sA,sB,sC]
 refine wpAnyH_ready (rs:=[7]) (by kernel_rfl) (by simp) ?_
 refine AllReadyH.cons (o:={ dst:=some 87,op:=_,type:=_,pos:=_,after:=_,guard:=_ }) rfl (fun K hK=>?_) AllReadyH.nil
 refine zm (by kernel_rfl) (by simp[Act.eval,ent0,go_sem]) ((za HC0 _ (za hHeld.2.2.2)).mono ?_)
 rintro e wc0 ⟨rfl,hac0⟩
 refine hK.out _ _ ⟨hac0.cellk hHeld.1,hac0.cellk hHeld.2.1,hac0.cellk hHeld.2.2.1,(za hHeld.2.2.2).tr hac0⟩ (fun hHeld7=>?_)
 clear hK K
 simp only[Act.put,sA,sB,sC]
 refine tkb 8 88 rfl ?_
 refine tkb 9 89 rfl ?_
 refine tka 10 4 rfl ?_
 simp only[sA,sB,sC]
 refine wpAnyH_done (by kernel_rfl) ?_ _
 go_wp2_with fail
 go_ret
 rw[za HX]
 exact⟨rfl,(za hHeld7.2.2.2)⟩
theorem azn {R:Wr} {f D:Nat} (hW:WB R f D) {w:World} (hg:SG w) {b d:Nat} {t:Tree} (hn:Nd w b t) (hx:Wx t) (hm:t.many≤f+1) (hd:d+1≤D) (h1:18≤t.kind) (h2:t.kind≤30) :
  Calls prog 250 #[.agg #[.int .i64 d],.pointer (some ⟨b,0,none⟩)] w fun e w'=>e=.returned (.string (aag R d t))∧Add w w':=by
 rcases(by omega:t.kind=18∨t.kind=19∨t.kind=20∨t.kind=21∨t.kind=22∨t.kind=23∨t.kind=24∨t.kind=25∨t.kind=26∨t.kind=27∨t.kind=28∨t.kind=29∨t.kind=30) with h | h | h | h | h | h | h | h | h | h | h | h | h
 ·exact aqu hW hg hn hx hm hd h
 ·exact aqt hW hg hn hx hm hd h
 ·exact aoy hW hg hn hx hm hd h
 ·exact anp hW hg hn hx hm hd h
 ·exact aqs hW hg hn hx hm hd h
 ·exact aoz hW hg hn hx hm hd h
 ·exact ao0 hW hg hn hx hm hd h
 ·exact aqv hW hg hn hx hm hd h
 ·exact anr hW hg hn hx hm hd h
 ·exact ao1 hW hg hn hx hm hd h
 ·exact amj hW hg hn hx hm hd h
 ·exact anq hW hg hn hx hm hd h
 ·exact aqw hW hg hn hx hm hd h
theorem no_sign:∀k,k<31→aac k=((zc,0,0),false):=by
 intro k hk
 rcases(by omega:k=0∨k=1∨k=2∨k=3∨k=4∨k=5∨k=6∨k=7∨k=8∨k=9∨k=10∨k=11∨k=12∨k=13∨k=14∨k=15∨k=16∨k=17∨k=18∨k=19∨k=20∨k=21∨k=22∨k=23∨k=24∨k=25∨k=26∨k=27∨k=28∨k=29∨k=30) with rfl | rfl | rfl | rfl | rfl | rfl | rfl | rfl | rfl | rfl | rfl | rfl | rfl | rfl | rfl | rfl | rfl | rfl | rfl | rfl | rfl | rfl | rfl | rfl | rfl | rfl | rfl | rfl | rfl | rfl | rfl <;> rfl
theorem ao2 {R:Wr} {f D:Nat} (hW:WB R f D) {w:World} (hg:SG w) {b d:Nat} {t:Tree} (hn:Nd w b t) (hx:Wx t) (hm:t.many≤f+1) (hd:d+1≤D) (h1:18≤t.kind) (h2:t.kind≤30) :
  Calls prog 229 #[.agg #[.int .i64 d],.pointer (some ⟨b,0,none⟩)] w fun e w'=>e=.returned (.string (zy R d t))∧Add w w':=by
 obtain⟨ksx,hvx⟩:=hn.view
 have c0:=hvx.c0
 have HC0:=zb fun (w1:World) (ha:Add w w1)=>azn hW (hg.add ha) (d:=d) (hn.add ha) hx hm hd h1 h2
 have m40:((t.kind:Int)==40)=false:=by rw[beq_eq_false_iff_ne];omega
 have n40:¬(t.kind:Int)=40:=by omega
 have m41:((t.kind:Int)==41)=false:=by rw[beq_eq_false_iff_ne];omega
 have n41:¬(t.kind:Int)=41:=by omega
 have m42:((t.kind:Int)==42)=false:=by rw[beq_eq_false_iff_ne];omega
 have n42:¬(t.kind:Int)=42:=by omega
 have m43:((t.kind:Int)==43)=false:=by rw[beq_eq_false_iff_ne];omega
 have n43:¬(t.kind:Int)=43:=by omega
 have m44:((t.kind:Int)==44)=false:=by rw[beq_eq_false_iff_ne];omega
 have n44:¬(t.kind:Int)=44:=by omega
 have m45:((t.kind:Int)==45)=false:=by rw[beq_eq_false_iff_ne];omega
 have n45:¬(t.kind:Int)=45:=by omega
 have ha0:=qE w d
 have q0:=qD w d
 have c0':=ha0.cellk c0
 have hsg:aac t.kind=((zc,0,0),false):=no_sign t.kind (by omega)
 have HX:=zb (show zy R d t=aag R d t by unfold zy;rw[if_neg (by rw[hsg];decide),if_neg (by omega),if_neg (by omega),if_neg (by omega),if_neg (by omega),if_neg (by omega),if_neg (by omega)])
 have HS:=zb fun (w1:World) (ha:Add w w1)=>ael (hg.add ha).1.choose_spec.choose_spec t.kind
 have HA:=zb ha0
 have HG:=zb fun (w1:World) (ha:Add w w1)=>hg.add ha
 rw[hsg] at HS
 clear hsg
 unfold aha at HS
 try unfold zc at HS
 clear hn hx hm hd hg hW ha0 hvx 
 generalize aag R d t=X0 at *
 go_enter func229,ntmps229
 go_wp2_with fail
 refine(za HS _ (za HA)).mono ?_
 rintro e w1 ⟨rfl,ha1⟩
 have ha2:=((za HA).tr ha1).alloc (.cells #[.string ⟨#[]⟩,.int .i64 0,.int .i64 0] 224)
 have hb2:=((Add.refl w1).alloc (.cells #[.string ⟨#[]⟩,.int .i64 0,.int .i64 0] 224))
 have y0:=(ha1.alloc (.cells #[.string ⟨#[]⟩,.int .i64 0,.int .i64 0] 224)).cellk q0
 have c0a:=ha1.cellk c0'
 have c0b:(w1.alloc (.cells #[.string ⟨#[]⟩,.int .i64 0,.int .i64 0] 224)).cell? ⟨b,0,none⟩=some (.int .i64 t.kind):=ha2.cellk c0
 have HA2:=zb ha2
 clear ha1 ha2 hb2 HA HS q0 c0' c0 c0a 
 go_wp2_with fail
 refine(za HC0 _ (za HA2)).mono ?_
 rintro e wc0 ⟨rfl,hac0⟩
 have HAC0:=zb ((za HA2).tr hac0)
 clear hac0
 go_wp2_with fail
 go_ret
 rw[za HX]
 exact⟨rfl,za HAC0⟩
theorem sign_or:∀k,k<46→31≤k→k≤39→(aac k).2=true:=by decide
theorem wr_bare {R:Wr} {f D:Nat} (hW:WB R f D) {w:World} (hg:SG w) {b d:Nat} {t:Tree} (hn:Nd w b t) (hx:Wx t) (hm:t.many≤f+1) (hd:d+1≤D) (hv:vK t) :
  Calls prog 229 #[.agg #[.int .i64 d],.pointer (some ⟨b,0,none⟩)] w fun e w'=>e=.returned (.string (zy R d t))∧Add w w':=by
 obtain⟨h1,h2⟩:=hv
 by_cases h30:t.kind≤30
 ·exact ao2 hW hg hn hx hm hd h1 h30
 by_cases h39:t.kind≤39
 ·exact asu hW hg hn hx hm hd ⟨h1,h2⟩ (sign_or t.kind (by omega) (by omega) h39)
 rcases(by omega:t.kind=40∨t.kind=41∨t.kind=42∨t.kind=43∨t.kind=44∨t.kind=45) with h | h | h | h | h | h
 ·exact auq hW hg hn hx hm hd h
 ·exact aur hW hg hn hx hm hd h
 ·exact aus hW hg hn hx hm hd h
 ·exact ast hW hg hn hx hm hd h
 ·exact ass hW hg hn hx hm hd h
 ·by_cases h42:(kid t 0).kind=42
  ·exact ami hW hg hn hx hm hd h h42
  ·exact akv hW hg hn hx hm hd h h42
end Go.Proofs.YtndgajlidckcdaaGreatDoor
