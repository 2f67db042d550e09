/- A part. -/
import Derived.Test.YtndgajlidckcdaaGreatDoorM21
open Go.Proofs.Tryz
namespace Go.Proofs.YtndgajlidckcdaaGreatDoor
open Go.RowKit
set_option linter.unusedVariables false
set_option linter.unusedSimpArgs false
set_option maxRecDepth 100000
set_option maxHeartbeats 8000000
theorem PB.putF {w:World} {pb:Nat} {ts:List Tok} {bad:Int×Int} {i:Nat} {f:Int×Int} (h:PB w pb ts bad i f) (a b:Int):PB ((w.setCell ⟨pb,2,none⟩ (.int .i64 a)).setCell ⟨pb,3,none⟩ (.int .i64 b)) pb ts bad i (a,b):=by
 obtain⟨⟨g,cap,hb,hg,cs,t,fr,hgc,hat⟩,hfew,hil,ht⟩:=h
 exact⟨⟨g,cap,(hset (hset hb _) _).trans rfl,hg,cs,t,fr,(aaf _ (by omega)).trans ((aaf _ (by omega)).trans hgc),hat⟩,hfew,hil,ht.keep fun k hk=>(aaf _ (by omega)).trans (aaf _ (by omega))⟩
theorem PB.putI {w:World} {pb:Nat} {ts:List Tok} {bad:Int×Int} {i:Nat} {f:Int×Int} (h:PB w pb ts bad i f) (j:Nat) (hj:j≤ts.length):PB (w.setCell ⟨pb,1,none⟩ (.int .i64 (j:Int))) pb ts bad j f:=by
 obtain⟨⟨g,cap,hb,hg,cs,t,fr,hgc,hat⟩,hfew,hil,ht⟩:=h
 exact⟨⟨g,cap,(hset hb _).trans rfl,hg,cs,t,fr,(aaf _ (by omega)).trans hgc,hat⟩,hfew,hj,ht.keep fun k hk=>aaf _ (by omega)⟩
theorem PB.add {w w':World} {pb:Nat} {ts:List Tok} {bad:Int×Int} {i:Nat} {f:Int×Int} (h:PB w pb ts bad i f) (ha:Add w w'):PB w' pb ts bad i f:=h.keep fun k hk=>ha.block k (Nat.lt_of_le_of_lt hk h.lt)
theorem PB.drewN {w:World} {pb:Nat} {ts:List Tok} {bad:Int×Int} {i:Nat} {f:Int×Int} (h:PB w pb ts bad i f) (n:Nat):PB (w.drewN n) pb ts bad i f:=h.keep fun k hk=>rfl
theorem PB.putNew {w:World} {pb:Nat} {ts:List Tok} {bad:Int×Int} {i:Nat} {f:Int×Int} (h:PB w pb ts bad i f) {b:Nat} (hb:pb<b) (j:Nat) (v:Value):PB (w.setCell ⟨b,j,none⟩ v) pb ts bad i f:=h.keep fun k hk=>aaf v (by omega)
theorem PB.cells {w:World} {pb:Nat} {ts:List Tok} {bad:Int×Int} {i:Nat} {f:Int×Int} (h:PB w pb ts bad i f):(∃g cap,w.cell? ⟨pb,0,none⟩=some (.slice (some ⟨g,0,none⟩) ts.length cap))∧w.cell? ⟨pb,1,none⟩=some (.int .i64 (i:Int))∧w.cell? ⟨pb,2,none⟩=some (.int .i64 f.1)∧w.cell? ⟨pb,3,none⟩=some (.int .i64 f.2)∧w.cell? ⟨pb,4,none⟩=some (.int .i64 bad.1)∧w.cell? ⟨pb,5,none⟩=some (.int .i64 bad.2)∧∀j,w.frozen? ⟨pb,j,none⟩=false:=by
 obtain⟨⟨g,cap,hb,hg,cs,t,fr,hgc,hat⟩,hfew,hil⟩:=h
 exact⟨⟨g,cap,zd hb 0⟩,zd hb 1,zd hb 2,zd hb 3,zd hb 4,zd hb 5,zp hb⟩
theorem agb {w:World} {pb:Nat} {s:St} (h:At w pb s) {e0:Int} (h0:e0≠0):Calls prog 65 #[.pointer (some ⟨pb,0,none⟩),.int .i64 e0] w fun e w'=>e=.returned (.tuple #[])∧Ext pb w w'∧At w' pb (anu e0 s):=by
 have H:=zb h
 have H0:=zb h0
 clear h h0
 cases s with
 | inl f =>
  go_enter func65,ntmps65
  go_wp2_with fail
  refine(aat (za H)).mono ?_
  rintro e w1 ⟨rfl,rfl⟩
  dsimp only [okB]
  go_wp2_with fail
  go_end0
  exact⟨rfl,Ext.refl _ _,za H⟩
 | inr S =>
  go_enter func65,ntmps65
  go_wp2_with fail
  refine(aat (za H)).mono ?_
  rintro e w1 ⟨rfl,rfl⟩
  dsimp only [okB]
  go_wp2_with fail
  refine(abg (za H)).mono ?_
  rintro e w2 ⟨x,rfl,ha,hx⟩
  obtain rfl:=hx S rfl
  obtain⟨hok,ts,bad,i,hpb,hts⟩:=(za H).add ha
  obtain⟨⟨g,cap,c0⟩,c1,c2,c3,c4,c5,hfr⟩:=hpb.cells
  have HP:=zb hpb
  have HA:=zb ha
  clear hpb ha hts hok hx
  unfold acx
  have hfld:∀w:World,(Instr.field 75 (.agg #[.int .u8 ((zv S).kind:Int),.string (zv S).text,.int .i64 (zv S).n,.int .i64 ((zv S).at':Int),.int .i64 ((zv S).line:Int)]) 3).run prog w=.ok (.int .i64 ((zv S).at':Int)) w:=fun _=>by kernel_rfl
  go_wp2_with fail
  go_end0
  exact⟨rfl,(((za HA).ext _).setCell _ _).setCell _ _,za H0,ts,bad,i,by rw[←(anv S).1];exact(za HP).putF _ _⟩
theorem ath {S:LS} {e:Int} {p:Nat} (h:abv S=.inl (e,p)):e≠0:=by
 unfold abv at h
 generalize S.fresh _ _=T at h
 unfold abe at h
 split at h
 ·split at h
  ·split at h
   ·cases h
   ·split at h
    ·cases h;decide
    ·cases h
  ·split at h
   ·split at h
    ·split at h
     ·cases h;decide
     ·cases h
    ·cases h;decide
   ·split at h
    ·split at h
     ·cases h;decide
     ·split at h
      ·cases h;decide
      ·cases h
    ·split at h
     ·cases h;decide
     ·cases h
 ·cases h
theorem At.moved {w w':World} {pb:Nat} {S:LS} {ts:List Tok} {bad:Int×Int} {i:Nat} (ok:Ok S) (hk:S.kd≠0) (ht:ts[i]?=some (zv S)) (hf:Follows S (ts.drop (i+1)) bad)
  (hm:i+1<ts.length→PB w' pb ts bad (i+1) (0,-1)) (he:¬i+1<ts.length→PB w' pb ts bad (i+1) bad):At w' pb (zg (zi S)):=by
 by_cases hlt:i+1<ts.length
 ·rw[List.drop_eq_getElem_cons hlt] at hf
  obtain⟨_,S',h1,h2,h3⟩:=hf
  have ht:zi S=.inr ((),S'):=by rw[zi,h1]
  rw[ht]
  exact⟨(ag0 ok.fit h1).1,ts,bad,i+1,hm hlt,by rw[List.getElem?_eq_getElem hlt,h2],h3,ant h1⟩
 ·rw[List.drop_eq_nil_of_le (by omega)] at hf
  rcases hf with ⟨h,_⟩ | ⟨_,e,p,h1,h2⟩
  ·exact absurd h hk
  ·have ht:zi S=.inl (e,p):=by rw[zi,h1]
   rw[ht]
   exact⟨ath h1,ts,bad,i+1,by rw[←h2];exact he hlt⟩
theorem aeo {w:World} {pb:Nat} {S:LS} (h:At w pb (.inr S)) (hk:S.kd≠0):Calls prog 37 #[.pointer (some ⟨pb,0,none⟩)] w fun e w'=>e=.returned (acx (zv S))∧Ext pb w w'∧At w' pb (zg (zi S)):=by
 have hpl:=h.lt
 have h1:=h.add ((Add.refl w).alloc (.cells #[.int .u8 0,.string ⟨#[]⟩,.int .i64 0,.int .i64 0,.int .i64 0] 75))
 have H1:=zb h1
 obtain⟨hok,ts,bad,i,hpb,ht,hf,_⟩:=h1
 have HM:=zb (fun w'=>At.moved (w:=w) (w':=w') (pb:=pb) hok hk ht hf)
 have hil:i<ts.length:=(List.getElem?_eq_some_iff.1 ht).1
 have hfew:=hpb.few
 clear h hk ht hf hok
 have HP:=zb hpb
 clear hpb
 go_enter func37,ntmps37
 go_wp2_with fail
 refine(abg (za H1)).mono ?_
 rintro e w1 ⟨x,rfl,ha,hx⟩
 obtain rfl:=hx S rfl
 have hb0:=(ha.block _ (by simp)).trans (aaq w (.cells #[.int .u8 0,.string ⟨#[]⟩,.int .i64 0,.int .i64 0,.int .i64 0] 75))
 have hsz:w.heap.size<w1.heap.size:=Nat.lt_of_lt_of_le (by simp) ha.size
 have HA:=zb (ha.alloc (.cells #[.int .u8 ((zv S).kind:Int),.string (zv S).text,.int .i64 (zv S).n,.int .i64 ((zv S).at':Int),.int .i64 ((zv S).line:Int)] 75))
 have hpb:=((za HP).add ha).add ((Add.refl w1).alloc (.cells #[.int .u8 ((zv S).kind:Int),.string (zv S).text,.int .i64 (zv S).n,.int .i64 ((zv S).at':Int),.int .i64 ((zv S).line:Int)] 75))
 obtain⟨⟨g,cap,c0⟩,c1,c2,c3,c4,c5,hfr⟩:=hpb.cells
 have HQ:=zb hpb
 have HB0:=zb hb0
 obtain⟨L,hL⟩:∃L,ts.length=L:=⟨_,rfl⟩
 rw[hL] at c0 hil hfew
 clear hpb ha hb0 hx
 unfold acx
 go_wp2_with fail
 have hpb2:=(za HQ).putI (i+1) (by omega)
 rw[show (((i+1:Nat)):Int)=(i:Int)+1 from rfl] at hpb2
 have hX:Ext pb w (((w1.alloc (.cells #[.int .u8 ((zv S).kind:Int),.string (zv S).text,.int .i64 (zv S).n,.int .i64 ((zv S).at':Int),.int .i64 ((zv S).line:Int)] 75)).setCell ⟨pb,1,none⟩ (.int .i64 ((i:Int)+1)))):=(((((Add.refl w).alloc _).trans (za HA)).ext pb)).setCell _ _
 have hb1:(((w1.alloc (.cells #[.int .u8 ((zv S).kind:Int),.string (zv S).text,.int .i64 (zv S).n,.int .i64 ((zv S).at':Int),.int .i64 ((zv S).line:Int)] 75)).setCell ⟨pb,1,none⟩ (.int .i64 ((i:Int)+1)))).heap[w1.heap.size]?=some (.cells #[.int .u8 ((zv S).kind:Int),.string (zv S).text,.int .i64 (zv S).n,.int .i64 ((zv S).at':Int),.int .i64 ((zv S).line:Int)] 75):=(aaf _ (by omega)).trans (aaq _ _)
 have hb2:(((w1.alloc (.cells #[.int .u8 ((zv S).kind:Int),.string (zv S).text,.int .i64 (zv S).n,.int .i64 ((zv S).at':Int),.int .i64 ((zv S).line:Int)] 75)).setCell ⟨pb,1,none⟩ (.int .i64 ((i:Int)+1)))).heap[w.heap.size]?=some (.cells #[.int .u8 0,.string ⟨#[]⟩,.int .i64 0,.int .i64 0,.int .i64 0] 75):=(aaf _ (by omega)).trans ((aam _ _ hsz).trans (za HB0))
 clear c0 c1 c2 c3 c4 c5 hfr HQ HA HB0 HP H1
 generalize ((w1.alloc (.cells #[.int .u8 ((zv S).kind:Int),.string (zv S).text,.int .i64 (zv S).n,.int .i64 ((zv S).at':Int),.int .i64 ((zv S).line:Int)] 75)).setCell ⟨pb,1,none⟩ (.int .i64 ((i:Int)+1)))=V at *
 obtain⟨⟨g,cap,c0⟩,c1,c2,c3,c4,c5,hfr⟩:=hpb2.cells
 have HQ:=zb hpb2
 have d0:=zd hb1 0
 have d1:=zd hb1 1
 have d2:=zd hb1 2
 have d3:=zd hb1 3
 have d4:=zd hb1 4
 have q0:=zd hb2 0
 have q1:=zd hb2 1
 have q2:=zd hb2 2
 have q3:=zd hb2 3
 have q4:=zd hb2 4
 simp only[List.getElem?_toArray,List.getElem?_cons_zero,List.getElem?_cons_succ] at d0 d1 d2 d3 d4 q0 q1 q2 q3 q4
 have gz:=zp hb2
 rw[hL] at c0
 have HB2:=zb hb2
 have HX:=zb hX
 clear hpb2 hb1 hb2 hX
 by_cases hlt:i+1<L
 ·have e1:decide ((L:Int)≤(i:Int)+1)=false:=by simp;omega
  have e2:decide (L≤i+1)=false:=by simp;omega
  go_quiet (fail)
  go_wp2_with fail
  have hfin:=hset (i:=4) (hset (i:=3) (hset (i:=2) (hset (i:=1) (hset (i:=0) (show (V.drewN nq).heap[w.heap.size]?=_ from za HB2) (.int .u8 ((zv S).kind:Int))) (.string (zv S).text)) (.int .i64 (zv S).n)) (.int .i64 ((zv S).at':Int))) (.int .i64 ((zv S).line:Int))
  refine bodyPost_ret (v:=acx (zv S)) (results_cell_row Tryz.results37 _ _ w.heap.size 75 _ (0,0) _ rfl hfin underlying75 rfl (by kernel_rfl)) rfl ?_
  have hbl:w.heap.size≤w.heap.size:=Nat.le_refl _
  refine⟨rfl,?_,(za HM) _ (fun _=>?_) (fun h=>absurd hlt (by omega))⟩
  ·exact(((((((za HX).drewN nq).setNew ⟨w.heap.size,0,none⟩ hbl _).setNew ⟨w.heap.size,1,none⟩ hbl _).setNew ⟨w.heap.size,2,none⟩ hbl _).setNew ⟨w.heap.size,3,none⟩ hbl _).setNew ⟨w.heap.size,4,none⟩ hbl _)
  ·exact(((((((za HQ).drewN nq).putNew hpl 0 _).putNew hpl 1 _).putNew hpl 2 _).putNew hpl 3 _).putNew hpl 4 _)
 ·have e1:decide ((L:Int)≤(i:Int)+1)=true:=by simp;omega
  have e2:decide (L≤i+1)=true:=by simp;omega
  go_quiet ((go_at_call 33;exact Calls.quiet_of_same (as4 ((za HQ).drewN _))))
  go_wp2_with fail
  have hfin:=hset (i:=4) (hset (i:=3) (hset (i:=2) (hset (i:=1) (hset (i:=0) (show (((V.drewN nq).setCell ⟨pb,2,none⟩ (.int .i64 bad.1)).setCell ⟨pb,3,none⟩ (.int .i64 bad.2)).heap[w.heap.size]?=_ from (aaf _ (by omega)).trans ((aaf _ (by omega)).trans (za HB2))) (.int .u8 ((zv S).kind:Int))) (.string (zv S).text)) (.int .i64 (zv S).n)) (.int .i64 ((zv S).at':Int))) (.int .i64 ((zv S).line:Int))
  refine bodyPost_ret (v:=acx (zv S)) (results_cell_row Tryz.results37 _ _ w.heap.size 75 _ (0,0) _ rfl hfin underlying75 rfl (by kernel_rfl)) rfl ?_
  have hbl:w.heap.size≤w.heap.size:=Nat.le_refl _
  refine⟨rfl,?_,(za HM) _ (fun h=>absurd h (by omega)) (fun _=>?_)⟩
  ·exact(((((((((za HX).drewN nq).setCell _ _).setCell _ _).setNew ⟨w.heap.size,0,none⟩ hbl _).setNew ⟨w.heap.size,1,none⟩ hbl _).setNew ⟨w.heap.size,2,none⟩ hbl _).setNew ⟨w.heap.size,3,none⟩ hbl _).setNew ⟨w.heap.size,4,none⟩ hbl _)
  ·exact((((((((za HQ).drewN nq).putF _ _).putNew hpl 0 _).putNew hpl 1 _).putNew hpl 2 _).putNew hpl 3 _).putNew hpl 4 _)
def agq (m:ByteArray) (s:St):St:=if zq s m=true then zg (run zi s) else s
def acj (n:Nat) (s:St):St:=if 25<n then anu 4 s else s
theorem agc {s:St} {m:ByteArray} (h:zq s m=true):∃S,s=.inr S∧S.is m=true:=by
 cases s with
 | inl f=>cases h
 | inr S=>exact⟨S,rfl,h⟩
theorem bc8 {s:St} {m:ByteArray} (h:zq s m=true):agq m s=zg (run (zj m) s):=by
 obtain⟨S,rfl,hi⟩:=agc h
 show (if zq (.inr S) m=true then zg (zi S) else _)=zg (zj m S)
 rw[if_pos h,zj,if_pos hi]
theorem bab {s:St} {m:ByteArray} (h:zq s m=false):anu 3 s=zg (run (zj m) s):=by
 cases s with
 | inl f=>rfl
 | inr S =>
  show _=zg (zj m S)
  rw[zj,if_neg (by rw[show S.is m=false from h];decide)]
  rfl
theorem zk {w:World} {pb:Nat} {s:St} (h:At w pb s) (m:ByteArray):Calls prog 64 #[.pointer (some ⟨pb,0,none⟩),.string m] w fun e w'=>e=.returned (.bool (zq s m))∧Ext pb w w'∧At w' pb (agq m s):=by
 have H:=zb h
 clear h
 cases hb:zq s m
 ·have HE:=zb (show agq m s=s by rw[agq,if_neg (by rw[hb];decide)])
  go_enter func64,ntmps64
  go_wp2_with fail
  refine(abu (za H) m).mono ?_
  rintro e w1 ⟨rfl,ha⟩
  rw[hb]
  go_wp2_with fail
  go_ret
  exact⟨rfl,ha.ext _,by rw[za HE];exact(za H).add ha⟩
 ·have HE:=zb (show agq m s=zg (run zi s) by rw[agq,if_pos hb])
  go_enter func64,ntmps64
  go_wp2_with fail
  refine(abu (za H) m).mono ?_
  rintro e w1 ⟨rfl,ha⟩
  rw[hb]
  go_wp2_with fail
  obtain⟨S,rfl,hi⟩:=agc hb
  refine(aeo ((za H).add ha) (aai hi)).mono ?_
  rintro e w2 ⟨rfl,hx,h2⟩
  have HX:=zb ((ha.ext pb).trans hx)
  have H2:=zb h2
  clear ha hx h2 hi
  go_wp2_with fail
  go_ret
  exact⟨rfl,za HX,by rw[za HE];exact za H2⟩
theorem aa1 {w:World} {pb:Nat} {s:St} (h:At w pb s) (m:ByteArray):Calls prog 63 #[.pointer (some ⟨pb,0,none⟩),.string m] w fun e w'=>e=.returned (.tuple #[])∧Ext pb w w'∧At w' pb (zg (run (zj m) s)):=by
 have H:=zb h
 clear h
 cases hb:zq s m
 ·have HE:=zb (show agq m s=s by rw[agq,if_neg (by rw[hb];decide)])
  have HW:=zb (bab hb)
  go_enter func63,ntmps63
  go_wp2_with fail
  refine(zk (za H) m).mono ?_
  rintro e w1 ⟨rfl,hx,h1⟩
  rw[za HE] at h1
  rw[hb]
  have H1:=zb h1
  have HX:=zb hx
  clear h1 hx
  go_wp2_with fail
  refine(agb (za H1) (by decide)).mono ?_
  rintro e w2 ⟨rfl,hx2,h2⟩
  rw[za HW] at h2
  have H2:=zb h2
  have HX2:=zb ((za HX).trans hx2)
  clear h2 hx2
  go_wp2_with fail
  go_end0
  exact⟨rfl,za HX2,za H2⟩
 ·have HW:=zb (bc8 hb)
  go_enter func63,ntmps63
  go_wp2_with fail
  refine(zk (za H) m).mono ?_
  rintro e w1 ⟨rfl,hx,h1⟩
  rw[za HW] at h1
  rw[hb]
  have H1:=zb h1
  have HX:=zb hx
  clear h1 hx
  go_wp2_with fail
  go_end0
  exact⟨rfl,za HX,za H1⟩
theorem aep {w:World} {pb:Nat} {s:St} (h:At w pb s):Calls prog 38 #[.pointer (some ⟨pb,0,none⟩)] w fun e w'=>∃tx,e=.returned (.string tx)∧Ext pb w w'∧At w' pb (zg (run z6 s))∧∀a S,run z6 s=.inr (a,S)→tx=a:=by
 have H:=zb h
 clear h
 cases s with
 | inl f =>
  go_enter func38,ntmps38
  go_wp2_with fail
  refine(aat (za H)).mono ?_
  rintro e w1 ⟨rfl,rfl⟩
  dsimp only [okB]
  go_wp2_with fail
  refine(agb (za H) (by decide)).mono ?_
  rintro e w2 ⟨rfl,hx,h2⟩
  have HX:=zb hx
  have H2:=zb h2
  clear hx h2
  go_wp2_with fail
  go_ret
  exact⟨_,rfl,za HX,za H2,fun a S e=>by cases e⟩
 | inr S =>
  by_cases hk:S.kd=2
  ·have ht:=bcq hk
   have HN:=zb (show z6 S=bnd (zi S) fun _ S'=>.inr (S.tx,S') by rw[z6,if_pos hk])
   have HK:=zb (show S.kd≠0 by omega)
   clear hk
   go_enter func38,ntmps38
   go_wp2_with fail
   refine(aat (za H)).mono ?_
   rintro e w1 ⟨rfl,rfl⟩
   dsimp only [okB]
   go_wp2_with fail
   refine(abg (za H)).mono ?_
   rintro e w2 ⟨x,rfl,ha,hx⟩
   obtain rfl:=(hx S rfl).trans ht
   unfold acx
   dsimp only
   have hfld:∀w:World,(Instr.field 75 (.agg #[.int .u8 110,.string S.tx,.int .i64 0,.int .i64 (S.tp:Int),.int .i64 (S.tl:Int)]) 0).run prog w=.ok (.int .u8 110) w:=fun _=>by kernel_rfl
   have H1:=zb ((za H).add ha)
   have HA:=zb ha
   clear ha hx
   go_wp2_with fail
   refine(aeo (za H1) (za HK)).mono ?_
   rintro e w3 ⟨rfl,hx,h3⟩
   rw[ht]
   unfold acx
   dsimp only
   have hfld2:∀w:World,(Instr.field 75 (.agg #[.int .u8 110,.string S.tx,.int .i64 0,.int .i64 (S.tp:Int),.int .i64 (S.tl:Int)]) 1).run prog w=.ok (.string S.tx) w:=fun _=>by kernel_rfl
   have HX:=zb (((za HA).ext pb).trans hx)
   have H3:=zb h3
   clear hx h3 hfld
   go_wp2_with fail
   go_ret
   refine⟨_,rfl,za HX,?_,?_⟩
   ·show At _ pb (zg (z6 S))
    rw[za HN]
    have:=za H3
    cases hq:zi S with
    | inl f=>rw[hq] at this;exact this
    | inr y=>rw[hq] at this;exact this
   ·intro a T hq
    rw[show run z6 (.inr S)=z6 S from rfl,za HN] at hq
    obtain⟨_,_,_,hq⟩:=ze hq
    cases hq
    rfl
  ·have hn:=axa hk
   have HN:=zb (show z6 S=.inl (3,S.tp) by rw[z6,if_neg hk])
   clear hk
   go_enter func38,ntmps38
   go_wp2_with fail
   refine(aat (za H)).mono ?_
   rintro e w1 ⟨rfl,rfl⟩
   dsimp only [okB]
   go_wp2_with fail
   refine(abg (za H)).mono ?_
   rintro e w2 ⟨x,rfl,ha,hx⟩
   obtain rfl:=hx S rfl
   have b0:(((zv S).kind:Int)==110)=false:=by simp;omega
   unfold acx
   dsimp only
   have hfld:∀w:World,(Instr.field 75 (.agg #[.int .u8 ((zv S).kind:Int),.string (zv S).text,.int .i64 (zv S).n,.int .i64 ((zv S).at':Int),.int .i64 ((zv S).line:Int)]) 0).run prog w=.ok (.int .u8 ((zv S).kind:Int)) w:=fun _=>by kernel_rfl
   have H1:=zb ((za H).add ha)
   have HA:=zb ha
   clear ha hx hn
   go_wp2_with fail
   refine(agb (za H1) (by decide)).mono ?_
   rintro e w3 ⟨rfl,hx,h3⟩
   have HX:=zb (((za HA).ext pb).trans hx)
   have H3:=zb h3
   clear hx h3 hfld
   go_wp2_with fail
   go_ret
   refine⟨_,rfl,za HX,?_,?_⟩
   ·show At _ pb (zg (z6 S))
    rw[za HN]
    exact za H3
   ·intro a T hq
    rw[show run z6 (.inr S)=z6 S from rfl,za HN] at hq
    cases hq
def bc9 (s:St) (k:Nat) (w:World) (e:Ending) (w':World):Prop :=
 ∃b ln,e=.returned (.pointer (some ⟨b,0,none⟩))∧w.heap.size≤b∧w'.heap.size=b+1∧w'.heap[b]?=some (.cells (adg k zc zc 0 ln (.slice none 0 0)) 78 (0,0))∧Add w w'∧∀S,s=.inr S→ln=S.tl
theorem aav {w:World} {pb:Nat} {s:St} (h:At w pb s) (k:Nat):Calls prog 32 #[.pointer (some ⟨pb,0,none⟩),.int .i64 (k:Int),.slice none 0 0] w fun e w'=>bc9 s k w e w':=by
 have H:=zb h
 clear h
 go_enter func32,ntmps32
 go_wp2_with fail
 refine(abg (za H)).mono ?_
 rintro e w1 ⟨x,rfl,ha,hx⟩
 have HX:=zb hx
 have HA:=zb ha
 clear ha hx
 unfold acx
 have hfld:∀w:World,(Instr.field 75 (.agg #[.int .u8 (x.kind:Int),.string x.text,.int .i64 x.n,.int .i64 (x.at':Int),.int .i64 (x.line:Int)]) 4).run prog w=.ok (.int .i64 (x.line:Int)) w:=fun _=>by kernel_rfl
 go_wp2_with fail
 go_ret
 exact⟨w1.heap.size,x.line,rfl,(za HA).size,by simp,aaq _ _,(za HA).alloc _,fun S e=>by rw[za HX S e];exact(anv S).2⟩
theorem ad1 {w:World} {pb:Nat} {s:St} (h:At w pb s) (n:Nat):Calls prog 69 #[.pointer (some ⟨pb,0,none⟩),.int .i64 (n:Int)] w fun e w'=>e=.returned (.bool (okB (acj n s)))∧Ext pb w w'∧At w' pb (acj n s):=by
 have H:=zb h
 clear h
 cases s with
 | inl f =>
  have HD:=zb (show acj n (.inl f)=.inl f by unfold acj;split <;> rfl)
  go_enter func69,ntmps69
  go_wp2_with fail
  refine(aat (za H)).mono ?_
  rintro e w1 ⟨rfl,rfl⟩
  dsimp only [okB]
  go_wp2_with fail
  refine(aat (za H)).mono ?_
  rintro e w1 ⟨rfl,rfl⟩
  go_wp2_with fail
  go_ret
  rw[za HD]
  exact⟨rfl,Ext.refl _ _,za H⟩
 | inr S =>
  by_cases hn:25<n
  ·have b0:decide ((25:Int)<(n:Int))=true:=by simp;omega
   have b1:decide (25<n)=true:=by simp;omega
   have HD:=zb (show acj n (.inr S)=.inl (4,S.tp) by rw[acj,if_pos hn];rfl)
   clear hn
   go_enter func69,ntmps69
   go_wp2_with fail
   refine(aat (za H)).mono ?_
   rintro e w1 ⟨rfl,rfl⟩
   dsimp only [okB]
   go_wp2_with fail
   refine(agb (za H) (by decide)).mono ?_
   rintro e w2 ⟨rfl,hx,h2⟩
   have HX:=zb hx
   have H2:=zb h2
   clear hx h2
   go_wp2_with fail
   refine(aat (za H2)).mono ?_
   rintro e w3 ⟨rfl,rfl⟩
   go_wp2_with fail
   go_ret
   rw[za HD]
   exact⟨rfl,za HX,za H2⟩
  ·have b0:decide ((25:Int)<(n:Int))=false:=by simp;omega
   have b1:decide (25<n)=false:=by simp;omega
   have HD:=zb (show acj n (.inr S)=.inr S by rw[acj,if_neg hn])
   clear hn
   go_enter func69,ntmps69
   go_wp2_with fail
   refine(aat (za H)).mono ?_
   rintro e w1 ⟨rfl,rfl⟩
   dsimp only [okB]
   go_wp2_with fail
   refine(aat (za H)).mono ?_
   rintro e w1 ⟨rfl,rfl⟩
   go_wp2_with fail
   go_ret
   rw[za HD]
   exact⟨rfl,Ext.refl _ _,za H⟩
theorem At.drew {w:World} {pb:Nat} {s:St} (h:At w pb s):At w.drew pb s:=h.keep fun _ _=>rfl
theorem ac3 {x:Int} (h0:0≤x) (h1:x≤4000):IntKind.i64.wrap x=x:=by
 rw[IntKind.wrap_i64];omega
def Dp (n:Nat) (s:St):Prop:=∀S,s=.inr S→S.dp=n
theorem At.ok {w:World} {pb:Nat} {s:St} (h:At w pb s) {S:LS} (e:s=.inr S):Ok S:=by
 subst e
 exact h.1
theorem agd {α:Type} {P:LS→Res α} {s:St} {x:α×LS} (h:run P s=.inr x):∃S,s=.inr S∧P S=.inr x:=by
 cases s with
 | inl f=>cases h
 | inr S=>exact⟨S,rfl,h⟩
theorem agy {α:Type} {t:Res α} {S:LS} (h:zg t=.inr S):∃a,t=.inr (a,S):=by
 cases t with
 | inl f=>cases h
 | inr x=>cases h;exact⟨x.1,rfl⟩
theorem Dp.run {α:Type} {P:LS→Res α} {w:World} {pb n:Nat} {s:St} (hP:Good0 P) (h:At w pb s) (hd:Dp n s):Dp n (zg (run P s)):=fun S e=>by
 obtain⟨a,ha⟩:=agy e
 obtain⟨T,rfl,hT⟩:=agd ha
 exact(hP _ _ _ (h.ok rfl) hT).same.dp.trans (hd T rfl)
theorem bac (m:ByteArray):Good (zj m):=fun S a S' ok h=>aau ok h
theorem bae:Good z6:=fun S a S' ok h=>acn ok h
theorem Dp.want {w:World} {pb n:Nat} {s:St} (m:ByteArray) (h:At w pb s) (hd:Dp n s):Dp n (zg (Go.Proofs.YtndgajlidckcdaaGreatDoor.run (zj m) s)):=Dp.run (bac m).weak h hd
theorem Dp.name {w:World} {pb n:Nat} {s:St} (h:At w pb s) (hd:Dp n s):Dp n (zg (Go.Proofs.YtndgajlidckcdaaGreatDoor.run z6 s)):=Dp.run bae.weak h hd
theorem Dp.eat {w:World} {pb n:Nat} {s:St} (m:ByteArray) (h:At w pb s) (hd:Dp n s):Dp n (agq m s):=by
 unfold agq
 split
 ·rename_i hs
  obtain⟨S,rfl,hi⟩:=agc hs
  intro T e
  obtain⟨a,ha⟩:=agy e
  exact(aan (h.ok rfl) (aai hi) ha).same.dp.trans (hd S rfl)
 ·exact hd
def RN (t:Res Tree) (pb:Nat) (w:World) (e:Ending) (w':World):Prop :=
 ∃b,e=.returned (.pointer (some ⟨b,0,none⟩))∧Ext pb w w'∧At w' pb (zg t)∧∀a S,t=.inr (a,S)→aaa w.heap.size a (.pointer (some ⟨b,0,none⟩)) w'
structure RLow (n:Nat) (L:Low):Prop where
 good:LowGood L
 v:∀w pb s,At w pb s→Dp n s→Calls prog 70 #[.pointer (some ⟨pb,0,none⟩),.int .i64 ((n:Int)+1)] w fun e w'=>RN (run L.V s) pb w e w'
 s:∀w pb s,At w pb s→Dp n s→Calls prog 40 #[.pointer (some ⟨pb,0,none⟩),.int .i64 ((n:Int)+1)] w fun e w'=>RN (run L.S s) pb w e w'
 n:∃P:LS→Res Tree,Good P∧L.N=abi P∧∀w pb s,At w pb s→Dp (n+1) s→n<25→Calls prog 167 #[.pointer (some ⟨pb,0,none⟩),.int .i64 ((n:Int)+1)] w fun e w'=>RN (run P s) pb w e w'
theorem aeq {lo:Nat} {w0 w w2 w3:World} {pb b k:Nat} {q:Res Tree} {s2:St} {tx un:ByteArray} {n:Int} {ln:Nat} {ts:List Tree} {ks:Value} {vs:List Value} (hlo0:lo=w0.heap.size) (hu:Und (fun j=>lo≤j) w b k tx un n ln ts ks vs) (hu2:Und (fun j=>lo≤j) w2 b k tx un n ln ts ks vs)
  (hr:pb<lo) (h2:At w2 pb s2) (hx0:Ext pb w0 w2) {x:Value} (hv:∀a S,q=.inr (a,S)→aaa w.heap.size a x w2) (o:Obj) {g cap:Nat}
  (hown:w3.ownsRow 0 22 1 (.slice (some ⟨g,0,none⟩) (vs.length+1) cap) (vs.length+1) (vs++[x]))
  (hg:(w2.alloc o).grownBy w3 ks.ownBlock) (hat:ks.ownBlock=some g∨g=w2.heap.size+1) :
  w3.cell? ⟨b,5,none⟩=some ks∧w3.frozen? ⟨b,5,none⟩=false ∧
  Hid (∀t S,q=.inr (t,S)→Und (fun j=>lo≤j) (w3.setCell ⟨b,5,none⟩ (.slice (some ⟨g,0,none⟩) (vs.length+1) cap)) b k tx un n ln (ts++[t]) (.slice (some ⟨g,0,none⟩) (vs.length+1) cap) (vs++[x])) ∧
  Hid (Ext pb w0 (w3.setCell ⟨b,5,none⟩ (.slice (some ⟨g,0,none⟩) (vs.length+1) cap)))∧Hid (At (w3.setCell ⟨b,5,none⟩ (.slice (some ⟨g,0,none⟩) (vs.length+1) cap)) pb s2):=by
 obtain⟨t0,hb⟩:=hu.cells
 obtain⟨t2,hb2⟩:=hu2.cells
 have hbw:=(gtE hb).1
 have hb2w:=(gtE hb2).1
 have hblo:lo≤b:=hu.at'
 have hkw:∀j,ks.ownBlock=some j→j<w.heap.size∧lo≤j∧j≠b:=by
  intro j hj
  rcases hu.row with ⟨rfl,_⟩ | ⟨g',cap',cur,rfl,hg',h3,_⟩
  ·simp[Value.ownBlock] at hj
  ·simp only[Value.ownBlock,Option.some.injEq] at hj
   subst hj
   exact⟨(gtE h3).1,hg'.1,hg'.2⟩
 have hbk:some b≠ks.ownBlock:=fun e=>(hkw b e.symm).2.2 rfl
 have hsz:lo≤w2.heap.size:=by rw[hlo0];exact hx0.size
 have hb3:w3.heap[b]?=some (.cells (adg k tx un n ln ks) t2 (0,0)):=by
  rw[hg.block b (by simp;omega) hbk,aam _ _ hb2w]
  exact hb2
 have hxa:Ext pb w0 (w2.alloc o):=hx0.alloc o
 have hx3:Ext pb w0 w3:=ae3 hxa hg fun j hj=>by have:=(hkw j hj).2.1;omega
 have hx3':Ext pb w0 (w3.setCell ⟨b,5,none⟩ (.slice (some ⟨g,0,none⟩) (vs.length+1) cap)):=hx3.setNew ⟨b,5,none⟩ (by show w0.heap.size≤b;omega) _
 have hat3:At (w3.setCell ⟨b,5,none⟩ (.slice (some ⟨g,0,none⟩) (vs.length+1) cap)) pb s2:=h2.keep fun j hj=>by
  rw[aaf _ (by omega),hg.block j (by simp;omega) (fun e=>by have:=(hkw j e.symm).2.1;omega),aam _ _ (by omega)]
 refine⟨zd hb3 5,zp hb3 5,?_,hx3',hat3⟩
 intro t S e
 have hua:Und (fun j=>lo≤j) (w2.alloc o) b k tx un n ln ts ks vs:=hu2.ext (r:=pb) ((Ext.refl pb w2).alloc o) fun j hj=>by omega
 have hva:NodeAt (fun j=>lo≤j∧j≠b∧some j≠ks.ownBlock) (w2.alloc o) x t:=by
  refine NodeAt.keep (fun j hj=>⟨by omega,by omega,fun e=>?_⟩) (fun j hj hl=>aam _ _ hl) t x (hv t S e)
  have:=(hkw j e.symm).1
  omega
 exact Und.more hua hva hown hg (by simpa using hat) (by simp;omega)
theorem ap6 (pb:Nat) (n:Int):∀w:World,Sem.run prog (callFunc 40 #[.pointer (some ⟨pb,0,none⟩),.int .i64 n]) w=.ok (.enter 40 #[.pointer (some ⟨pb,0,none⟩),.int .i64 n]) w:=fun _=>by kernel_rfl
theorem aib (pb:Nat) (n:Int):∀w:World,Sem.run prog (callFunc 70 #[.pointer (some ⟨pb,0,none⟩),.int .i64 n]) w=.ok (.enter 70 #[.pointer (some ⟨pb,0,none⟩),.int .i64 n]) w:=fun _=>by kernel_rfl
section
attribute [local go_sem ↓] Go.wp_at_zero Go.wp_at_succ
def ati (ln:Nat) (r:Res (List Tree)):Res Tree:=bnd r fun ks S2=>.inr (⟨7,zc,zc,0,ln,ks⟩,S2)
def atj (L:Low) (n:Nat) (q:Res Tree) (pb:Nat) (w:World) (nb ln gg:Nat) (wr:World):Prop :=
 Ext pb w wr∧((∃f,q=.inl f∧At wr pb (.inl f))∨∃(S':LS) (acc:List Tree) (ks:Value) (vs:List Value),At wr pb (.inr S')∧S'.dp=n∧Und (fun j=>w.heap.size≤j) wr nb 7 zc zc 0 ln acc ks vs∧3002≤gg+S'.tp∧acc.length≤S'.tp∧ati ln (abz aa2 L.S gg acc S')=q)
theorem baf {L:Low} {n:Nat} {s:St} {pb:Nat} {w wr:World} {nb ln:Nat} (hl:∀S,s=.inr S→ln=S.tl) (h0:At w pb s) (hd:Dp n s) (hx:Ext pb w wr) (h:At wr pb (zg (run (zj ad3) s))) (hu:Und (fun j=>w.heap.size≤j) wr nb 7 zc zc 0 ln [] (.slice none 0 0) []):atj L n (run (aaj L) s) pb w nb ln 3002 wr:=by
 refine⟨hx,?_⟩
 cases s with
 | inl f=>exact Or.inl ⟨f,rfl,h⟩
 | inr S =>
  obtain rfl:=hl S rfl
  have h':At wr pb (zg (zj ad3 S)):=h
  cases hw:zj ad3 S with
  | inl f =>
   rw[hw] at h'
   exact Or.inl ⟨f,zl hw,h'⟩
  | inr x =>
   rw[hw] at h'
   have on:=aau (h0.ok rfl) (show zj ad3 S=.inr (x.1,x.2) from hw)
   exact Or.inr ⟨x.2,[],_,_,h',on.same.dp.trans (hd S rfl),hu,by omega,by simp,(show run (aaj L) (.inr S)=_ from zn (show zj ad3 S=.inr (x.1,x.2) from hw)).symm⟩
theorem agn {w:World} {pb n:Nat} {s:St} (h:At w pb s) (hd:Dp n s) (hn:n≤25) {L:Low} (hL:RLow n L):Calls prog 68 #[.pointer (some ⟨pb,0,none⟩),.int .i64 (n:Int)] w fun e w'=>RN (run (aaj L) s) pb w e w':=by
 obtain⟨i0,hi,hz0,hz1,hz2⟩:=info_parts zz
 obtain⟨q,hq0⟩:∃q,run (aaj L) s=q:=⟨_,rfl⟩
 rw[hq0]
 have HQ0:=zb hq0
 clear hq0
 have hpl:=h.lt
 have hent:=ap6 pb ((n:Int)+1)
 have hwr:IntKind.i64.wrap ((n:Int)+1)=(n:Int)+1:=ac3 (by omega) (by omega)
 have HL:=zb hL
 have H:=zb h
 have HD:=zb hd
 clear hL h hd
 go_enter func68,ntmps68
 go_wp2_with fail
 refine(aav (za H) 7).mono ?_
 rintro e w1 ⟨nb,ln,rfl,hnb,hsz,hb,ha,hln⟩
 have h1:=(za H).add ha
 have HX1:=zb (ha.ext pb)
 have HLN:=zb hln
 have hu:Und (fun j=>w.heap.size≤j) w1 nb 7 zc zc 0 ln [] (.slice none 0 0) []:=⟨hnb,⟨_,hb⟩,Or.inl ⟨rfl,rfl⟩,rfl,fun i h=>absurd h (Nat.not_lt_zero i)⟩
 have HU1:=zb hu
 have H1:=zb h1
 clear ha hb hln hu h1 hsz
 go_wp2_with fail
 refine(aa1 (za H1) ad3).mono ?_
 rintro e w2 ⟨rfl,hx,h2⟩
 have HI:Hid (atj L n q pb w nb ln 3002 w2):=za HQ0 ▸ (baf (L:=L) (za HLN) (za H) (za HD) ((za HX1).trans hx) h2 ((za HU1).ext hx fun j hj=>by omega))
 clear HU1 HX1 hx h2 HLN H1
 go_wp2_with fail
 go_loopg [] 3002 (fun gg wr=>atj L n q pb w nb ln gg wr)
 case atStart=>exact za HI
 case round =>
  clear HI
  obtain⟨hx0,⟨f,hq,hA⟩ | ⟨S',acc,ks,vs,hA,hdp,hu,hgg,hacc,hE⟩⟩:=hrel
  ·have HX0:=zb hx0
   have HA:=zb hA
   have HQ:=zb hq
   clear hx0 hA hq
   go_wp2_with fail
   refine(aat (za HA)).mono ?_
   rintro e w3 ⟨rfl,rfl⟩
   dsimp only [okB]
   go_wp2_with fail
   refine(aa1 (za HA) aa2).mono ?_
   rintro e w4 ⟨rfl,hx,h4⟩
   have HX4:=zb ((za HX0).trans hx)
   have H4:=zb h4
   clear hx h4
   go_wp2_with fail
   go_ret
   refine⟨_,rfl,za HX4,?_,fun a S e=>by rw[za HQ] at e;cases e⟩
   rw[za HQ]
   exact za H4
  ·have hok:=hA.ok rfl
   have htp:S'.tp≤3000:=Nat.le_trans hok.tp (Nat.le_trans hok.fit.pl hok.fit.size)
   obtain⟨f,hgf⟩:∃f,gk=f+1:=⟨gk-1,by omega⟩
   subst hgf
   have HE:=zb hE
   have HX0:=zb hx0
   have HA:=zb hA
   have HU:=zb hu
   have HOK:=zb hok
   clear hE hx0 hA hu hok
   cases hb:S'.is aa2
   ·have HE1:Hid (ati ln (bnd (L.S S') fun t S2=>abz aa2 L.S f (acc++[t]) S2)=q):=by
     have:=za HE
     rw[abz,aab,if_neg (by rw[hb];decide)] at this
     exact this
    clear HE
    go_wp2_with fail
    refine(aat (za HA)).mono ?_
    rintro e w3 ⟨rfl,rfl⟩
    dsimp only [okB]
    go_wp2_with fail
    refine(abu (za HA) aa2).mono ?_
    rintro e w4 ⟨rfl,ha⟩
    rw[show zq (.inr S') aa2=false from hb]
    have HU4:=zb ((za HU).ext (ha.ext pb) fun j hj=>by omega)
    have HX4:=zb ((za HX0).trans (ha.ext pb))
    have HA4:=zb ((za HA).add ha)
    have hvs:vs.length≤3000:=by rw[(za HU4).len];omega
    obtain⟨t0,hb4⟩:=(za HU4).cells
    have d5:w4.cell? ⟨nb,5,none⟩=some ks:=zd hb4 5
    have g5:=zp hb4 5
    clear ha hb4 HU HX0 HA
    have HU:=HU4
    have HX0:=HX4
    have HA:=HA4
    have HD4:Hid (Dp n (.inr S')):=fun S e=>by cases e;exact hdp
    clear HU4 HX4 HA4
    go_wp2_with fail
    go_region_law ((first | (refine step_append_lies _ (by rfl) _ _ _ (by rfl) 0 22 i0 (.pointer none) 1 8 underlying51 hi hz0 hz1 hz2 rfl (by decide) ks vs.length vs (by rfl) ((za HO2).alloc _) ⟨w2.heap.size,0,none⟩ 1 1 [.pointer (some ⟨kb,0,none⟩)] (by rfl) rfl (cell_one_new _ _ _) (fun u hu=>by simp at hu;subst hu;rfl) (by decide) (by unfold maxLen;omega) (by omega) (Nat.zero_le _) (w2.heap.size+1) (by simp) ?_;intro g cap w3 hown hgrow hat hlt;obtain⟨e6,f6,HU3,HX3,HA3⟩:=aeq (q:=L.S S') rfl (za HU).drew (za HU2) hpl (za HA2) (za HX2) (za HV2) _ hown hgrow hat;clear hown hgrow hat hlt) | (refine aba rfl (by simp[Act.eval,hent,go_sem]) (((za HL).s _ pb (.inr S') (za HA).drew (za HD4)).mono ?_);rintro e w2 ⟨kb,rfl,hx,h2,hv⟩;obtain⟨e5,e5a,HO2,HU2⟩:=abl (za HU).drew hx (by omega);have HV2:=zb hv;have HA2:=zb h2;have HX2:=zb (((za HX0).drew).trans hx);clear hv h2 hx)))
    all_goals
     clear d5 g5 HU HX0 HA e5 e5a e6 f6
     go_wp2_with fail
     go_roundg f
     case measure=>omega
     case rel =>
      refine⟨za HX3,?_⟩
      have hA3:=za HA3
      have hE1:=za HE1
      cases hr:L.S S' with
      | inl fl =>
       rw[show run L.S (.inr S')=.inl fl from hr] at hA3
       rw[hr] at hE1
       exact Or.inl ⟨fl,hE1.symm,hA3⟩
      | inr y =>
       rw[show run L.S (.inr S')=.inr y from hr] at hA3
       rw[hr] at hE1
       have on:=(za HL).good.s _ _ _ (za HOK) (show L.S S'=.inr (y.1,y.2) from hr)
       have htp4:=on.tp
       exact Or.inr ⟨y.2,acc++[y.1],_,_,hA3,on.same.dp.trans hdp,(za HU3) y.1 y.2 hr,by omega,by simp;omega,hE1⟩
   ·have HE1:Hid (ati ln (bnd (zi S') fun _ S1=>.inr (acc,S1))=q):=by
     have:=za HE
     rw[abz,aab,if_pos hb] at this
     rw[←this]
     cases zi S' <;> rfl
    clear HE
    go_wp2_with fail
    refine(aat (za HA)).mono ?_
    rintro e w3 ⟨rfl,rfl⟩
    dsimp only [okB]
    go_wp2_with fail
    refine(abu (za HA) aa2).mono ?_
    rintro e w4 ⟨rfl,ha⟩
    rw[show zq (.inr S') aa2=true from hb]
    have HU4:=zb ((za HU).ext (ha.ext pb) fun j hj=>by omega)
    have HX4:=zb ((za HX0).trans (ha.ext pb))
    have HA4:=zb ((za HA).add ha)
    clear ha HU HX0 HA
    go_wp2_with fail
    refine(aa1 (za HA4) aa2).mono ?_
    rintro e w5 ⟨rfl,hx,h5⟩
    have HX5:=zb ((za HX4).trans hx)
    have HU5:=zb ((za HU4).ext hx fun j hj=>by omega)
    have H5:Hid (At w5 pb (zg (zi S'))):=by
     have h5':At w5 pb (zg (zj aa2 S')):=h5
     rw[zj,if_pos hb] at h5'
     exact h5'
    clear hx h5 HX4 HU4
    go_wp2_with fail
    go_ret
    refine⟨_,rfl,za HX5,?_,?_⟩
    ·have:=za H5
     rw[←za HE1]
     cases hq:zi S' with
     | inl f=>rw[hq] at this;exact this
     | inr y=>rw[hq] at this;exact this
    ·intro a S e
     rw[←za HE1] at e
     obtain⟨ks',S2,e1,e2⟩:=ze e
     obtain⟨_,S3,e3,e4⟩:=ze e1
     cases e4
     cases e2
     exact(za HU5).node
end
end Go.Proofs.YtndgajlidckcdaaGreatDoor
