/- A part. -/
import Derived.Test.YtndgajlidckcdaaGreatDoorM06
open Go.Proofs.Tryz
namespace Go.Proofs.YtndgajlidckcdaaGreatDoor
open Go.RowKit
set_option linter.unusedVariables false
set_option linter.unusedSimpArgs false
set_option maxRecDepth 100000
set_option maxHeartbeats 8000000
section
attribute [local go_sem ↓] Go.wp_at_zero Go.wp_at_succ
theorem ak7 (r:Nat):∀w:World,Sem.run prog (callFunc 222 #[.pointer (some ⟨r,0,none⟩)]) w=.ok (.enter 222 #[.pointer (some ⟨r,0,none⟩)]) w:=fun _=>by kernel_rfl
theorem ayu (r:Nat):∀w:World,Sem.run prog (callFunc 243 #[.pointer (some ⟨r,0,none⟩)]) w=.ok (.enter 243 #[.pointer (some ⟨r,0,none⟩)]) w:=fun _=>by kernel_rfl
theorem aue {w:World} {r D:Nat} {S:LS} (cx:Cx w r S) (hD:S.dp=D) {L:Low} (hL:LowC r D L) (k:Nat) (hk:S.kd≠0) :
  Calls prog 219 #[.pointer (some ⟨r,0,none⟩),.int .i64 k] w fun e w'=>Ret (abx L k S) r (aaa w.heap.size) e w'∧Ext r w w':=by
 obtain⟨i0,hi,hz0,hz1,hz2⟩:=info_parts zz
 have hr0:=cx.jc.lt
 have HL:=zb hL
 clear hL
 have HX0:Hid (Ext r w w):=Ext.refl r w
 have hd0:=hD
 have HC0:=zb cx
 clear cx
 go_enter func219,ntmps219
 go_wp2_with fail
 refine Ret.call (act (za HC0) k) ?_ ?_
 ·intro f wz hf hx
  exact⟨rfl,Ret.inl (zl hf),(za HX0).trans hx⟩
 intro a1 S1 v w1 hf hv cx1 hx
 obtain⟨rfl,hu⟩:=hv
 have HU1:=zb hu
 have hon1:=aan (za HC0).ok hk hf
 have hd1:S1.dp=D:=hon1.same.dp.trans hd0
 have HP1:=zb (show (abx L k S)=_ from zn hf)
 have HX1:=zb ((za HX0).trans hx)
 have HC1:=zb cx1
 clear hf hx cx1 HC0 HX0 hd0 hu
 obtain⟨ks1,vs1,HU⟩:∃ks vs,Hid (Und (fun j=>w.heap.size≤j) w1 w.heap.size k zc zc 0 S.tl ([]) ks vs):=⟨_,_,za HU1⟩
 have hvs1:vs1.length≤3000:=by rw[(za HU).len];exact(by simp:([]).length≤3000)
 obtain⟨t0,hb⟩:=(za HU).cells
 have d5:w1.cell? ⟨w.heap.size,5,none⟩=some ks1:=zd hb 5
 have g5:=zp hb 5
 have hent:=ak7 r
 clear hb HU1
 go_wp2_with fail
 go_cut [] (fun wc=>∃(t:Tree) (S4:LS) (ks':Value) (vs':List Value),Hid (aa7 L S1=.inr (t,S4))∧Cx wc r S4∧Hid (Und (fun j=>w.heap.size≤j) wc w.heap.size k zc zc 0 S.tl ([]++[t]) ks' vs')∧Hid (Ext r w wc))
 case first =>
  go_region_law ((first | (refine step_append_lies _ (by rfl) _ _ _ (by rfl) 0 22 i0 (.pointer none) 1 8 underlying51 hi hz0 hz1 hz2 rfl (by decide) ks1 vs1.length vs1 (by rfl) ((za HO2).alloc _) ⟨w2.heap.size,0,none⟩ 1 1 [.pointer (some ⟨kb,0,none⟩)] (by rfl) rfl (cell_one_new _ _ _) (fun u hu=>by simp at hu;subst hu;rfl) (by decide) (by unfold maxLen;omega) (by omega) (Nat.zero_le _) (w2.heap.size+1) (by simp) ?_;intro g cap w3 hown hgrow hat hlt;obtain⟨e6,f6,HU3,HX3,HC3⟩:=acq rfl (za HU).drew (za HU2) hr0 (za HC2) (za HX2) (za HV2) _ hown hgrow hat;clear hown hgrow hat hlt) | (refine aba rfl (by simp[Act.eval,hent,go_sem]) (Ret.call (ag3 (za HC1).drew hd1 (za HL)) (fun f w2 hf hx=>⟨rfl,Ret.inl ((za HP1).trans (zl hf)),((za HX1).drew).trans hx⟩) ?_);intro t S1 v w2 hf hv cx1 hx;obtain⟨kb,rfl⟩:=z7 hv;obtain⟨e5,e5a,HO2,HU2⟩:=abl (za HU).drew hx (by omega);have HV2:=zb hv;have HC2:=zb cx1;have HX2:=zb (((za HX1).drew).trans hx);have HF:=zb hf;clear hv cx1 hx hf)))
  all_goals
   go_wp2_with fail
   go_meet
   exact⟨t,_,_,_,za HF,za HC3,za HU3,za HX3⟩
 case rest =>
  obtain⟨t2,S2,ks2,vs2,HF,cx2,HU2,HX2⟩:=hcut
  have hon2:=aej (za HL).good _ _ _ (za HC1).ok (za HF)
  have hd2:S2.dp=D:=hon2.same.dp.trans hd1
  have HP2:=zb ((za HP1).trans (zn (za HF)))
  have HC2:=zb cx2
  clear d5 g5 hent HU HX1 HC1 HF cx2 hd1 hvs1 HP1
  obtain⟨ks2,vs2,HU⟩:∃ks vs,Hid (Und (fun j=>w.heap.size≤j) wc w.heap.size k zc zc 0 S.tl ([]++[t2]) ks vs):=⟨_,_,za HU2⟩
  have hvs2:vs2.length≤3000:=by rw[(za HU).len];exact(by simp:([]++[t2]).length≤3000)
  obtain⟨t0,hb⟩:=(za HU).cells
  have d5:wc.cell? ⟨w.heap.size,5,none⟩=some ks2:=zd hb 5
  have g5:=zp hb 5
  have hent:=ag2 r
  clear hb HU2
  go_wp2_with fail
  go_cut [] (fun wc=>∃(t:Tree) (S4:LS) (ks':Value) (vs':List Value),Hid (aaj L S2=.inr (t,S4))∧Cx wc r S4∧Hid (Und (fun j=>w.heap.size≤j) wc w.heap.size k zc zc 0 S.tl ([]++[t2]++[t]) ks' vs')∧Hid (Ext r w wc))
  case first =>
   go_region_law ((first | (refine step_append_lies _ (by rfl) _ _ _ (by rfl) 0 22 i0 (.pointer none) 1 8 underlying51 hi hz0 hz1 hz2 rfl (by decide) ks2 vs2.length vs2 (by rfl) ((za HO2).alloc _) ⟨w2.heap.size,0,none⟩ 1 1 [.pointer (some ⟨kb,0,none⟩)] (by rfl) rfl (cell_one_new _ _ _) (fun u hu=>by simp at hu;subst hu;rfl) (by decide) (by unfold maxLen;omega) (by omega) (Nat.zero_le _) (w2.heap.size+1) (by simp) ?_;intro g cap w3 hown hgrow hat hlt;obtain⟨e6,f6,HU3,HX3,HC3⟩:=acq rfl (za HU).drew (za HU2) hr0 (za HC2) (za HX2) (za HV2) _ hown hgrow hat;clear hown hgrow hat hlt) | (refine aba rfl (by simp[Act.eval,hent,go_sem]) (Ret.call (ag1 (za HC2).drew hd2 (za HL)) (fun f w2 hf hx=>⟨rfl,Ret.inl ((za HP2).trans (zl hf)),((za HX2).drew).trans hx⟩) ?_);intro t S1 v w2 hf hv cx1 hx;obtain⟨kb,rfl⟩:=z7 hv;obtain⟨e5,e5a,HO2,HU2⟩:=abl (za HU).drew hx (by omega);have HV2:=zb hv;have HC2:=zb cx1;have HX2:=zb (((za HX2).drew).trans hx);have HF:=zb hf;clear hv cx1 hx hf)))
   all_goals
    go_wp2_with fail
    go_meet
    exact⟨t,_,_,_,za HF,za HC3,za HU3,za HX3⟩
  case rest =>
   obtain⟨t3,S3,ks3,vs3,HF,cx3,HU3,HX3⟩:=hcut
   have hon3:=adj (za HL).good _ _ _ (za HC2).ok (za HF)
   have hd3:S3.dp=D:=hon3.same.dp.trans hd2
   have HP3:=zb ((za HP2).trans (zn (za HF)))
   have HC3:=zb cx3
   clear d5 g5 hent HU HX2 HC2 HF cx3 hd2 hvs2 HP2
   go_wp2_with fail
   go_ret
   exact⟨Ret.inr (za HP3) ((za HU3).node) (za HC3),za HX3⟩
def vGrd (lo ln k:Nat) (t:Tree) (v:Value) (w':World):Prop:=v=.pointer (some ⟨lo,0,none⟩)∧∃c b ks vs,t=nd k ln [c,b]∧Und (fun j=>lo≤j) w' lo k zc zc 0 ln [c,b] ks vs
theorem auf {w:World} {r D:Nat} {S:LS} (cx:Cx w r S) (hD:S.dp=D) {L:Low} (hL:LowC r D L) (k:Nat) (hk:S.kd≠0) :
  Calls prog 219 #[.pointer (some ⟨r,0,none⟩),.int .i64 k] w fun e w'=>Ret (abx L k S) r (vGrd w.heap.size S.tl k) e w'∧Ext r w w':=by
 obtain⟨i0,hi,hz0,hz1,hz2⟩:=info_parts zz
 have hr0:=cx.jc.lt
 have HL:=zb hL
 clear hL
 have HX0:Hid (Ext r w w):=Ext.refl r w
 have hd0:=hD
 have HC0:=zb cx
 clear cx
 go_enter func219,ntmps219
 go_wp2_with fail
 refine Ret.call (act (za HC0) k) ?_ ?_
 ·intro f wz hf hx
  exact⟨rfl,Ret.inl (zl hf),(za HX0).trans hx⟩
 intro a1 S1 v w1 hf hv cx1 hx
 obtain⟨rfl,hu⟩:=hv
 have HU1:=zb hu
 have hon1:=aan (za HC0).ok hk hf
 have hd1:S1.dp=D:=hon1.same.dp.trans hd0
 have HP1:=zb (show (abx L k S)=_ from zn hf)
 have HX1:=zb ((za HX0).trans hx)
 have HC1:=zb cx1
 clear hf hx cx1 HC0 HX0 hd0 hu
 obtain⟨ks1,vs1,HU⟩:∃ks vs,Hid (Und (fun j=>w.heap.size≤j) w1 w.heap.size k zc zc 0 S.tl ([]) ks vs):=⟨_,_,za HU1⟩
 have hvs1:vs1.length≤3000:=by rw[(za HU).len];exact(by simp:([]).length≤3000)
 obtain⟨t0,hb⟩:=(za HU).cells
 have d5:w1.cell? ⟨w.heap.size,5,none⟩=some ks1:=zd hb 5
 have g5:=zp hb 5
 have hent:=ak7 r
 clear hb HU1
 go_wp2_with fail
 go_cut [] (fun wc=>∃(t:Tree) (S4:LS) (ks':Value) (vs':List Value),Hid (aa7 L S1=.inr (t,S4))∧Cx wc r S4∧Hid (Und (fun j=>w.heap.size≤j) wc w.heap.size k zc zc 0 S.tl ([]++[t]) ks' vs')∧Hid (Ext r w wc))
 case first =>
  go_region_law ((first | (refine step_append_lies _ (by rfl) _ _ _ (by rfl) 0 22 i0 (.pointer none) 1 8 underlying51 hi hz0 hz1 hz2 rfl (by decide) ks1 vs1.length vs1 (by rfl) ((za HO2).alloc _) ⟨w2.heap.size,0,none⟩ 1 1 [.pointer (some ⟨kb,0,none⟩)] (by rfl) rfl (cell_one_new _ _ _) (fun u hu=>by simp at hu;subst hu;rfl) (by decide) (by unfold maxLen;omega) (by omega) (Nat.zero_le _) (w2.heap.size+1) (by simp) ?_;intro g cap w3 hown hgrow hat hlt;obtain⟨e6,f6,HU3,HX3,HC3⟩:=acq rfl (za HU).drew (za HU2) hr0 (za HC2) (za HX2) (za HV2) _ hown hgrow hat;clear hown hgrow hat hlt) | (refine aba rfl (by simp[Act.eval,hent,go_sem]) (Ret.call (ag3 (za HC1).drew hd1 (za HL)) (fun f w2 hf hx=>⟨rfl,Ret.inl ((za HP1).trans (zl hf)),((za HX1).drew).trans hx⟩) ?_);intro t S1 v w2 hf hv cx1 hx;obtain⟨kb,rfl⟩:=z7 hv;obtain⟨e5,e5a,HO2,HU2⟩:=abl (za HU).drew hx (by omega);have HV2:=zb hv;have HC2:=zb cx1;have HX2:=zb (((za HX1).drew).trans hx);have HF:=zb hf;clear hv cx1 hx hf)))
  all_goals
   go_wp2_with fail
   go_meet
   exact⟨t,_,_,_,za HF,za HC3,za HU3,za HX3⟩
 case rest =>
  obtain⟨t2,S2,ks2,vs2,HF,cx2,HU2,HX2⟩:=hcut
  have hon2:=aej (za HL).good _ _ _ (za HC1).ok (za HF)
  have hd2:S2.dp=D:=hon2.same.dp.trans hd1
  have HP2:=zb ((za HP1).trans (zn (za HF)))
  have HC2:=zb cx2
  clear d5 g5 hent HU HX1 HC1 HF cx2 hd1 hvs1 HP1
  obtain⟨ks2,vs2,HU⟩:∃ks vs,Hid (Und (fun j=>w.heap.size≤j) wc w.heap.size k zc zc 0 S.tl ([]++[t2]) ks vs):=⟨_,_,za HU2⟩
  have hvs2:vs2.length≤3000:=by rw[(za HU).len];exact(by simp:([]++[t2]).length≤3000)
  obtain⟨t0,hb⟩:=(za HU).cells
  have d5:wc.cell? ⟨w.heap.size,5,none⟩=some ks2:=zd hb 5
  have g5:=zp hb 5
  have hent:=ag2 r
  clear hb HU2
  go_wp2_with fail
  go_cut [] (fun wc=>∃(t:Tree) (S4:LS) (ks':Value) (vs':List Value),Hid (aaj L S2=.inr (t,S4))∧Cx wc r S4∧Hid (Und (fun j=>w.heap.size≤j) wc w.heap.size k zc zc 0 S.tl ([]++[t2]++[t]) ks' vs')∧Hid (Ext r w wc))
  case first =>
   go_region_law ((first | (refine step_append_lies _ (by rfl) _ _ _ (by rfl) 0 22 i0 (.pointer none) 1 8 underlying51 hi hz0 hz1 hz2 rfl (by decide) ks2 vs2.length vs2 (by rfl) ((za HO2).alloc _) ⟨w2.heap.size,0,none⟩ 1 1 [.pointer (some ⟨kb,0,none⟩)] (by rfl) rfl (cell_one_new _ _ _) (fun u hu=>by simp at hu;subst hu;rfl) (by decide) (by unfold maxLen;omega) (by omega) (Nat.zero_le _) (w2.heap.size+1) (by simp) ?_;intro g cap w3 hown hgrow hat hlt;obtain⟨e6,f6,HU3,HX3,HC3⟩:=acq rfl (za HU).drew (za HU2) hr0 (za HC2) (za HX2) (za HV2) _ hown hgrow hat;clear hown hgrow hat hlt) | (refine aba rfl (by simp[Act.eval,hent,go_sem]) (Ret.call (ag1 (za HC2).drew hd2 (za HL)) (fun f w2 hf hx=>⟨rfl,Ret.inl ((za HP2).trans (zl hf)),((za HX2).drew).trans hx⟩) ?_);intro t S1 v w2 hf hv cx1 hx;obtain⟨kb,rfl⟩:=z7 hv;obtain⟨e5,e5a,HO2,HU2⟩:=abl (za HU).drew hx (by omega);have HV2:=zb hv;have HC2:=zb cx1;have HX2:=zb (((za HX2).drew).trans hx);have HF:=zb hf;clear hv cx1 hx hf)))
   all_goals
    go_wp2_with fail
    go_meet
    exact⟨t,_,_,_,za HF,za HC3,za HU3,za HX3⟩
  case rest =>
   obtain⟨t3,S3,ks3,vs3,HF,cx3,HU3,HX3⟩:=hcut
   have hon3:=adj (za HL).good _ _ _ (za HC2).ok (za HF)
   have hd3:S3.dp=D:=hon3.same.dp.trans hd2
   have HP3:=zb ((za HP2).trans (zn (za HF)))
   have HC3:=zb cx3
   clear d5 g5 hent HU HX2 HC2 HF cx3 hd2 hvs2 HP2
   go_wp2_with fail
   go_ret
   exact⟨Ret.inr (za HP3) (⟨rfl,t2,t3,_,_,rfl,za HU3⟩) (za HC3),za HX3⟩
theorem ayv {w:World} {r D:Nat} {S:LS} (cx:Cx w r S) (hD:S.dp=D) {L:Low} (hL:LowC r D L) :
  Calls prog 243 #[.pointer (some ⟨r,0,none⟩)] w fun e w'=>Ret (ae7 L S) r (aaa w.heap.size) e w'∧Ext r w w':=by
 obtain⟨i0,hi,hz0,hz1,hz2⟩:=info_parts zz
 have hr0:=cx.jc.lt
 have HL:=zb hL
 clear hL
 have HX0:Hid (Ext r w w):=Ext.refl r w
 have hd0:=hD
 have HC0:=zb cx
 clear cx
 go_enter func243,ntmps243
 go_wp2_with fail
 refine(aei (za HC0) 15).mono ?_
 rintro e w1 ⟨v,rfl,⟨rfl,hu⟩,cx1,hx⟩
 have HU1:=zb hu
 have HX1:=zb ((za HX0).trans hx)
 have HC1:=zb cx1
 have hd1:=hd0
 clear hu hx cx1 HC0 HX0
 go_wp2_with fail
 refine Ret.call (acv (za HC1) aez) ?_ ?_
 ·intro f wz hf hx
  exact⟨rfl,Ret.inl (zl hf),(za HX1).trans hx⟩
 intro a2 S2 v w2 hf hv cx2 hx
 obtain rfl:v=.tuple #[]:=hv
 have hon2:=aau (za HC1).ok hf
 have hd2:S2.dp=D:=hon2.same.dp.trans hd1
 have HP2:=zb (show (ae7 L S)=_ from zn hf)
 have HU2:=zb ((za HU1).ext hx fun j hj=>by omega)
 have HX2:=zb ((za HX1).trans hx)
 have HC2:=zb cx2
 clear hf hx cx2 HC1 HX1 hd1 HU1
 go_wp2_with fail
 refine Ret.call (acv (za HC2) zt) ?_ ?_
 ·intro f wz hf hx
  exact⟨rfl,Ret.inl ((za HP2).trans (zl hf)),(za HX2).trans hx⟩
 intro a3 S3 v w3 hf hv cx3 hx
 obtain rfl:v=.tuple #[]:=hv
 have hon3:=aau (za HC2).ok hf
 have hd3:S3.dp=D:=hon3.same.dp.trans hd2
 have HP3:=zb ((za HP2).trans (zn hf))
 have HU3:=zb ((za HU2).ext hx fun j hj=>by omega)
 have HX3:=zb ((za HX2).trans hx)
 have HC3:=zb cx3
 clear hf hx cx3 HC2 HX2 hd2 HP2 HU2
 go_wp2_with fail
 refine Ret.call (afe (za HC3)) ?_ ?_
 ·intro f wz hf hx
  exact⟨rfl,Ret.inl ((za HP3).trans (zl hf)),(za HX3).trans hx⟩
 intro s4 S4 v w4 hf hv cx4 hx
 obtain rfl:v=.string s4:=hv
 have hon4:=acn (za HC3).ok hf
 have hd4:S4.dp=D:=hon4.same.dp.trans hd3
 have HP4:=zb ((za HP3).trans (zn hf))
 have HU4:=zb ((za HU3).ext hx fun j hj=>by omega)
 have HX4:=zb ((za HX3).trans hx)
 have HC4:=zb cx4
 clear hf hx cx4 HC3 HX3 hd3 HP3 HU3
 obtain⟨t0,hb⟩:=(za HU4).cells
 have dq:w4.cell? ⟨w.heap.size,1,none⟩=some (.string zc):=zd hb 1
 have gq:=zp hb 1
 clear hb
 have HU5:=zb ((za HU4).put 1 (.string s4) (tx':=s4) rfl)
 have HX5:=zb ((za HX4).setNew ⟨w.heap.size,1,none⟩ (Nat.le_refl _) (.string s4))
 have HC5:=zb ((za HC4).setCell hr0 1 (.string s4))
 have hd5:=hd4
 clear HU4 HX4 HC4
 go_wp2_with fail
 refine Ret.call (acv (za HC5) abj) ?_ ?_
 ·intro f wz hf hx
  exact⟨rfl,Ret.inl ((za HP4).trans (zl hf)),(za HX5).trans hx⟩
 intro a6 S6 v w6 hf hv cx6 hx
 obtain rfl:v=.tuple #[]:=hv
 have hon6:=aau (za HC5).ok hf
 have hd6:S6.dp=D:=hon6.same.dp.trans hd5
 have HP6:=zb ((za HP4).trans (zn hf))
 have HU6:=zb ((za HU5).ext hx fun j hj=>by omega)
 have HX6:=zb ((za HX5).trans hx)
 have HC6:=zb cx6
 clear hf hx cx6 HC5 HX5 hd5 HP4 HU5
 obtain⟨ks6,vs6,HU⟩:∃ks vs,Hid (Und (fun j=>w.heap.size≤j) w6 w.heap.size 15 s4 zc 0 S.tl ([]) ks vs):=⟨_,_,za HU6⟩
 have hvs6:vs6.length≤3000:=by rw[(za HU).len];exact(by simp:([]).length≤3000)
 obtain⟨t0,hb⟩:=(za HU).cells
 have d5:w6.cell? ⟨w.heap.size,5,none⟩=some ks6:=zd hb 5
 have g5:=zp hb 5
 have hent:=ag2 r
 clear hb HU6
 go_wp2_with fail
 go_cut [] (fun wc=>∃(t:Tree) (S4:LS) (ks':Value) (vs':List Value),Hid (aaj L S6=.inr (t,S4))∧Cx wc r S4∧Hid (Und (fun j=>w.heap.size≤j) wc w.heap.size 15 s4 zc 0 S.tl ([]++[t]) ks' vs')∧Hid (Ext r w wc))
 case first =>
  go_region_law ((first | (refine step_append_lies _ (by rfl) _ _ _ (by rfl) 0 22 i0 (.pointer none) 1 8 underlying51 hi hz0 hz1 hz2 rfl (by decide) ks6 vs6.length vs6 (by rfl) ((za HO2).alloc _) ⟨w2.heap.size,0,none⟩ 1 1 [.pointer (some ⟨kb,0,none⟩)] (by rfl) rfl (cell_one_new _ _ _) (fun u hu=>by simp at hu;subst hu;rfl) (by decide) (by unfold maxLen;omega) (by omega) (Nat.zero_le _) (w2.heap.size+1) (by simp) ?_;intro g cap w3 hown hgrow hat hlt;obtain⟨e6,f6,HU3,HX3,HC3⟩:=acq rfl (za HU).drew (za HU2) hr0 (za HC2) (za HX2) (za HV2) _ hown hgrow hat;clear hown hgrow hat hlt) | (refine aba rfl (by simp[Act.eval,hent,go_sem]) (Ret.call (ag1 (za HC6).drew hd6 (za HL)) (fun f w2 hf hx=>⟨rfl,Ret.inl ((za HP6).trans (zl hf)),((za HX6).drew).trans hx⟩) ?_);intro t S1 v w2 hf hv cx1 hx;obtain⟨kb,rfl⟩:=z7 hv;obtain⟨e5,e5a,HO2,HU2⟩:=abl (za HU).drew hx (by omega);have HV2:=zb hv;have HC2:=zb cx1;have HX2:=zb (((za HX6).drew).trans hx);have HF:=zb hf;clear hv cx1 hx hf)))
  all_goals
   go_wp2_with fail
   go_meet
   exact⟨t,_,_,_,za HF,za HC3,za HU3,za HX3⟩
 case rest =>
  obtain⟨t7,S7,ks7,vs7,HF,cx7,HU7,HX7⟩:=hcut
  have hon7:=adj (za HL).good _ _ _ (za HC6).ok (za HF)
  have hd7:S7.dp=D:=hon7.same.dp.trans hd6
  have HP7:=zb ((za HP6).trans (zn (za HF)))
  have HC7:=zb cx7
  clear d5 g5 hent HU HX6 HC6 HF cx7 hd6 hvs6 HP6
  go_wp2_with fail
  go_ret
  exact⟨Ret.inr (za HP7) ((za HU7).node) (za HC7),za HX7⟩
theorem try_any {w:World} {r D:Nat} {S:LS} (cx:Cx w r S) (hD:S.dp=D) {L:Low} (hL:LowC r D L) (hk:S.kd≠0) :
  Calls prog 223 #[.pointer (some ⟨r,0,none⟩)] w fun e w'=>Ret (ajx L S) r (aaa w.heap.size) e w'∧Ext r w w':=by
 obtain⟨i0,hi,hz0,hz1,hz2⟩:=info_parts zz
 have hr0:=cx.jc.lt
 have HL:=zb hL
 clear hL
 have HX0:Hid (Ext r w w):=Ext.refl r w
 have hd0:=hD
 have HC0:=zb cx
 clear cx
 go_enter func223,ntmps223
 go_wp2_with fail
 refine Ret.call (act (za HC0) 14) ?_ ?_
 ·intro f wz hf hx
  exact⟨rfl,Ret.inl (zl hf),(za HX0).trans hx⟩
 intro a1 S1 v w1 hf hv cx1 hx
 obtain⟨rfl,hu⟩:=hv
 have HU1:=zb hu
 have hon1:=aan (za HC0).ok hk hf
 have hd1:S1.dp=D:=hon1.same.dp.trans hd0
 have HP1:=zb (show (ajx L S)=_ from zn hf)
 have HX1:=zb ((za HX0).trans hx)
 have HC1:=zb cx1
 clear hf hx cx1 HC0 HX0 hd0 hu
 obtain⟨ks1,vs1,HU⟩:∃ks vs,Hid (Und (fun j=>w.heap.size≤j) w1 w.heap.size 14 zc zc 0 S.tl ([]) ks vs):=⟨_,_,za HU1⟩
 have hvs1:vs1.length≤3000:=by rw[(za HU).len];exact(by simp:([]).length≤3000)
 obtain⟨t0,hb⟩:=(za HU).cells
 have d5:w1.cell? ⟨w.heap.size,5,none⟩=some ks1:=zd hb 5
 have g5:=zp hb 5
 have hent:=ag2 r
 clear hb HU1
 go_wp2_with fail
 go_cut [] (fun wc=>∃(t:Tree) (S4:LS) (ks':Value) (vs':List Value),Hid (aaj L S1=.inr (t,S4))∧Cx wc r S4∧Hid (Und (fun j=>w.heap.size≤j) wc w.heap.size 14 zc zc 0 S.tl ([]++[t]) ks' vs')∧Hid (Ext r w wc))
 case first =>
  go_region_law ((first | (refine step_append_lies _ (by rfl) _ _ _ (by rfl) 0 22 i0 (.pointer none) 1 8 underlying51 hi hz0 hz1 hz2 rfl (by decide) ks1 vs1.length vs1 (by rfl) ((za HO2).alloc _) ⟨w2.heap.size,0,none⟩ 1 1 [.pointer (some ⟨kb,0,none⟩)] (by rfl) rfl (cell_one_new _ _ _) (fun u hu=>by simp at hu;subst hu;rfl) (by decide) (by unfold maxLen;omega) (by omega) (Nat.zero_le _) (w2.heap.size+1) (by simp) ?_;intro g cap w3 hown hgrow hat hlt;obtain⟨e6,f6,HU3,HX3,HC3⟩:=acq rfl (za HU).drew (za HU2) hr0 (za HC2) (za HX2) (za HV2) _ hown hgrow hat;clear hown hgrow hat hlt) | (refine aba rfl (by simp[Act.eval,hent,go_sem]) (Ret.call (ag1 (za HC1).drew hd1 (za HL)) (fun f w2 hf hx=>⟨rfl,Ret.inl ((za HP1).trans (zl hf)),((za HX1).drew).trans hx⟩) ?_);intro t S1 v w2 hf hv cx1 hx;obtain⟨kb,rfl⟩:=z7 hv;obtain⟨e5,e5a,HO2,HU2⟩:=abl (za HU).drew hx (by omega);have HV2:=zb hv;have HC2:=zb cx1;have HX2:=zb (((za HX1).drew).trans hx);have HF:=zb hf;clear hv cx1 hx hf)))
  all_goals
   go_wp2_with fail
   go_meet
   exact⟨t,_,_,_,za HF,za HC3,za HU3,za HX3⟩
 case rest =>
  obtain⟨t2,S2,ks2,vs2,HF,cx2,HU2,HX2⟩:=hcut
  have hon2:=adj (za HL).good _ _ _ (za HC1).ok (za HF)
  have hd2:S2.dp=D:=hon2.same.dp.trans hd1
  have HP2:=zb ((za HP1).trans (zn (za HF)))
  have HC2:=zb cx2
  clear d5 g5 hent HU HX1 HC1 HF cx2 hd1 hvs1 HP1
  obtain⟨ks2,vs2,HU⟩:∃ks vs,Hid (Und (fun j=>w.heap.size≤j) wc w.heap.size 14 zc zc 0 S.tl ([]++[t2]) ks vs):=⟨_,_,za HU2⟩
  have hvs2:vs2.length≤3000:=by rw[(za HU).len];exact(by simp:([]++[t2]).length≤3000)
  obtain⟨t0,hb⟩:=(za HU).cells
  have d5:wc.cell? ⟨w.heap.size,5,none⟩=some ks2:=zd hb 5
  have g5:=zp hb 5
  have hent:=ayu r
  clear hb HU2
  go_wp2_with fail
  go_cut [] (fun wc=>∃(t:Tree) (S4:LS) (ks':Value) (vs':List Value),Hid (ae7 L S2=.inr (t,S4))∧Cx wc r S4∧Hid (Und (fun j=>w.heap.size≤j) wc w.heap.size 14 zc zc 0 S.tl ([]++[t2]++[t]) ks' vs')∧Hid (Ext r w wc))
  case first =>
   go_region_law ((first | (refine step_append_lies _ (by rfl) _ _ _ (by rfl) 0 22 i0 (.pointer none) 1 8 underlying51 hi hz0 hz1 hz2 rfl (by decide) ks2 vs2.length vs2 (by rfl) ((za HO2).alloc _) ⟨w2.heap.size,0,none⟩ 1 1 [.pointer (some ⟨kb,0,none⟩)] (by rfl) rfl (cell_one_new _ _ _) (fun u hu=>by simp at hu;subst hu;rfl) (by decide) (by unfold maxLen;omega) (by omega) (Nat.zero_le _) (w2.heap.size+1) (by simp) ?_;intro g cap w3 hown hgrow hat hlt;obtain⟨e6,f6,HU3,HX3,HC3⟩:=acq rfl (za HU).drew (za HU2) hr0 (za HC2) (za HX2) (za HV2) _ hown hgrow hat;clear hown hgrow hat hlt) | (refine aba rfl (by simp[Act.eval,hent,go_sem]) (Ret.call (ayv (za HC2).drew hd2 (za HL)) (fun f w2 hf hx=>⟨rfl,Ret.inl ((za HP2).trans (zl hf)),((za HX2).drew).trans hx⟩) ?_);intro t S1 v w2 hf hv cx1 hx;obtain⟨kb,rfl⟩:=z7 hv;obtain⟨e5,e5a,HO2,HU2⟩:=abl (za HU).drew hx (by omega);have HV2:=zb hv;have HC2:=zb cx1;have HX2:=zb (((za HX2).drew).trans hx);have HF:=zb hf;clear hv cx1 hx hf)))
   all_goals
    go_wp2_with fail
    go_meet
    exact⟨t,_,_,_,za HF,za HC3,za HU3,za HX3⟩
  case rest =>
   obtain⟨t3,S3,ks3,vs3,HF,cx3,HU3,HX3⟩:=hcut
   have hon3:=alu (za HL).good _ _ _ (za HC2).ok (za HF)
   have hd3:S3.dp=D:=hon3.same.dp.trans hd2
   have HP3:=zb ((za HP2).trans (zn (za HF)))
   have HC3:=zb cx3
   clear d5 g5 hent HU HX2 HC2 HF cx3 hd2 hvs2 HP2
   go_wp2_with fail
   go_ret
   exact⟨Ret.inr (za HP3) ((za HU3).node) (za HC3),za HX3⟩
end
section
attribute [local go_sem ↓] Go.wp_at_zero Go.wp_at_succ
theorem Ret.mono {α:Type} {t:Res α} {r:Nat} {V V':α→Value→World→Prop} {e:Ending} {w:World} (hV:∀a v,V a v w→V' a v w) (h:Ret t r V e w):Ret t r V' e w:=by
 cases h1:t with
 | inl f=>rw[h1] at h;exact h
 | inr x =>
  rw[h1] at h
  obtain⟨v,he,hv,hc⟩:=h
  exact⟨v,he,hV _ _ hv,hc⟩
theorem Cx.setdp {w:World} {r:Nat} {S:LS} (h:Cx w r S) (n:Nat):Cx (w.setCell ⟨r,9,none⟩ (.int .i64 n)) r { S with dp:=n } :=
 h.ext ((Ext.refl r w).setCell 9 _) (h.rd.set9 n) ⟨⟨h.ok.fit.size,h.ok.fit.pl,h.ok.fit.ln⟩,h.ok.tp,h.ok.tl,h.ok.now⟩ rfl
theorem awe {w:World} {r D:Nat} {S:LS} (cx:Cx w r S) (hD:S.dp=D) (hD25:D≤25) (P:LS→Res Tree) (hg:Good P) (hP:∀w S,Cx w r S→S.dp=D+1→Calls prog 187 #[.pointer (some ⟨r,0,none⟩)] w fun e w'=>Ret (P S) r (aaa w.heap.size) e w'∧Ext r w w') :
  Calls prog 111 #[.pointer (some ⟨r,0,none⟩),.func (.func 187) #[.pointer (some ⟨r,0,none⟩)] #[]] w fun e w'=>Ret (abi P S) r (aaa w.heap.size) e w'∧Ext r w w':=by
 subst hD
 have c9:=cx.rd.c9
 have f9:=cx.rd.f9
 have hrj:=cx.jc.lt
 have HC:=zb cx
 have HP:=zb hP
 clear cx hP
 by_cases h25:S.dp=25
 ·have HE:=zb (show abi P S=.inl (4,S.tp) by rw[abi,if_pos h25])
  have b0:((S.dp:Int)==25)=true:=by rw[beq_iff_eq];omega
  clear h25
  go_enter func111,ntmps111
  go_wp2_with fail
  refine(aes (za HC).rd _).mono ?_
  rintro e w3 ⟨rfl,rfl⟩
  exact⟨rfl,Ret.inl (za HE),Ext.refl _ _⟩
 ·have HE:=zb (show abi P S=bnd (P { S with dp:=S.dp+1 }) fun t S1=>.inr (t,{ S1 with dp:=S1.dp-1 }) by rw[abi,if_neg h25])
  have b0:((S.dp:Int)==25)=false:=by rw[beq_eq_false_iff_ne];omega
  have hle:S.dp≤25:=by omega
  clear h25
  go_enter func111,ntmps111
  go_wp2_with fail
  have cx1:Cx (w.setCell ⟨r,9,none⟩ (.int .i64 ((S.dp:Int)+1))) r { S with dp:=S.dp+1 }:=(za HC).setdp (S.dp+1)
  have hx1:Ext r w (w.setCell ⟨r,9,none⟩ (.int .i64 ((S.dp:Int)+1))):=(Ext.refl r w).setCell 9 _
  have hsz:(w.setCell ⟨r,9,none⟩ (.int .i64 ((S.dp:Int)+1))).heap.size=w.heap.size:=by simp
  clear c9 f9
  generalize w.setCell ⟨r,9,none⟩ (.int .i64 ((S.dp:Int)+1))=w1 at *
  refine Ret.call (za HP w1 _ cx1 rfl) ?_ ?_
  ·intro f w2 hf hx
   exact⟨rfl,Ret.inl ((za HE).trans (zl hf)),hx1.trans hx⟩
  intro t S1 v w2 hf hv cx2 hx2
  have hon:=hg _ _ _ cx1.ok hf
  have hd1:S1.dp=S.dp+1:=hon.same.dp
  obtain⟨kb,rfl⟩:=z7 hv
  have HE1:=zb ((za HE).trans (zn hf))
  have c9:=cx2.rd.c9
  have f9:=cx2.rd.f9
  have HC2:=zb cx2
  have HX2:=zb (hx1.trans hx2)
  have HV:=zb hv
  have hle1:S1.dp≤26:=by omega
  have hge1:1≤S1.dp:=by omega
  have HD1:=zb hd1
  have HSZ:=zb hsz
  clear hf hon cx1 cx2 hx1 hx2 HE hv hd1 hsz
  go_wp2_with fail
  go_ret
  have e9:((S1.dp:Int)-1)=((S1.dp-1:Nat):Int):=by omega
  rw[e9]
  refine⟨Ret.inr (za HE1) ?_ ((za HC2).setdp _),(za HX2).setCell 9 _⟩
  have hv':aaa w1.heap.size t (.pointer (some ⟨kb,0,none⟩)) w2:=za HV
  rw[za HSZ] at hv'
  exact NodeAt.ext (r:=r) hv' ((Ext.refl r w2).setCell 9 _) fun j hj=>by omega
theorem am1 {w:World} {r D:Nat} {S:LS} (cx:Cx w r S) (hD:S.dp=D) (hD25:D≤25) (P:LS→Res Tree) (hg:Good P) (hP:∀w S,Cx w r S→S.dp=D+1→Calls prog 72 #[.pointer (some ⟨r,0,none⟩)] w fun e w'=>Ret (P S) r (aaa w.heap.size) e w'∧Ext r w w') :
  Calls prog 111 #[.pointer (some ⟨r,0,none⟩),.func (.func 72) #[.pointer (some ⟨r,0,none⟩)] #[]] w fun e w'=>Ret (abi P S) r (aaa w.heap.size) e w'∧Ext r w w':=by
 subst hD
 have c9:=cx.rd.c9
 have f9:=cx.rd.f9
 have hrj:=cx.jc.lt
 have HC:=zb cx
 have HP:=zb hP
 clear cx hP
 by_cases h25:S.dp=25
 ·have HE:=zb (show abi P S=.inl (4,S.tp) by rw[abi,if_pos h25])
  have b0:((S.dp:Int)==25)=true:=by rw[beq_iff_eq];omega
  clear h25
  go_enter func111,ntmps111
  go_wp2_with fail
  refine(aes (za HC).rd _).mono ?_
  rintro e w3 ⟨rfl,rfl⟩
  exact⟨rfl,Ret.inl (za HE),Ext.refl _ _⟩
 ·have HE:=zb (show abi P S=bnd (P { S with dp:=S.dp+1 }) fun t S1=>.inr (t,{ S1 with dp:=S1.dp-1 }) by rw[abi,if_neg h25])
  have b0:((S.dp:Int)==25)=false:=by rw[beq_eq_false_iff_ne];omega
  have hle:S.dp≤25:=by omega
  clear h25
  go_enter func111,ntmps111
  go_wp2_with fail
  have cx1:Cx (w.setCell ⟨r,9,none⟩ (.int .i64 ((S.dp:Int)+1))) r { S with dp:=S.dp+1 }:=(za HC).setdp (S.dp+1)
  have hx1:Ext r w (w.setCell ⟨r,9,none⟩ (.int .i64 ((S.dp:Int)+1))):=(Ext.refl r w).setCell 9 _
  have hsz:(w.setCell ⟨r,9,none⟩ (.int .i64 ((S.dp:Int)+1))).heap.size=w.heap.size:=by simp
  clear c9 f9
  generalize w.setCell ⟨r,9,none⟩ (.int .i64 ((S.dp:Int)+1))=w1 at *
  refine Ret.call (za HP w1 _ cx1 rfl) ?_ ?_
  ·intro f w2 hf hx
   exact⟨rfl,Ret.inl ((za HE).trans (zl hf)),hx1.trans hx⟩
  intro t S1 v w2 hf hv cx2 hx2
  have hon:=hg _ _ _ cx1.ok hf
  have hd1:S1.dp=S.dp+1:=hon.same.dp
  obtain⟨kb,rfl⟩:=z7 hv
  have HE1:=zb ((za HE).trans (zn hf))
  have c9:=cx2.rd.c9
  have f9:=cx2.rd.f9
  have HC2:=zb cx2
  have HX2:=zb (hx1.trans hx2)
  have HV:=zb hv
  have hle1:S1.dp≤26:=by omega
  have hge1:1≤S1.dp:=by omega
  have HD1:=zb hd1
  have HSZ:=zb hsz
  clear hf hon cx1 cx2 hx1 hx2 HE hv hd1 hsz
  go_wp2_with fail
  go_ret
  have e9:((S1.dp:Int)-1)=((S1.dp-1:Nat):Int):=by omega
  rw[e9]
  refine⟨Ret.inr (za HE1) ?_ ((za HC2).setdp _),(za HX2).setCell 9 _⟩
  have hv':aaa w1.heap.size t (.pointer (some ⟨kb,0,none⟩)) w2:=za HV
  rw[za HSZ] at hv'
  exact NodeAt.ext (r:=r) hv' ((Ext.refl r w2).setCell 9 _) fun j hj=>by omega
theorem aqm {w:World} {r D:Nat} {S:LS} (cx:Cx w r S) (hD:S.dp=D) (hD25:D≤25) (P:LS→Res Tree) (hg:Good P) (hP:∀w S,Cx w r S→S.dp=D+1→Calls prog 112 #[.pointer (some ⟨abh r 1+2,0,none⟩),.pointer (some ⟨abh r 1,0,none⟩),.pointer (some ⟨abh r 1+1,0,none⟩)] w fun e w'=>Ret (P S) r (aaa w.heap.size) e w'∧Ext r w w') :
  Calls prog 111 #[.pointer (some ⟨r,0,none⟩),.func (.func 112) #[] #[.pointer (some ⟨abh r 1+2,0,none⟩),.pointer (some ⟨abh r 1,0,none⟩),.pointer (some ⟨abh r 1+1,0,none⟩)]] w fun e w'=>Ret (abi P S) r (aaa w.heap.size) e w'∧Ext r w w':=by
 subst hD
 have c9:=cx.rd.c9
 have f9:=cx.rd.f9
 have hrj:=cx.jc.lt
 have HC:=zb cx
 have HP:=zb hP
 clear cx hP
 by_cases h25:S.dp=25
 ·have HE:=zb (show abi P S=.inl (4,S.tp) by rw[abi,if_pos h25])
  have b0:((S.dp:Int)==25)=true:=by rw[beq_iff_eq];omega
  clear h25
  go_enter func111,ntmps111
  go_wp2_with fail
  refine(aes (za HC).rd _).mono ?_
  rintro e w3 ⟨rfl,rfl⟩
  exact⟨rfl,Ret.inl (za HE),Ext.refl _ _⟩
 ·have HE:=zb (show abi P S=bnd (P { S with dp:=S.dp+1 }) fun t S1=>.inr (t,{ S1 with dp:=S1.dp-1 }) by rw[abi,if_neg h25])
  have b0:((S.dp:Int)==25)=false:=by rw[beq_eq_false_iff_ne];omega
  have hle:S.dp≤25:=by omega
  clear h25
  go_enter func111,ntmps111
  go_wp2_with fail
  have cx1:Cx (w.setCell ⟨r,9,none⟩ (.int .i64 ((S.dp:Int)+1))) r { S with dp:=S.dp+1 }:=(za HC).setdp (S.dp+1)
  have hx1:Ext r w (w.setCell ⟨r,9,none⟩ (.int .i64 ((S.dp:Int)+1))):=(Ext.refl r w).setCell 9 _
  have hsz:(w.setCell ⟨r,9,none⟩ (.int .i64 ((S.dp:Int)+1))).heap.size=w.heap.size:=by simp
  clear c9 f9
  generalize w.setCell ⟨r,9,none⟩ (.int .i64 ((S.dp:Int)+1))=w1 at *
  refine Ret.call (za HP w1 _ cx1 rfl) ?_ ?_
  ·intro f w2 hf hx
   exact⟨rfl,Ret.inl ((za HE).trans (zl hf)),hx1.trans hx⟩
  intro t S1 v w2 hf hv cx2 hx2
  have hon:=hg _ _ _ cx1.ok hf
  have hd1:S1.dp=S.dp+1:=hon.same.dp
  obtain⟨kb,rfl⟩:=z7 hv
  have HE1:=zb ((za HE).trans (zn hf))
  have c9:=cx2.rd.c9
  have f9:=cx2.rd.f9
  have HC2:=zb cx2
  have HX2:=zb (hx1.trans hx2)
  have HV:=zb hv
  have hle1:S1.dp≤26:=by omega
  have hge1:1≤S1.dp:=by omega
  have HD1:=zb hd1
  have HSZ:=zb hsz
  clear hf hon cx1 cx2 hx1 hx2 HE hv hd1 hsz
  go_wp2_with fail
  go_ret
  have e9:((S1.dp:Int)-1)=((S1.dp-1:Nat):Int):=by omega
  rw[e9]
  refine⟨Ret.inr (za HE1) ?_ ((za HC2).setdp _),(za HX2).setCell 9 _⟩
  have hv':aaa w1.heap.size t (.pointer (some ⟨kb,0,none⟩)) w2:=za HV
  rw[za HSZ] at hv'
  exact NodeAt.ext (r:=r) hv' ((Ext.refl r w2).setCell 9 _) fun j hj=>by omega
end
section
attribute [local go_sem ↓] Go.wp_at_zero Go.wp_at_succ
theorem aj0 {w:World} {r D:Nat} {S:LS} (cx:Cx w r S) (hD:S.dp=D) (k:Nat) (hk:S.kd≠0) :
  Calls prog 210 #[.pointer (some ⟨r,0,none⟩),.int .i64 k] w fun e w'=>Ret (ad5 k S) r (aaa w.heap.size) e w'∧Ext r w w':=by
 obtain⟨i0,hi,hz0,hz1,hz2⟩:=info_parts zz
 have hr0:=cx.jc.lt
 have HX0:Hid (Ext r w w):=Ext.refl r w
 have hd0:=hD
 have HC0:=zb cx
 clear cx
 go_enter func210,ntmps210
 go_wp2_with fail
 refine(aei (za HC0) k).mono ?_
 rintro e w1 ⟨v,rfl,⟨rfl,hu⟩,cx1,hx⟩
 have HU1:=zb hu
 have HX1:=zb ((za HX0).trans hx)
 have HC1:=zb cx1
 have hd1:=hd0
 clear hu hx cx1 HC0 HX0
 go_wp2_with fail
 refine Ret.call (agw (za HC1)) ?_ ?_
 ·intro f wz hf hx
  exact⟨rfl,Ret.inl (zl hf),(za HX1).trans hx⟩
 intro a2 S2 v w2 hf hv cx2 hx
 obtain rfl:v=S.tok:=hv
 have hon2:=aan (za HC1).ok hk hf
 have hd2:S2.dp=D:=hon2.same.dp.trans hd1
 have HP2:=zb (show (ad5 k S)=_ from zn hf)
 have HU2:=zb ((za HU1).ext hx fun j hj=>by omega)
 have HX2:=zb ((za HX1).trans hx)
 have HC2:=zb cx2
 clear hf hx cx2 HC1 HX1 hd1 HU1
 unfold LS.tok
 obtain⟨t0,hb⟩:=(za HU2).cells
 have dq:w2.cell? ⟨w.heap.size,1,none⟩=some (.string zc):=zd hb 1
 have gq:=zp hb 1
 clear hb
 obtain⟨t3,hb3⟩:=(za HU2).cells
 have dr:w2.cell? ⟨w.heap.size,3,none⟩=some (.int .i64 0):=zd hb3 3
 have gr:=zp hb3 3
 have hlt:w.heap.size<w2.heap.size:=(gtE hb3).1
 clear hb3
 go_wp2_with fail
 have hbt:=aaq w2 (.cells #[.int .i64 S.kd,.int .i64 S.tp,.int .i64 S.tl,.string S.mrk,.string S.tx,.int .i64 S.nn] 125)
 have HU3:=zb ((za HU2).ext (r:=r) ((Ext.refl r w2).alloc (.cells #[.int .i64 S.kd,.int .i64 S.tp,.int .i64 S.tl,.string S.mrk,.string S.tx,.int .i64 S.nn] 125)) fun j hj=>by omega)
 have HX3:=zb ((za HX2).alloc (.cells #[.int .i64 S.kd,.int .i64 S.tp,.int .i64 S.tl,.string S.mrk,.string S.tx,.int .i64 S.nn] 125))
 have HC3:=zb ((za HC2).alloc (.cells #[.int .i64 S.kd,.int .i64 S.tp,.int .i64 S.tl,.string S.mrk,.string S.tx,.int .i64 S.nn] 125))
 clear dq gq dr gr HU2 HX2 HC2
 generalize w2.alloc (.cells #[.int .i64 S.kd,.int .i64 S.tp,.int .i64 S.tl,.string S.mrk,.string S.tx,.int .i64 S.nn] 125)=w3 at *
 obtain⟨t3,hb3⟩:=(za HU3).cells
 have d1:w3.cell? ⟨w.heap.size,1,none⟩=some (.string zc):=zd hb3 1
 have d3:w3.cell? ⟨w.heap.size,3,none⟩=some (.int .i64 0):=zd hb3 3
 have g1:=zp hb3 1
 have g3:=zp hb3 3
 have d4:w3.cell? ⟨w2.heap.size,4,none⟩=some (.string S.tx):=zd hbt 4
 have d5:w3.cell? ⟨w2.heap.size,5,none⟩=some (.int .i64 S.nn):=zd hbt 5
 clear hb3 hbt
 go_region_held3 (fun w'=>w'.cell? ⟨w2.heap.size,4,none⟩=some (.string S.tx)∧w'.cell? ⟨w2.heap.size,5,none⟩=some (.int .i64 S.nn)) ((refine⟨?_,?_⟩ <;> simp[World.cell?_setCell_other,d4,d5])) (fail)
 go_wp2_with fail
 go_ret
 have hu4:=(((za HU3).put 1 (.string S.tx) (tx':=S.tx) rfl).put 3 (.int .i64 S.nn) (n':=S.nn) rfl)
 refine⟨Ret.inr (za HP2) ?_ (((za HC3).setCell hr0 1 (.string S.tx)).setCell hr0 3 (.int .i64 S.nn)).drew,(((za HX3).setNew ⟨w.heap.size,1,none⟩ (Nat.le_refl _) _).setNew ⟨w.heap.size,3,none⟩ (Nat.le_refl _) _).drew⟩
 exact hu4.drew.node
theorem aj1 {w:World} {r D:Nat} {S:LS} (cx:Cx w r S) (hD:S.dp=D) {L:Low} (hL:LowC r D L) :
  Calls prog 174 #[.pointer (some ⟨r,0,none⟩)] w fun e w'=>Ret (aek L S) r (aq0 w.heap.size) e w'∧Ext r w w':=by
 obtain⟨i0,hi,hz0,hz1,hz2⟩:=info_parts zz
 have hr0:=cx.jc.lt
 have HL:=zb hL
 clear hL
 have HX0:Hid (Ext r w w):=Ext.refl r w
 have hd0:=hD
 have HC0:=zb cx
 clear cx
 go_enter func174,ntmps174
 go_wp2_with fail
 refine Ret.call (ajw (za HC0) hd0 abj _ _ L.V (ag7 (za HL))) ?_ ?_
 ·intro f wz hf hx
  exact⟨rfl,Ret.inl hf,hx⟩
 intro ts S1 v w1 hf hv cx1 hx
 have HF:=zb (show aek L S=_ from hf)
 have HV:=zb hv
 obtain⟨vs,hl,-⟩:=hv
 obtain⟨la,lcap,rfl⟩:=hl.form
 clear hf hl
 go_wp2_with fail
 go_ret
 exact⟨Ret.inr (za HF) (za HV) cx1,hx⟩
theorem apt {w:World} {r D:Nat} {S:LS} (cx:Cx w r S) (hD:S.dp=D) {L:Low} (hL:LowC r D L) {w0:World} {k ln:Nat} (hx0:Ext r w0 w) (hr0:r+18<w0.heap.size) (hu0:Und (fun j=>w0.heap.size≤j) w w0.heap.size k zc zc 0 ln [] (.slice none 0 0) []) :
  Calls prog 241 #[.pointer (some ⟨r,0,none⟩),.pointer (some ⟨w0.heap.size,0,none⟩)] w fun e w'=>Ret (adh L k ln S) r (fun t v w'=>v=.pointer (some ⟨w0.heap.size,0,none⟩)∧aaa w0.heap.size t v w') e w'∧Ext r w0 w':=by
 obtain⟨i0,hi,hz0,hz1,hz2⟩:=info_parts zz
 have HL:=zb hL
 clear hL
 have HX0:=zb hx0
 clear hx0
 have HU0:=zb hu0
 clear hu0
 have hd0:=hD
 have HC0:=zb cx
 clear cx
 go_enter func241,ntmps241
 go_wp2_with fail
 refine Ret.call (afe (za HC0)) ?_ ?_
 ·intro f wz hf hx
  exact⟨rfl,Ret.inl (zl hf),(za HX0).trans hx⟩
 intro s1 S1 v w1 hf hv cx1 hx
 obtain rfl:v=.string s1:=hv
 have hon1:=acn (za HC0).ok hf
 have hlt1:w0.heap.size<w1.heap.size:=by
  obtain⟨t0,hb⟩:=((za HU0).ext hx fun j hj=>by omega).cells
  exact(gtE hb).1
 have hd1:S1.dp=D:=hon1.same.dp.trans hd0
 have HP1:=zb (show (adh L k ln S)=_ from zn hf)
 have HU1:=zb ((za HU0).ext hx fun j hj=>by omega)
 have HX1:=zb ((za HX0).trans hx)
 have HC1:=zb cx1
 clear hf hx cx1 HC0 HX0 hd0 HU0
 obtain⟨t0,hb⟩:=(za HU1).cells
 have dq:w1.cell? ⟨w0.heap.size,1,none⟩=some (.string zc):=zd hb 1
 have gq:=zp hb 1
 clear hb
 have HU2:=zb ((za HU1).put 1 (.string s1) (tx':=s1) rfl)
 have HX2:=zb ((za HX1).setNew ⟨w0.heap.size,1,none⟩ (Nat.le_refl _) (.string s1))
 have HC2:=zb ((za HC1).setCell hr0 1 (.string s1))
 have hd2:=hd1
 clear HU1 HX1 HC1
 go_wp2_with fail
 refine Ret.call (acv (za HC2) zt) ?_ ?_
 ·intro f wz hf hx
  exact⟨rfl,Ret.inl ((za HP1).trans (zl hf)),(za HX2).trans hx⟩
 intro a3 S3 v w3 hf hv cx3 hx
 obtain rfl:v=.tuple #[]:=hv
 have hon3:=aau (za HC2).ok hf
 have hd3:S3.dp=D:=hon3.same.dp.trans hd2
 have HP3:=zb ((za HP1).trans (zn hf))
 have HU3:=zb ((za HU2).ext hx fun j hj=>by omega)
 have HX3:=zb ((za HX2).trans hx)
 have HC3:=zb cx3
 clear hf hx cx3 HC2 HX2 hd2 HP1 HU2
 have hlt3:w0.heap.size<w3.heap.size:=by
  obtain⟨t0,hb⟩:=(za HU3).cells
  exact(gtE hb).1
 go_wp2_with fail
 refine Ret.call (aj1 (za HC3) hd3 (za HL)) ?_ ?_
 ·intro f wz hf hx
  exact⟨rfl,Ret.inl ((za HP3).trans (zl hf)),(za HX3).trans hx⟩
 intro us4 S4 v w4 hf hv cx4 hx
 have hon4:=adr (za HL).good.v _ _ _ (za HC3).ok hf
 have hd4:S4.dp=D:=hon4.same.dp.trans hd3
 have HP4:=zb ((za HP3).trans (zn hf))
 have HU4:=zb ((za HU3).ext hx fun j hj=>by omega)
 have HX4:=zb ((za HX3).trans hx)
 have HC4:=zb cx4
 clear hf hx cx4 HC3 HX3 hd3 HP3 HU3
 obtain⟨vs,hl,-⟩:=hv
 obtain⟨la,lcap,rfl⟩:=hl.form
 have HU9:=zb ((za HU4).setKids hl hlt3)
 obtain⟨t0,hb⟩:=(za HU4).cells
 have dq:w4.cell? ⟨w0.heap.size,5,none⟩=some (.slice none 0 0):=zd hb 5
 have gq:=zp hb 5
 clear hb
 clear hl
 go_wp2_with fail
 go_ret
 exact⟨Ret.inr (za HP4) ⟨rfl,(za HU9).node⟩ ((za HC4).setCell hr0 _ _),(za HX4).setNew ⟨w0.heap.size,5,none⟩ (Nat.le_refl _) _⟩
end
section
attribute [local go_sem ↓] Go.wp_at_zero Go.wp_at_succ
theorem aah {w:World} {r:Nat} {S:LS} (h:Rd w r S) (m:ByteArray) {b:Bool} (hb:S.is m=b) :
  Calls prog 108 #[.pointer (some ⟨r,0,none⟩),.string m] w fun e w'=>e=.returned (.bool b)∧w=w' :=
 (aju h m hb).mono fun _ _ ⟨h1,h2⟩=>⟨h1,h2.symm⟩
theorem akj {w:World} {r:Nat} {S:LS} (cx:Cx w r S) :
  Calls prog 211 #[.pointer (some ⟨r,0,none⟩)] w fun e w'=>e=.returned (.int .i64 (aas S))∧w=w':=by
 cases hb0:S.is aaw with
 | true =>
  have HP:=zb (show aas S=20 by rw[aas,if_pos hb0])
  go_enter func211,ntmps211
  go_wp2_with fail
  refine(aah cx.rd aaw hb0).mono ?_
  rintro e wz ⟨rfl,rfl⟩
  go_wp2_with fail
  go_ret
  rw[za HP]
  exact⟨rfl,rfl⟩
 | false =>
  cases hb1:S.is aar with
  | true =>
   have HP:=zb (show aas S=21 by rw[aas,if_neg (by rw[hb0];decide),if_pos hb1])
   go_enter func211,ntmps211
   go_wp2_with fail
   refine(aah cx.rd aaw hb0).mono ?_
   rintro e wz ⟨rfl,rfl⟩
   go_wp2_with fail
   refine(aah cx.rd aar hb1).mono ?_
   rintro e wz ⟨rfl,rfl⟩
   go_wp2_with fail
   go_ret
   rw[za HP]
   exact⟨rfl,rfl⟩
  | false =>
   cases hb2:S.is ab6 with
   | true =>
    have HP:=zb (show aas S=22 by rw[aas,if_neg (by rw[hb0];decide),if_neg (by rw[hb1];decide),if_pos hb2])
    go_enter func211,ntmps211
    go_wp2_with fail
    refine(aah cx.rd aaw hb0).mono ?_
    rintro e wz ⟨rfl,rfl⟩
    go_wp2_with fail
    refine(aah cx.rd aar hb1).mono ?_
    rintro e wz ⟨rfl,rfl⟩
    go_wp2_with fail
    refine(aah cx.rd ab6 hb2).mono ?_
    rintro e wz ⟨rfl,rfl⟩
    go_wp2_with fail
    go_ret
    rw[za HP]
    exact⟨rfl,rfl⟩
   | false =>
    cases hb3:S.is abn with
    | true =>
     have HP:=zb (show aas S=23 by rw[aas,if_neg (by rw[hb0];decide),if_neg (by rw[hb1];decide),if_neg (by rw[hb2];decide),if_pos hb3])
     go_enter func211,ntmps211
     go_wp2_with fail
     refine(aah cx.rd aaw hb0).mono ?_
     rintro e wz ⟨rfl,rfl⟩
     go_wp2_with fail
     refine(aah cx.rd aar hb1).mono ?_
     rintro e wz ⟨rfl,rfl⟩
     go_wp2_with fail
     refine(aah cx.rd ab6 hb2).mono ?_
     rintro e wz ⟨rfl,rfl⟩
     go_wp2_with fail
     refine(aah cx.rd abn hb3).mono ?_
     rintro e wz ⟨rfl,rfl⟩
     go_wp2_with fail
     go_ret
     rw[za HP]
     exact⟨rfl,rfl⟩
    | false =>
     have HP:=zb (show aas S=0 by rw[aas,if_neg (by rw[hb0];decide),if_neg (by rw[hb1];decide),if_neg (by rw[hb2];decide),if_neg (by rw[hb3];decide)])
     go_enter func211,ntmps211
     go_wp2_with fail
     refine(aah cx.rd aaw hb0).mono ?_
     rintro e wz ⟨rfl,rfl⟩
     go_wp2_with fail
     refine(aah cx.rd aar hb1).mono ?_
     rintro e wz ⟨rfl,rfl⟩
     go_wp2_with fail
     refine(aah cx.rd ab6 hb2).mono ?_
     rintro e wz ⟨rfl,rfl⟩
     go_wp2_with fail
     refine(aah cx.rd abn hb3).mono ?_
     rintro e wz ⟨rfl,rfl⟩
     go_wp2_with fail
     go_ret
     rw[za HP]
     exact⟨rfl,rfl⟩
end
section
attribute [local go_sem ↓] Go.wp_at_zero Go.wp_at_succ
theorem arm {w:World} {r D:Nat} {S:LS} (cx:Cx w r S) (hD:S.dp=D) {L:Low} (hL:LowC r D L) (hb0:S.is zt=true) :
  Calls prog 212 #[.pointer (some ⟨r,0,none⟩)] w fun e w'=>Ret (aa7 L S) r (aaa w.heap.size) e w'∧Ext r w w':=by
 obtain⟨i0,hi,hz0,hz1,hz2⟩:=info_parts zz
 have hr0:=cx.jc.lt
 have HL:=zb hL
 clear hL
 have HX0:Hid (Ext r w w):=Ext.refl r w
 have hd0:=hD
 have HC0:=zb cx
 clear cx
 go_enter func212,ntmps212
 have hk:=aai hb0
 go_wp2_with fail
 refine(aah (za HC0).rd zt hb0).mono ?_
 rintro e wz ⟨rfl,rfl⟩
 go_wp2_with fail
 refine Ret.call (ag3 (za HC0) hd0 (za HL)) ?_ ?_
 ·intro f wz hf hx
  exact⟨rfl,Ret.inl (hf),(za HX0).trans hx⟩
 intro t9 S9 v w9 hf hv cx9 hx9
 obtain⟨kb,rfl⟩:=z7 hv
 have HP9:=zb (hf)
 have HV9:=zb hv
 clear hf hv
 go_wp2_with fail
 go_ret
 exact⟨Ret.inr (za HP9) (za HV9) cx9,(za HX0).trans hx9⟩
end
section
attribute [local go_sem ↓] Go.wp_at_zero Go.wp_at_succ
theorem arn {w:World} {r D:Nat} {S:LS} (cx:Cx w r S) (hD:S.dp=D) {L:Low} (hL:LowC r D L) (hb0:S.is zt=false) (hb1:S.is z8=true) :
  Calls prog 212 #[.pointer (some ⟨r,0,none⟩)] w fun e w'=>Ret (bnd (zi S) fun _ S1=>bnd (abp ack L.V S1) fun us S2=>(.inr (nd 27 S.tl us,S2):Res Tree)) r (aaa w.heap.size) e w'∧Ext r w w':=by
 obtain⟨i0,hi,hz0,hz1,hz2⟩:=info_parts zz
 have hr0:=cx.jc.lt
 have HL:=zb hL
 clear hL
 have HX0:Hid (Ext r w w):=Ext.refl r w
 have hd0:=hD
 have HC0:=zb cx
 clear cx
 go_enter func212,ntmps212
 have hk:=aai hb1
 go_wp2_with fail
 refine(aah (za HC0).rd zt hb0).mono ?_
 rintro e wz ⟨rfl,rfl⟩
 go_wp2_with fail
 refine(aah (za HC0).rd z8 hb1).mono ?_
 rintro e wz ⟨rfl,rfl⟩
 go_wp2_with fail
 refine Ret.call (act (za HC0) 27) ?_ ?_
 ·intro f wz hf hx
  exact⟨rfl,Ret.inl (zl hf),(za HX0).trans hx⟩
 intro a1 S1 v w1 hf hv cx1 hx
 obtain⟨rfl,hu⟩:=hv
 have HU1:=zb hu
 have hon1:=aan (za HC0).ok hk hf
 have hd1:S1.dp=D:=hon1.same.dp.trans hd0
 have HP1:=zb (show (bnd (zi S) fun _ S1=>bnd (abp ack L.V S1) fun us S2=>(.inr (nd 27 S.tl us,S2):Res Tree))=_ from zn hf)
 have HX1:=zb ((za HX0).trans hx)
 have HC1:=zb cx1
 clear hf hx cx1 HC0 HX0 hd0 hu
 have hlt:w.heap.size<w1.heap.size:=by
  obtain⟨t0,hb⟩:=(za HU1).cells
  exact(gtE hb).1
 go_wp2_with fail
 refine Ret.call (ajw (za HC1) hd1 ack _ _ L.V (ag7 (za HL))) ?_ ?_
 ·intro f wz hf hx
  exact⟨rfl,Ret.inl ((za HP1).trans (zl hf)),(za HX1).trans hx⟩
 intro us2 S2 v w2 hf hv cx2 hx
 have hon2:=adr (za HL).good.v _ _ _ (za HC1).ok hf
 have hd2:S2.dp=D:=hon2.same.dp.trans hd1
 have HP2:=zb ((za HP1).trans (zn hf))
 have HU2:=zb ((za HU1).ext hx fun j hj=>by omega)
 have HX2:=zb ((za HX1).trans hx)
 have HC2:=zb cx2
 clear hf hx cx2 HC1 HX1 hd1 HP1 HU1
 obtain⟨vs,hl,-⟩:=hv
 obtain⟨la,lcap,rfl⟩:=hl.form
 have HU9:=zb ((za HU2).setKids hl hlt)
 obtain⟨t0,hb⟩:=(za HU2).cells
 have dq:w2.cell? ⟨w.heap.size,5,none⟩=some (.slice none 0 0):=zd hb 5
 have gq:=zp hb 5
 clear hb
 clear hl
 go_wp2_with fail
 go_ret
 exact⟨Ret.inr (za HP2) (za HU9).node ((za HC2).setCell hr0 _ _),(za HX2).setNew ⟨w.heap.size,5,none⟩ (Nat.le_refl _) _⟩
end
section
attribute [local go_sem ↓] Go.wp_at_zero Go.wp_at_succ
theorem aro {w:World} {r D:Nat} {S:LS} (cx:Cx w r S) (hD:S.dp=D) {L:Low} (hL:LowC r D L) (hb0:S.is zt=false) (hb1:S.is z8=false) (hb2:S.is wFn=true) :
  Calls prog 212 #[.pointer (some ⟨r,0,none⟩)] w fun e w'=>Ret (age L S) r (aaa w.heap.size) e w'∧Ext r w w':=by
 obtain⟨i0,hi,hz0,hz1,hz2⟩:=info_parts zz
 have hr0:=cx.jc.lt
 have HL:=zb hL
 clear hL
 have HX0:Hid (Ext r w w):=Ext.refl r w
 have hd0:=hD
 have HC0:=zb cx
 clear cx
 go_enter func212,ntmps212
 have hk:=aai hb2
 go_wp2_with fail
 refine(aah (za HC0).rd zt hb0).mono ?_
 rintro e wz ⟨rfl,rfl⟩
 go_wp2_with fail
 refine(aah (za HC0).rd z8 hb1).mono ?_
 rintro e wz ⟨rfl,rfl⟩
 go_wp2_with fail
 refine(aah (za HC0).rd wFn hb2).mono ?_
 rintro e wz ⟨rfl,rfl⟩
 go_wp2_with fail
 refine Ret.call (awd (za HC0) hd0 (za HL) hk) ?_ ?_
 ·intro f wz hf hx
  exact⟨rfl,Ret.inl (hf),(za HX0).trans hx⟩
 intro t9 S9 v w9 hf hv cx9 hx9
 obtain⟨kb,rfl⟩:=z7 hv
 have HP9:=zb (hf)
 have HV9:=zb hv
 clear hf hv
 go_wp2_with fail
 go_ret
 exact⟨Ret.inr (za HP9) (za HV9) cx9,(za HX0).trans hx9⟩
end
section
attribute [local go_sem ↓] Go.wp_at_zero Go.wp_at_succ
theorem arp {w:World} {r D:Nat} {S:LS} (cx:Cx w r S) (hD:S.dp=D) {L:Low} (hL:LowC r D L) (hb0:S.is zt=false) (hb1:S.is z8=false) (hb2:S.is wFn=false) (hb3:S.is ab7=true) :
  Calls prog 212 #[.pointer (some ⟨r,0,none⟩)] w fun e w'=>Ret (bnd (zi S) fun _ S1=>adh L 25 S.tl S1) r (aaa w.heap.size) e w'∧Ext r w w':=by
 obtain⟨i0,hi,hz0,hz1,hz2⟩:=info_parts zz
 have hr0:=cx.jc.lt
 have HL:=zb hL
 clear hL
 have HX0:Hid (Ext r w w):=Ext.refl r w
 have hd0:=hD
 have HC0:=zb cx
 clear cx
 go_enter func212,ntmps212
 have hk:=aai hb3
 go_wp2_with fail
 refine(aah (za HC0).rd zt hb0).mono ?_
 rintro e wz ⟨rfl,rfl⟩
 go_wp2_with fail
 refine(aah (za HC0).rd z8 hb1).mono ?_
 rintro e wz ⟨rfl,rfl⟩
 go_wp2_with fail
 refine(aah (za HC0).rd wFn hb2).mono ?_
 rintro e wz ⟨rfl,rfl⟩
 go_wp2_with fail
 refine(aah (za HC0).rd ab7 hb3).mono ?_
 rintro e wz ⟨rfl,rfl⟩
 go_wp2_with fail
 refine Ret.call (act (za HC0) 25) ?_ ?_
 ·intro f wz hf hx
  exact⟨rfl,Ret.inl (zl hf),(za HX0).trans hx⟩
 intro a1 S1 v w1 hf hv cx1 hx
 obtain⟨rfl,hu⟩:=hv
 have HU1:=zb hu
 have hon1:=aan (za HC0).ok hk hf
 have hd1:S1.dp=D:=hon1.same.dp.trans hd0
 have HP1:=zb (show (bnd (zi S) fun _ S1=>adh L 25 S.tl S1)=_ from zn hf)
 have HX1:=zb ((za HX0).trans hx)
 have HC1:=zb cx1
 clear hf hx cx1 HC0 HX0 hd0 hu
 go_wp2_with fail
 refine Ret.callX (X:=Ext r w) (apt (za HC1) hd1 (za HL) (za HX1) hr0 (za HU1)) ?_ ?_
 ·intro f wz hf hx
  exact⟨rfl,Ret.inl ((za HP1).trans hf),hx⟩
 intro t9 S9 v w9 hf hv cx9 hx9
 obtain⟨rfl,hv⟩:=hv
 have HP9:=zb ((za HP1).trans hf)
 have HV9:=zb hv
 clear hf hv
 go_wp2_with fail
 go_ret
 exact⟨Ret.inr (za HP9) (za HV9) cx9,hx9⟩
end
end Go.Proofs.YtndgajlidckcdaaGreatDoor
