/- A part. -/
import Derived.Test.YtndgajlidckcdaaGreatDoorM09
open Go.Proofs.Tryz
namespace Go.Proofs.YtndgajlidckcdaaGreatDoor
open Go.RowKit
set_option linter.unusedVariables false
set_option linter.unusedSimpArgs false
set_option maxRecDepth 100000
set_option maxHeartbeats 8000000
section
attribute [local go_sem ↓] Go.wp_at_zero Go.wp_at_succ
theorem am4 {w:World} {r D:Nat} {S:LS} (cx:Cx w r S) (hD:S.dp=D) {L:Low} (hL:LowC r D L) (hb0:S.is ae5=true) :
  Calls prog 76 #[.pointer (some ⟨r,0,none⟩)] w fun e w'=>Ret (ace L S) r (aaa w.heap.size) e w'∧Ext r w w':=by
 obtain⟨i0,hi,hz0,hz1,hz2⟩:=info_parts zz
 have hr0:=cx.jc.lt
 have HL:=zb hL
 clear hL
 have HX0:Hid (Ext r w w):=Ext.refl r w
 have hd0:=hD
 have HC0:=zb cx
 clear cx
 go_enter func76,ntmps76
 have hk:=aai hb0
 go_wp2_with fail
 refine(aah (za HC0).rd ae5 hb0).mono ?_
 rintro e wz ⟨rfl,rfl⟩
 go_wp2_with fail
 refine Ret.call (ay0 (za HC0) hd0 (za HL) hk) ?_ ?_
 ·intro f wz hf hx
  exact⟨rfl,Ret.inl (hf),(za HX0).trans hx⟩
 intro t9 S9 v w9 hf hv cx9 hx9
 obtain⟨kb,rfl⟩:=z7 hv
 have HP9:=zb (hf)
 have HV9:=zb hv
 clear hf hv
 go_wp2_with fail
 go_ret
 exact⟨Ret.inr (za HP9) (za HV9) cx9,(za HX0).trans hx9⟩
theorem am5 {w:World} {r D:Nat} {S:LS} (cx:Cx w r S) (hD:S.dp=D) {L:Low} (hL:LowC r D L) (hb0:S.is ae5=false) (hb1:S.is wFn=true) :
  Calls prog 76 #[.pointer (some ⟨r,0,none⟩)] w fun e w'=>Ret (fnP L S) r (aaa w.heap.size) e w'∧Ext r w w':=by
 obtain⟨i0,hi,hz0,hz1,hz2⟩:=info_parts zz
 have hr0:=cx.jc.lt
 have HL:=zb hL
 clear hL
 have HX0:Hid (Ext r w w):=Ext.refl r w
 have hd0:=hD
 have HC0:=zb cx
 clear cx
 go_enter func76,ntmps76
 have hk:=aai hb1
 go_wp2_with fail
 refine(aah (za HC0).rd ae5 hb0).mono ?_
 rintro e wz ⟨rfl,rfl⟩
 go_wp2_with fail
 refine(aah (za HC0).rd wFn hb1).mono ?_
 rintro e wz ⟨rfl,rfl⟩
 go_wp2_with fail
 refine Ret.call (fn_any (za HC0) hd0 (za HL) hk) ?_ ?_
 ·intro f wz hf hx
  exact⟨rfl,Ret.inl (hf),(za HX0).trans hx⟩
 intro t9 S9 v w9 hf hv cx9 hx9
 obtain⟨kb,rfl⟩:=z7 hv
 have HP9:=zb (hf)
 have HV9:=zb hv
 clear hf hv
 go_wp2_with fail
 go_ret
 exact⟨Ret.inr (za HP9) (za HV9) cx9,(za HX0).trans hx9⟩
theorem am6 {w:World} {r D:Nat} {S:LS} (cx:Cx w r S) (hD:S.dp=D) {L:Low} (hL:LowC r D L) (hb0:S.is ae5=false) (hb1:S.is wFn=false) :
  Calls prog 76 #[.pointer (some ⟨r,0,none⟩)] w fun e w'=>Ret (L.S S) r (aaa w.heap.size) e w'∧Ext r w w':=by
 obtain⟨i0,hi,hz0,hz1,hz2⟩:=info_parts zz
 have hr0:=cx.jc.lt
 have HL:=zb hL
 clear hL
 have HX0:Hid (Ext r w w):=Ext.refl r w
 have hd0:=hD
 have HC0:=zb cx
 clear cx
 go_enter func76,ntmps76
 go_wp2_with fail
 refine(aah (za HC0).rd ae5 hb0).mono ?_
 rintro e wz ⟨rfl,rfl⟩
 go_wp2_with fail
 refine(aah (za HC0).rd wFn hb1).mono ?_
 rintro e wz ⟨rfl,rfl⟩
 go_wp2_with fail
 refine Ret.call ((za HL).s _ _ (za HC0) hd0) ?_ ?_
 ·intro f wz hf hx
  exact⟨rfl,Ret.inl (hf),(za HX0).trans hx⟩
 intro t9 S9 v w9 hf hv cx9 hx9
 obtain⟨kb,rfl⟩:=z7 hv
 have HP9:=zb (hf)
 have HV9:=zb hv
 clear hf hv
 go_wp2_with fail
 go_ret
 exact⟨Ret.inr (za HP9) (za HV9) cx9,(za HX0).trans hx9⟩
theorem aqo {w:World} {r D:Nat} {S:LS} (cx:Cx w r S) (hD:S.dp=D) {L:Low} (hL:LowC r D L) :
  Calls prog 76 #[.pointer (some ⟨r,0,none⟩)] w fun e w'=>Ret (aak L S) r (aaa w.heap.size) e w'∧Ext r w w':=by
 cases hb0:S.is ae5 with
 | true =>
  rw[show aak L S=(ace L S) by rw[aak,if_pos hb0]]
  exact am4 cx hD hL hb0
 | false =>
  cases hb1:S.is wFn with
  | true =>
   rw[show aak L S=(fnP L S) by rw[aak,if_neg (by rw[hb0];decide),if_pos hb1]]
   exact am5 cx hD hL hb0 hb1
  | false =>
   rw[show aak L S=(L.S S) by rw[aak,if_neg (by rw[hb0];decide),if_neg (by rw[hb1];decide)]]
   exact am6 cx hD hL hb0 hb1
theorem auj {w:World} {r D:Nat} {S:LS} (cx:Cx w r S) (hD:S.dp=D) {L:Low} (hL:LowC r D L) :
  Calls prog 44 #[.pointer (some ⟨r,0,none⟩)] w fun e w'=>Ret (afg L S) r (aaa w.heap.size) e w'∧Ext r w w':=by
 obtain⟨i0,hi,hz0,hz1,hz2⟩:=info_parts zz
 have hr0:=cx.jc.lt
 have HL:=zb hL
 clear hL
 have HX0:Hid (Ext r w w):=Ext.refl r w
 have hd0:=hD
 have HC0:=zb cx
 clear cx
 go_enter func44,ntmps44
 go_wp2_with fail
 refine(aei (za HC0) 1).mono ?_
 rintro e w1 ⟨v,rfl,⟨rfl,hu⟩,cx1,hx⟩
 have HU1:=zb hu
 have HX1:=zb ((za HX0).trans hx)
 have HC1:=zb cx1
 have hd1:=hd0
 clear hu hx cx1 HC0 HX0
 go_wp2_with fail
 go_loopg [] 3002 (fun gg wr=>∃(S':LS) (acc:List Tree) (ks:Value) (vs:List Value),Cx wr r S'∧S'.dp=D∧Hid (Und (fun j=>w.heap.size≤j) wr w.heap.size 1 zc zc 0 S.tl acc ks vs)∧Hid (Ext r w wr)∧3002≤gg+S'.tp∧acc.length≤S'.tp∧Hid ((bnd (aeg L gg acc S') fun ks S1=>.inr (nd 1 S.tl ks,S1))=afg L S))
 case atStart=>exact⟨S,[],_,_,za HC1,hd1,za HU1,za HX1,by omega,by simp,rfl⟩
 case round =>
  clear HC1 hd1 HU1 HX1
  obtain⟨S',acc,ks,vs,cx,hdp,HU,HX0,hgg,hacc,HE⟩:=hrel
  have htp:S'.tp≤3000:=Nat.le_trans cx.ok.tp (Nat.le_trans cx.ok.fit.pl cx.ok.fit.size)
  obtain⟨f,hgf⟩:∃f,gk=f+1:=⟨gk-1,by omega⟩
  subst hgf
  have c3:=cx.rd.c3
  by_cases hz:S'.kd=0
  ·have HE1:Hid (Sum.inr (nd 1 S.tl acc,S')=afg L S):=by
    have:=za HE
    rw[aeg,if_pos hz] at this
    exact this
   have b0:((S'.kd:Int) !=0)=false:=by rw[bne_eq_false_iff_eq];omega
   clear hz HE
   go_wp2_with fail
   go_ret
   exact⟨Ret.inr (za HE1).symm (za HU).node cx,za HX0⟩
  ·have HE:Hid ((bnd (bnd (aak L S') fun t S1=>aeg L f (acc++[t]) S1) fun ks S1=>.inr (nd 1 S.tl ks,S1))=afg L S):=by
    have:=za HE
    rw[aeg,if_neg hz] at this
    exact this
   have b0:((S'.kd:Int) !=0)=true:=by rw[bne_iff_ne];omega
   have hvs:vs.length≤3000:=by rw[(za HU).len];omega
   obtain⟨t0,hb⟩:=(za HU).cells
   have d5:wr.cell? ⟨w.heap.size,5,none⟩=some ks:=zd hb 5
   have g5:=zp hb 5
   have hent:=ayz r
   have HC:=zb cx
   clear cx hb hz
   go_wp2_with fail
   go_region_law ((first | (refine step_append_lies _ (by rfl) _ _ _ (by rfl) 0 22 i0 (.pointer none) 1 8 underlying51 hi hz0 hz1 hz2 rfl (by decide) ks vs.length vs (by rfl) ((za HO2).alloc _) ⟨w2.heap.size,0,none⟩ 1 1 [.pointer (some ⟨kb,0,none⟩)] (by rfl) rfl (cell_one_new _ _ _) (fun u hu=>by simp at hu;subst hu;rfl) (by decide) (by unfold maxLen;omega) (by omega) (Nat.zero_le _) (w2.heap.size+1) (by simp) ?_;intro g cap w3 hown hgrow hat hlt;obtain⟨e6,f6,HU3,HX3,HC3⟩:=acq rfl (za HU).drew (za HU2) hr0 (za HC2) (za HX2) (za HV2) _ hown hgrow hat;clear hown hgrow hat hlt) | (refine aba rfl (by simp[Act.eval,hent,go_sem]) (Ret.call (aqo (za HC).drew hdp (za HL)) (fun f w2 hf hx=>⟨rfl,Ret.inl ((za HE).symm.trans (zl (zl hf))),((za HX0).drew).trans hx⟩) ?_);intro t S1 v w2 hf hv cx1 hx;obtain⟨kb,rfl⟩:=z7 hv;obtain⟨e5,e5a,HO2,HU2⟩:=abl (za HU).drew hx (by omega);have HV2:=zb hv;have HC2:=zb cx1;have HX2:=zb (((za HX0).drew).trans hx);have HF:=zb hf;clear hv cx1 hx hf)))
   all_goals
    have cx4:=za HC3
    have hon4:=aiv (za HL).good _ _ _ (za HC).ok (za HF)
    have htp4:=hon4.tp
    have hd4:=hon4.same.dp.trans hdp
    have HE4:=zb ((congrArg (fun z=>bnd z fun ks S1=>(.inr (nd 1 S.tl ks,S1):Res Tree)) (zn (za HF))).symm.trans (za HE))
    clear d5 g5 hon4 HF HE HU HX0 HC e5 e5a e6 f6 c3
    go_wp2_with fail
    go_roundg f
    case measure=>omega
    case rel=>exact⟨_,acc++[t],_,_,cx4,hd4,za HU3,za HX3,by omega,by simp;omega,za HE4⟩
end
section
attribute [local go_sem ↓] Go.wp_at_zero Go.wp_at_succ
theorem bbv (r:Nat):∀w:World,Sem.run prog (callFunc 174 #[.pointer (some ⟨r,0,none⟩)]) w=.ok (.enter 174 #[.pointer (some ⟨r,0,none⟩)]) w:=fun _=>by kernel_rfl
theorem ay1 {w:World} {r D:Nat} {S:LS} (cx:Cx w r S) (hD:S.dp=D) {L:Low} (hL:LowC r D L) (hN:∀us S1,aek L S=.inr (us,S1)→us=[]) :
  Calls prog 174 #[.pointer (some ⟨r,0,none⟩)] w fun e w'=>Ret (aek L S) r (fun us v _=>us=[]∧v=.slice none 0 0) e w'∧Ext r w w':=by
 refine Ret.call (aj1 cx hD hL) ?_ ?_
 ·intro f' w' hf hx
  exact⟨Ret.inl hf,hx⟩
 ·intro a S' v w' hf hv hc hx
  obtain⟨vs,_,h0,_⟩:=hv
  exact⟨Ret.inr hf ⟨hN _ _ hf,h0 (hN _ _ hf)⟩ hc,hx⟩
theorem ay2 {w:World} {r D:Nat} {S S1:LS} (cx:Cx w r S) (hD:S.dp=D) {L:Low} (hL:LowC r D L) {us:List Tree} (hA:aek L S=.inr (us,S1)) (h0:us≠[]) :
  Calls prog 174 #[.pointer (some ⟨r,0,none⟩)] w fun e w'=>∃g cap xs,e=.returned (.slice (some ⟨g,0,none⟩) xs.length cap)∧0<xs.length∧xs.length≤8∧Hid (Lst w.heap.size w' (.slice (some ⟨g,0,none⟩) xs.length cap) xs us) ∧
   Hid (∀j u,xs[j]?=some u→w'.cell? ((⟨g,0,none⟩:Addr).add j)=some u)∧Hid (∀u∈xs,u.oneCell'=true)∧Cx w' r S1∧Ext r w w':=by
 refine Ret.call (aj1 cx hD hL) ?_ ?_
 ·intro f' w' hf hx
  rw[hA] at hf
  cases hf
 ·intro a S' v w' hf hv hc hx
  rw[hA] at hf
  cases hf
  obtain⟨xs,hl,_,h8⟩:=hv
  have hp:0<us.length:=List.length_pos_iff.2 h0
  obtain⟨g,cap,rfl,hn,h1,_⟩:=hl.lies hp
  have hlen:=hl.len
  exact⟨g,cap,xs,rfl,by omega,by omega,hl,hn,h1,hc,hx⟩
theorem Und.kform {lo:Nat} {w:World} {b k:Nat} {tx un:ByteArray} {n:Int} {ln:Nat} {ts:List Tree} {ks:Value} {vs:List Value} (h:Und (fun j=>lo≤j) w b k tx un n ln ts ks vs) (hp:0<vs.length):∃g cap,ks=.slice (some ⟨g,0,none⟩) vs.length cap∧vs.length≤cap:=by
 rcases h.row with ⟨rfl,rfl⟩ | ⟨g,cap,cur,rfl,_,_,h4,_⟩
 ·exact absurd hp (by decide)
 ·exact⟨g,cap,rfl,h4⟩
theorem awm {w:World} {r D:Nat} {S:LS} (cx:Cx w r S) (hD:S.dp=D) {L:Low} (hL:LowC r D L) {w0:World} {b:Nat} {t:Tree} (hx0:Ext r w0 w) (hr0:r+18<w0.heap.size) (hf0:NodeAt (fun j=>w0.heap.size≤j) w (.pointer (some ⟨b,0,none⟩)) t) :
  Calls prog 171 #[.pointer (some ⟨r,0,none⟩),.pointer (some ⟨b,0,none⟩)] w fun e w'=>Ret (adk L t S) r (aaa w0.heap.size) e w'∧Ext r w0 w':=by
 obtain⟨i0,hi,hz0,hz1,hz2⟩:=info_parts zz
 have HL:=zb hL
 clear hL
 have HX0:=zb hx0
 clear hx0
 have HF0:=zb hf0
 clear hf0
 have hd0:=hD
 have HC0:=zb cx
 clear cx
 go_enter func171,ntmps171
 go_wp2_with fail
 refine(awh (k:=42) (za HX0).size (za HF0)).mono ?_
 rintro e w1 ⟨n,ks1,rfl,hn,hu,ha⟩
 have hn0:w0.heap.size≤n:=Nat.le_trans (za HX0).size hn
 have HU1:=zb hu
 have HX1:=zb ((za HX0).trans (ha.ext r))
 have HC1:=zb ((za HC0).add ha)
 have hd1:=hd0
 clear hu ha hn HC0 HX0 HF0
 go_wp2_with fail
 refine Ret.call (afe (za HC1)) ?_ ?_
 ·intro f wz hf hx
  exact⟨rfl,Ret.inl (zl hf),(za HX1).trans hx⟩
 intro s2 S2 v w2 hf hv cx2 hx
 obtain rfl:v=.string s2:=hv
 have hon2:=acn (za HC1).ok hf
 have hd2:S2.dp=D:=hon2.same.dp.trans hd1
 have HP2:=zb (show (adk L t S)=_ from zn hf)
 have HU2:=zb ((za HU1).ext hx fun j hj=>by omega)
 have HX2:=zb ((za HX1).trans hx)
 have HC2:=zb cx2
 clear hf hx cx2 HC1 HX1 hd1 HU1
 obtain⟨t0,hb⟩:=(za HU2).cells
 have dq:w2.cell? ⟨n,1,none⟩=some (.string zc):=zd hb 1
 have gq:=zp hb 1
 clear hb
 have HU3:=zb ((za HU2).put 1 (.string s2) (tx':=s2) rfl)
 have HX3:=zb ((za HX2).setNew ⟨n,1,none⟩ hn0 (.string s2))
 have HC3:=zb ((za HC2).setCell (show r+18<n by omega) 1 (.string s2))
 have hd3:=hd2
 clear HU2 HX2 HC2
 go_wp2_with fail
 refine Ret.call (ac6 (za HC3) zt) ?_ ?_
 ·intro f wz hf hx
  exact⟨rfl,Ret.inl ((za HP2).trans (zl hf)),(za HX3).trans hx⟩
 intro b4 S4 v w4 hf hv cx4 hx
 obtain rfl:v=.bool b4:=hv
 have hon4:=(ab4 (za HC3).ok hf).1
 have hd4:S4.dp=D:=hon4.same.dp.trans hd3
 have HP4:=zb ((za HP2).trans (zn hf))
 have HU4:=zb ((za HU3).ext hx fun j hj=>by omega)
 have HX4:=zb ((za HX3).trans hx)
 have HC4:=zb cx4
 clear hf hx cx4 HC3 HX3 hd3 HP2 HU3
 clear dq gq
 cases b4 with
 | false =>
  have HPf:Hid (adk L t S=.inr (ndT 42 s2 t.line [t],S4)):=za HP4
  clear HP4
  go_wp2_with fail
  go_ret
  exact⟨Ret.inr (za HPf) ((za HU4).node) (za HC4),za HX4⟩
 | true =>
  have HPt:Hid (adk L t S=bnd (aek L S4) fun us S3=>.inr (ndT 43 s2 t.line (t :: us),S3)):=za HP4
  clear HP4
  have hent:=bbv r
  obtain⟨g1,cap1,rfl,hcap⟩:=(za HU4).kform (by simp)
  have hcap1:1≤cap1:=hcap
  clear hcap
  obtain⟨t0,hb⟩:=(za HU4).cells
  have d5:w4.cell? ⟨n,5,none⟩=some (.slice (some ⟨g1,0,none⟩) 1 cap1):=zd hb 5
  have g5:=zp hb 5
  have d0:w4.cell? ⟨n,0,none⟩=some (.int .i64 42):=zd hb 0
  have g0:=zp hb 0
  clear hb
  by_cases hc:∃us S5,aek L S4=.inr (us,S5)∧us≠[]
  rotate_left
  ·
   have HN:Hid (∀us S1,aek L S4=.inr (us,S1)→us=[]):=fun us S1 h=>Classical.byContradiction fun h0=>hc ⟨us,S1,h,h0⟩
   clear hc
   go_wp2_with fail
   go_region_law (refine aba rfl (by simp[Act.eval,hent,go_sem]) (Ret.call (ay1 (za HC4).drew hd4 (za HL) (za HN)) (fun f w2 hf hx=>⟨rfl,Ret.inl ((za HPt).trans (zl hf)),((za HX4).drew).trans hx⟩) ?_);intro us S5 v w5 hf hv cx5 hx;obtain⟨rfl,rfl⟩:=hv;have HP5:=zb ((za HPt).trans (zn hf));have HU5:=zb ((za HU4).drew.ext hx fun j hj=>by omega);have HX5:=zb (((za HX4).drew).trans hx);have HC5:=zb cx5;clear hf cx5 hx;obtain⟨t5,hb5⟩:=(za HU5).cells;have e5:w5.cell? ⟨n,5,none⟩=some (.slice (some ⟨g1,0,none⟩) 1 cap1):=zd hb5 5;have f5:=zp hb5 5;have e0:w5.cell? ⟨n,0,none⟩=some (.int .i64 42):=zd hb5 0;have f0:=zp hb5 0;clear hb5)
   all_goals
    go_wp2_with fail
    go_ret
    exact⟨Ret.inr (za HP5) (((za HU5).put 0 (.int .i64 43) (k':=43) rfl).put 5 (.slice (some ⟨g1,0,none⟩) 1 cap1) rfl).node (((za HC5).setCell (show r+18<n by omega) _ _).setCell (show r+18<n by omega) _ _),((za HX5).setNew ⟨n,0,none⟩ hn0 _).setNew ⟨n,5,none⟩ hn0 _⟩
  ·obtain⟨us,S5,hA,hne⟩:=hc
   have HNE:=zb hne
   have HP5:=zb ((za HPt).trans (zn hA))
   have HA:=zb hA
   clear hA HPt hne
   go_wp2_with fail
   go_region_law ((first | (refine step_append_lies _ (by rfl) _ _ _ (by rfl) 0 22 i0 (.pointer none) 1 8 underlying51 hi hz0 hz1 hz2 rfl (by decide) (.slice (some ⟨g1,0,none⟩) 1 cap1) 1 [.pointer (some ⟨b,0,none⟩)] (by rfl) (za HU5).row.owns ⟨g,0,none⟩ xs.length cap xs (by rfl) (Nat.mul_one _).symm (za HN5) (za H15) hxs0 (by unfold maxLen;omega) (by omega) (Nat.zero_le _) w5.heap.size rfl ?_;intro g6 cap6 w6 hown hgrow hat hlt;have hq:=apu 43 rfl (za HU4).drew (za HU5) hr0 (za HC5) (za HX5) (za HL5).len (fun i h=>((za HL5).kids i h).mono fun j hj=>hj.1) hown hgrow hat;clear hown hgrow hat hlt;have e5:=hq.1;have f5:=hq.2.1;have e0:=hq.2.2.1;have f0:=hq.2.2.2.1;have HQ:=zb hq;clear hq) | (refine aba rfl (by simp[Act.eval,hent,go_sem]) ((ay2 (za HC4).drew hd4 (za HL) (za HA) (za HNE)).mono ?_);rintro e w5 ⟨g,cap,xs,rfl,hxs0,hxs8,HL5,HN5,H15,cx5,hx⟩;have HU5:=zb ((za HU4).drew.ext hx fun j hj=>by omega);have HX5:=zb (((za HX4).drew).trans hx);have HC5:=zb cx5;clear cx5 hx;obtain⟨t5,hb5⟩:=(za HU5).cells;have e5:w5.cell? ⟨n,5,none⟩=some (.slice (some ⟨g1,0,none⟩) 1 cap1):=zd hb5 5;clear hb5)))
   all_goals
    go_wp2_with fail
    go_ret
    exact⟨Ret.inr (za HP5) (za (za HQ).2.2.2.2.1).node (za (za HQ).2.2.2.2.2.2),za (za HQ).2.2.2.2.2.1⟩
end
section
attribute [local go_sem ↓] Go.wp_at_zero Go.wp_at_succ
theorem Lst.mono {lo lo2:Nat} {w:World} {ks:Value} {vs:List Value} {ts:List Tree} (h:Lst lo w ks vs ts) (hle:lo2≤lo):Lst lo2 w ks vs ts :=
 ⟨h.row.keep (fun _ hj=>Nat.le_trans hle hj) (fun _ _ _=>rfl),h.len,fun i hi=>(h.kids i hi).mono fun _ hj=>⟨Nat.le_trans hle hj.1,hj.2⟩⟩
theorem ar7 {w:World} {r D:Nat} {S:LS} (cx:Cx w r S) (hD:S.dp=D) {L:Low} (hL:LowC r D L) :
  Calls prog 109 #[.pointer (some ⟨r,0,none⟩)] w fun e w'=>Ret (ab5 L S) r (aaa w.heap.size) e w'∧Ext r w w':=by
 obtain⟨i0,hi,hz0,hz1,hz2⟩:=info_parts zz
 have hr0:=cx.jc.lt
 have HL:=zb hL
 clear hL
 have HX0:Hid (Ext r w w):=Ext.refl r w
 have hd0:=hD
 have HC0:=zb cx
 clear cx
 go_enter func109,ntmps109
 go_wp2_with fail
 refine Ret.call (awg (za HC0) hd0 (za HL)) ?_ ?_
 ·intro f wz hf hx
  exact⟨rfl,Ret.inl (zl hf),(za HX0).trans hx⟩
 intro t1 S1 v w1 hf hv cx1 hx1
 obtain⟨b1,rfl⟩:=z7 hv
 have hon1:=aih (za HL).good _ _ _ (za HC0).ok hf
 have hd1:S1.dp=D:=hon1.same.dp.trans hd0
 have HP1:Hid (ab5 L S=abd L 3002 t1 S1):=zn hf
 have HN1:=zb hv
 have HX1:=zb ((za HX0).trans hx1)
 clear hf hv hx1 hon1 HX0 HC0
 go_wp2_with fail
 go_loopg [3] 3002 (fun gg l wr=>∃(S':LS) (b:Nat) (t:Tree),l=.pointer (some ⟨b,0,none⟩)∧Cx wr r S'∧S'.dp=D∧Hid (NodeAt (fun j=>w.heap.size≤j) wr (.pointer (some ⟨b,0,none⟩)) t)∧Hid (Ext r w wr)∧3002≤gg+S'.tp∧Hid (abd L gg t S'=ab5 L S))
 case atStart=>exact⟨S1,b1,t1,rfl,cx1,hd1,za HN1,za HX1,by omega,(za HP1).symm⟩
 case round =>
  clear cx1 hd1 HN1 HX1 HP1 hd0
  obtain⟨S',b,t,rfl,cx,hdp,HN,HX,hgg,HE⟩:=hrel
  have htp:S'.tp≤3000:=Nat.le_trans cx.ok.tp (Nat.le_trans cx.ok.fit.pl cx.ok.fit.size)
  obtain⟨f,hgf⟩:∃f,gk=f+1:=⟨gk-1,by omega⟩
  subst hgf
  have HE1:Hid ((bnd (aab ad6 S') fun b S1=>if b=true then bnd (adk L t S1) fun u S2=>abd L f u S2
  else bnd (aab z8 S1) fun b S2=>if b=true then bnd (L.V S2) fun u S3=>bnd (zj ack S3) fun _ S4=>abd L f (ac9 44 t [u]) S4
  else bnd (aab zt S2) fun b S3=>if b=true then bnd (aek L S3) fun us S4=>abd L f (ac9 45 t us) S4 else .inr (t,S3))=ab5 L S):=za HE
  have HC:=zb cx
  clear HE cx
  go_wp2_with fail
  refine Ret.call (ac6 (za HC) ad6) ?_ ?_
  ·intro fl wz hf hx
   exact⟨rfl,Ret.inl ((za HE1).symm.trans (zl hf)),(za HX).trans hx⟩
  intro c3 S3 v w3 hf hv cx3 hx
  obtain rfl:v=.bool c3:=hv
  have hon3:=ab4 (za HC).ok hf
  have hd3:S3.dp=D:=hon3.1.same.dp.trans hdp
  have HE3:=zb ((zn hf).symm.trans (za HE1))
  have HN3:=zb (NodeAt.ext (za HN) hx fun j hj=>by omega)
  have HX3:=zb ((za HX).trans hx)
  have HC3:=zb cx3
  clear hf hx cx3 HE1 HN HX HC hdp
  cases c3 with
  | true =>
   have htp3:=(hon3.2.1 rfl).tp
   clear hon3
   have HE4:Hid ((bnd (adk L t S3) fun u S2=>abd L f u S2)=ab5 L S):=za HE3
   clear HE3
   go_wp2_with fail
   refine Ret.callX (X:=Ext r w) (awm (za HC3) hd3 (za HL) (za HX3) hr0 (za HN3)) ?_ ?_
   ·intro fl wz hf hx
    exact⟨rfl,Ret.inl ((za HE4).symm.trans (zl hf)),hx⟩
   intro u4 S4 v w4 hf hv cx4 hx4
   obtain⟨b4,rfl⟩:=z7 hv
   have hon4:=amy (za HL).good (za HC3).ok hf
   have hd4:S4.dp=D:=hon4.same.dp.trans hd3
   have htp4:=hon4.tp
   have HE5:=zb ((zn hf).symm.trans (za HE4))
   have HN4:=zb hv
   clear hf hv hon4 HE4 HN3 HX3 HC3
   go_wp2_with fail
   go_roundg f
   case measure=>omega
   case rel=>exact⟨S4,b4,u4,rfl,cx4,hd4,za HN4,hx4,by omega,za HE5⟩
  | false =>
   obtain rfl:=hon3.2.2 rfl
   clear hon3
   have HE4:Hid ((bnd (aab z8 S3) fun b S2=>if b=true then bnd (L.V S2) fun u S3=>bnd (zj ack S3) fun _ S4=>abd L f (ac9 44 t [u]) S4
  else bnd (aab zt S2) fun b S3=>if b=true then bnd (aek L S3) fun us S4=>abd L f (ac9 45 t us) S4 else .inr (t,S3))=ab5 L S):=za HE3
   clear HE3
   go_wp2_with fail
   refine Ret.call (ac6 (za HC3) z8) ?_ ?_
   ·intro fl wz hf hx
    exact⟨rfl,Ret.inl ((za HE4).symm.trans (zl hf)),(za HX3).trans hx⟩
   intro c5 S5 v w5 hf hv cx5 hx
   obtain rfl:v=.bool c5:=hv
   have hon5:=ab4 (za HC3).ok hf
   have hd5:S5.dp=D:=hon5.1.same.dp.trans hd3
   have HE5:=zb ((zn hf).symm.trans (za HE4))
   have HN5:=zb (NodeAt.ext (za HN3) hx fun j hj=>by omega)
   have HX5:=zb ((za HX3).trans hx)
   have HC5:=zb cx5
   clear hf hx cx5 HE4 HN3 HX3 HC3 hd3
   cases c5 with
   | true =>
    have htp5:=(hon5.2.1 rfl).tp
    clear hon5
    have HE6:Hid ((bnd (L.V S5) fun u S3=>bnd (zj ack S3) fun _ S4=>abd L f (ac9 44 t [u]) S4)=ab5 L S):=za HE5
    clear HE5
    go_wp2_with fail
    refine Ret.call ((za HL).v _ _ (za HC5) hd5) ?_ ?_
    ·intro fl wz hf hx
     exact⟨rfl,Ret.inl ((za HE6).symm.trans (zl hf)),(za HX5).trans hx⟩
    intro u7 S7 v w7 hf hv cx7 hx
    obtain⟨b7,rfl⟩:=z7 hv
    have hon7:=(za HL).good.v _ _ _ (za HC5).ok hf
    have hd7:S7.dp=D:=hon7.same.dp.trans hd5
    have htp7:=hon7.tp
    have HE7:=zb ((zn hf).symm.trans (za HE6))
    have HN7:=zb (NodeAt.ext (za HN5) hx fun j hj=>by omega)
    have hsz5:=(za HX5).size
    have HM7:=zb (NodeAt.mono (A':=fun j=>w.heap.size≤j) hv fun j hj=>by omega)
    have HX7:=zb ((za HX5).trans hx)
    have HC7:=zb cx7
    clear hf hv hx cx7 hon7 HE6 HN5 HX5 HC5 hsz5
    go_wp2_with fail
    have ha7:Add w7 (w7.alloc (.cells #[.pointer (some ⟨b7,0,none⟩)] 22)):=(Add.refl w7).alloc _
    refine(aj2 (k:=44) ((za HX7).alloc _).size ((za HN7).keep (fun _ h=>h) (fun j _ hl=>ha7.block j hl) _ _) ((za HM7).keep (fun _ h=>h) (fun j _ hl=>ha7.block j hl) _ _) (aaq _ _)).mono ?_
    rintro e w8 ⟨n8,ks8,rfl,hn8,hu8,ha8⟩
    have hq8:=ha7.trans ha8
    have HN8:=zb hu8.node
    have HX8:=zb ((za HX7).trans (hq8.ext r))
    have HC8:=zb ((za HC7).add hq8)
    clear hu8 ha8 ha7 hq8 hn8 HN7 HM7 HX7 HC7
    go_wp2_with fail
    refine Ret.call (acv (za HC8) ack) ?_ ?_
    ·intro fl wz hf hx
     exact⟨rfl,Ret.inl ((za HE7).symm.trans (zl hf)),(za HX8).trans hx⟩
    intro a9 S9 v w9 hf hv cx9 hx
    obtain rfl:v=.tuple #[]:=hv
    have hon9:=aau (za HC8).ok hf
    have hd9:S9.dp=D:=hon9.same.dp.trans hd7
    have htp9:=hon9.tp
    have HE9:=zb ((zn hf).symm.trans (za HE7))
    have HN9:=zb (NodeAt.ext (za HN8) hx fun j hj=>by omega)
    have HX9:=zb ((za HX8).trans hx)
    clear hf hx hon9 HE7 HN8 HX8 HC8
    go_wp2_with fail
    go_roundg f
    case measure=>omega
    case rel=>exact⟨S9,n8,_,rfl,cx9,hd9,za HN9,za HX9,by omega,za HE9⟩
   | false =>
    obtain rfl:=hon5.2.2 rfl
    clear hon5
    have HE6:Hid ((bnd (aab zt S5) fun b S3=>if b=true then bnd (aek L S3) fun us S4=>abd L f (ac9 45 t us) S4 else .inr (t,S3))=ab5 L S):=za HE5
    clear HE5
    go_wp2_with fail
    refine Ret.call (ac6 (za HC5) zt) ?_ ?_
    ·intro fl wz hf hx
     exact⟨rfl,Ret.inl ((za HE6).symm.trans (zl hf)),(za HX5).trans hx⟩
    intro c7 S7 v w7 hf hv cx7 hx
    obtain rfl:v=.bool c7:=hv
    have hon7:=ab4 (za HC5).ok hf
    have hd7:S7.dp=D:=hon7.1.same.dp.trans hd5
    have HE7:=zb ((zn hf).symm.trans (za HE6))
    have HN7:=zb (NodeAt.ext (za HN5) hx fun j hj=>by omega)
    have HX7:=zb ((za HX5).trans hx)
    have HC7:=zb cx7
    clear hf hx cx7 HE6 HN5 HX5 HC5 hd5
    cases c7 with
    | true =>
     have htp7:=(hon7.2.1 rfl).tp
     clear hon7
     have HE8:Hid ((bnd (aek L S7) fun us S4=>abd L f (ac9 45 t us) S4)=ab5 L S):=za HE7
     clear HE7
     go_wp2_with fail
     refine Ret.call (aj1 (za HC7) hd7 (za HL)) ?_ ?_
     ·intro fl wz hf hx
      exact⟨rfl,Ret.inl ((za HE8).symm.trans (zl hf)),(za HX7).trans hx⟩
     intro us9 S9 v w9 hf hv cx9 hx
     have hon9:=adr (za HL).good.v _ _ _ (za HC7).ok hf
     have hd9:S9.dp=D:=hon9.same.dp.trans hd7
     have htp9:=hon9.tp
     have HE9:=zb ((zn hf).symm.trans (za HE8))
     have hsz7:=(za HX7).size
     have HN9:=zb (NodeAt.ext (za HN7) hx fun j hj=>by omega)
     have HX9:=zb ((za HX7).trans hx)
     have HC9:=zb cx9
     obtain⟨vs,hl,h0,h8⟩:=hv
     obtain⟨la,lcap,rfl⟩:=hl.form
     have HLS:=zb (hl.mono hsz7)
     have H0:=zb h0
     have H8:=zb h8
     clear hf hx cx9 hon9 HE8 HN7 HX7 HC7 hl h0 h8 hsz7
     go_wp2_with fail
     refine(aug (k:=45) (za HX9).size (za HN9) (za HLS) (za H0) (za H8)).mono ?_
     rintro e w10 ⟨n10,ks10,rfl,hn10,hu10,ha10⟩
     have HN10:=zb hu10.node
     have HX10:=zb ((za HX9).trans (ha10.ext r))
     have cx10:=(za HC9).add ha10
     clear hu10 ha10 hn10 HN9 HX9 HC9 HLS H0 H8
     go_wp2_with fail
     go_roundg f
     case measure=>omega
     case rel=>exact⟨S9,n10,_,rfl,cx10,hd9,za HN10,za HX10,by omega,za HE9⟩
    | false =>
     obtain rfl:=hon7.2.2 rfl
     have HE8:Hid (Sum.inr (t,S7)=ab5 L S):=za HE7
     clear HE7 hon7
     go_wp2_with fail
     go_ret
     exact⟨Ret.inr (za HE8).symm (za HN7) (za HC7),za HX7⟩
end
section
attribute [local go_sem ↓] Go.wp_at_zero Go.wp_at_succ
theorem ar8 (r:Nat):∀w:World,Sem.run prog (callFunc 111 #[.pointer (some ⟨r,0,none⟩),.func (.func 72) #[.pointer (some ⟨r,0,none⟩)] #[]]) w=.ok (.enter 111 #[.pointer (some ⟨r,0,none⟩),.func (.func 72) #[.pointer (some ⟨r,0,none⟩)] #[]]) w:=fun _=>by kernel_rfl
theorem aop {w:World} {r D:Nat} {S:LS} (cx:Cx w r S) (hD:S.dp=D) {L:Low} (hL:LowC r D L) (hb0:S.is aff=true) :
  Calls prog 72 #[.pointer (some ⟨r,0,none⟩)] w fun e w'=>Ret (aea L 41 S) r (aaa w.heap.size) e w'∧Ext r w w':=by
 obtain⟨i0,hi,hz0,hz1,hz2⟩:=info_parts zz
 have hr0:=cx.jc.lt
 have HL:=zb hL
 clear hL
 have HX0:Hid (Ext r w w):=Ext.refl r w
 have hd0:=hD
 have HC0:=zb cx
 clear cx
 go_enter func72,ntmps72
 have hk:=aai hb0
 go_wp2_with fail
 refine(aah (za HC0).rd aff hb0).mono ?_
 rintro e wz ⟨rfl,rfl⟩
 go_wp2_with fail
 refine Ret.call (act (za HC0) 41) ?_ ?_
 ·intro f wz hf hx
  exact⟨rfl,Ret.inl (zl hf),(za HX0).trans hx⟩
 intro a1 S1 v w1 hf hv cx1 hx
 obtain⟨rfl,hu⟩:=hv
 have HU1:=zb hu
 have hon1:=aan (za HC0).ok hk hf
 have hd1:S1.dp=D:=hon1.same.dp.trans hd0
 have HP1:=zb (show (aea L 41 S)=_ from zn hf)
 have HX1:=zb ((za HX0).trans hx)
 have HC1:=zb cx1
 clear hf hx cx1 HC0 HX0 hd0 hu
 obtain⟨ks1,vs1,HU⟩:∃ks vs,Hid (Und (fun j=>w.heap.size≤j) w1 w.heap.size 41 zc zc 0 S.tl ([]) ks vs):=⟨_,_,za HU1⟩
 have hvs1:vs1.length≤3000:=by rw[(za HU).len];exact(by simp:([]).length≤3000)
 obtain⟨t0,hb⟩:=(za HU).cells
 have d5:w1.cell? ⟨w.heap.size,5,none⟩=some ks1:=zd hb 5
 have g5:=zp hb 5
 have hent:=ar8 r
 clear hb HU1
 go_wp2_with fail
 go_cut [] (fun wc=>∃(t:Tree) (S4:LS) (ks':Value) (vs':List Value),Hid (L.N S1=.inr (t,S4))∧Cx wc r S4∧Hid (Und (fun j=>w.heap.size≤j) wc w.heap.size 41 zc zc 0 S.tl ([]++[t]) ks' vs')∧Hid (Ext r w wc))
 case first =>
  go_region_law ((first | (refine step_append_lies _ (by rfl) _ _ _ (by rfl) 0 22 i0 (.pointer none) 1 8 underlying51 hi hz0 hz1 hz2 rfl (by decide) ks1 vs1.length vs1 (by rfl) ((za HO2).alloc _) ⟨w2.heap.size,0,none⟩ 1 1 [.pointer (some ⟨kb,0,none⟩)] (by rfl) rfl (cell_one_new _ _ _) (fun u hu=>by simp at hu;subst hu;rfl) (by decide) (by unfold maxLen;omega) (by omega) (Nat.zero_le _) (w2.heap.size+1) (by simp) ?_;intro g cap w3 hown hgrow hat hlt;obtain⟨e6,f6,HU3,HX3,HC3⟩:=acq rfl (za HU).drew (za HU2) hr0 (za HC2) (za HX2) (za HV2) _ hown hgrow hat;clear hown hgrow hat hlt) | (refine aba rfl (by simp[Act.eval,hent,go_sem]) (Ret.call ((za HL).n _ _ (za HC1).drew hd1) (fun f w2 hf hx=>⟨rfl,Ret.inl ((za HP1).trans (zl hf)),((za HX1).drew).trans hx⟩) ?_);intro t S1 v w2 hf hv cx1 hx;obtain⟨kb,rfl⟩:=z7 hv;obtain⟨e5,e5a,HO2,HU2⟩:=abl (za HU).drew hx (by omega);have HV2:=zb hv;have HC2:=zb cx1;have HX2:=zb (((za HX1).drew).trans hx);have HF:=zb hf;clear hv cx1 hx hf)))
  all_goals
   go_wp2_with fail
   go_meet
   exact⟨t,_,_,_,za HF,za HC3,za HU3,za HX3⟩
 case rest =>
  obtain⟨t2,S2,ks2,vs2,HF,cx2,HU2,HX2⟩:=hcut
  have hon2:=(za HL).good.n _ _ _ (za HC1).ok (za HF)
  have hd2:S2.dp=D:=hon2.same.dp.trans hd1
  have HP2:=zb ((za HP1).trans (zn (za HF)))
  have HC2:=zb cx2
  clear d5 g5 hent HU HX1 HC1 HF cx2 hd1 hvs1 HP1
  go_wp2_with fail
  go_ret
  exact⟨Ret.inr (za HP2) ((za HU2).node) (za HC2),za HX2⟩
theorem aoq {w:World} {r D:Nat} {S:LS} (cx:Cx w r S) (hD:S.dp=D) {L:Low} (hL:LowC r D L) (hb0:S.is aff=false) (hb1:S.is aen=true) :
  Calls prog 72 #[.pointer (some ⟨r,0,none⟩)] w fun e w'=>Ret (aea L 40 S) r (aaa w.heap.size) e w'∧Ext r w w':=by
 obtain⟨i0,hi,hz0,hz1,hz2⟩:=info_parts zz
 have hr0:=cx.jc.lt
 have HL:=zb hL
 clear hL
 have HX0:Hid (Ext r w w):=Ext.refl r w
 have hd0:=hD
 have HC0:=zb cx
 clear cx
 go_enter func72,ntmps72
 have hk:=aai hb1
 go_wp2_with fail
 refine(aah (za HC0).rd aff hb0).mono ?_
 rintro e wz ⟨rfl,rfl⟩
 go_wp2_with fail
 refine(aah (za HC0).rd aen hb1).mono ?_
 rintro e wz ⟨rfl,rfl⟩
 go_wp2_with fail
 refine Ret.call (act (za HC0) 40) ?_ ?_
 ·intro f wz hf hx
  exact⟨rfl,Ret.inl (zl hf),(za HX0).trans hx⟩
 intro a1 S1 v w1 hf hv cx1 hx
 obtain⟨rfl,hu⟩:=hv
 have HU1:=zb hu
 have hon1:=aan (za HC0).ok hk hf
 have hd1:S1.dp=D:=hon1.same.dp.trans hd0
 have HP1:=zb (show (aea L 40 S)=_ from zn hf)
 have HX1:=zb ((za HX0).trans hx)
 have HC1:=zb cx1
 clear hf hx cx1 HC0 HX0 hd0 hu
 obtain⟨ks1,vs1,HU⟩:∃ks vs,Hid (Und (fun j=>w.heap.size≤j) w1 w.heap.size 40 zc zc 0 S.tl ([]) ks vs):=⟨_,_,za HU1⟩
 have hvs1:vs1.length≤3000:=by rw[(za HU).len];exact(by simp:([]).length≤3000)
 obtain⟨t0,hb⟩:=(za HU).cells
 have d5:w1.cell? ⟨w.heap.size,5,none⟩=some ks1:=zd hb 5
 have g5:=zp hb 5
 have hent:=ar8 r
 clear hb HU1
 go_wp2_with fail
 go_cut [] (fun wc=>∃(t:Tree) (S4:LS) (ks':Value) (vs':List Value),Hid (L.N S1=.inr (t,S4))∧Cx wc r S4∧Hid (Und (fun j=>w.heap.size≤j) wc w.heap.size 40 zc zc 0 S.tl ([]++[t]) ks' vs')∧Hid (Ext r w wc))
 case first =>
  go_region_law ((first | (refine step_append_lies _ (by rfl) _ _ _ (by rfl) 0 22 i0 (.pointer none) 1 8 underlying51 hi hz0 hz1 hz2 rfl (by decide) ks1 vs1.length vs1 (by rfl) ((za HO2).alloc _) ⟨w2.heap.size,0,none⟩ 1 1 [.pointer (some ⟨kb,0,none⟩)] (by rfl) rfl (cell_one_new _ _ _) (fun u hu=>by simp at hu;subst hu;rfl) (by decide) (by unfold maxLen;omega) (by omega) (Nat.zero_le _) (w2.heap.size+1) (by simp) ?_;intro g cap w3 hown hgrow hat hlt;obtain⟨e6,f6,HU3,HX3,HC3⟩:=acq rfl (za HU).drew (za HU2) hr0 (za HC2) (za HX2) (za HV2) _ hown hgrow hat;clear hown hgrow hat hlt) | (refine aba rfl (by simp[Act.eval,hent,go_sem]) (Ret.call ((za HL).n _ _ (za HC1).drew hd1) (fun f w2 hf hx=>⟨rfl,Ret.inl ((za HP1).trans (zl hf)),((za HX1).drew).trans hx⟩) ?_);intro t S1 v w2 hf hv cx1 hx;obtain⟨kb,rfl⟩:=z7 hv;obtain⟨e5,e5a,HO2,HU2⟩:=abl (za HU).drew hx (by omega);have HV2:=zb hv;have HC2:=zb cx1;have HX2:=zb (((za HX1).drew).trans hx);have HF:=zb hf;clear hv cx1 hx hf)))
  all_goals
   go_wp2_with fail
   go_meet
   exact⟨t,_,_,_,za HF,za HC3,za HU3,za HX3⟩
 case rest =>
  obtain⟨t2,S2,ks2,vs2,HF,cx2,HU2,HX2⟩:=hcut
  have hon2:=(za HL).good.n _ _ _ (za HC1).ok (za HF)
  have hd2:S2.dp=D:=hon2.same.dp.trans hd1
  have HP2:=zb ((za HP1).trans (zn (za HF)))
  have HC2:=zb cx2
  clear d5 g5 hent HU HX1 HC1 HF cx2 hd1 hvs1 HP1
  go_wp2_with fail
  go_ret
  exact⟨Ret.inr (za HP2) ((za HU2).node) (za HC2),za HX2⟩
theorem aor {w:World} {r D:Nat} {S:LS} (cx:Cx w r S) (hD:S.dp=D) {L:Low} (hL:LowC r D L) (hb0:S.is aff=false) (hb1:S.is aen=false) :
  Calls prog 72 #[.pointer (some ⟨r,0,none⟩)] w fun e w'=>Ret (ab5 L S) r (aaa w.heap.size) e w'∧Ext r w w':=by
 obtain⟨i0,hi,hz0,hz1,hz2⟩:=info_parts zz
 have hr0:=cx.jc.lt
 have HL:=zb hL
 clear hL
 have HX0:Hid (Ext r w w):=Ext.refl r w
 have hd0:=hD
 have HC0:=zb cx
 clear cx
 go_enter func72,ntmps72
 go_wp2_with fail
 refine(aah (za HC0).rd aff hb0).mono ?_
 rintro e wz ⟨rfl,rfl⟩
 go_wp2_with fail
 refine(aah (za HC0).rd aen hb1).mono ?_
 rintro e wz ⟨rfl,rfl⟩
 go_wp2_with fail
 refine Ret.call (ar7 (za HC0) hd0 (za HL)) ?_ ?_
 ·intro f wz hf hx
  exact⟨rfl,Ret.inl (hf),(za HX0).trans hx⟩
 intro t9 S9 v w9 hf hv cx9 hx9
 obtain⟨kb,rfl⟩:=z7 hv
 have HP9:=zb (hf)
 have HV9:=zb hv
 clear hf hv
 go_wp2_with fail
 go_ret
 exact⟨Ret.inr (za HP9) (za HV9) cx9,(za HX0).trans hx9⟩
theorem akl {w:World} {r D:Nat} {S:LS} (cx:Cx w r S) (hD:S.dp=D) {L:Low} (hL:LowC r D L) :
  Calls prog 72 #[.pointer (some ⟨r,0,none⟩)] w fun e w'=>Ret (aae L S) r (aaa w.heap.size) e w'∧Ext r w w':=by
 cases hb0:S.is aff with
 | true =>
  rw[show aae L S=(aea L 41 S) by rw[aae,if_pos hb0]]
  exact aop cx hD hL hb0
 | false =>
  cases hb1:S.is aen with
  | true =>
   rw[show aae L S=(aea L 40 S) by rw[aae,if_neg (by rw[hb0];decide),if_pos hb1]]
   exact aoq cx hD hL hb0 hb1
  | false =>
   rw[show aae L S=(ab5 L S) by rw[aae,if_neg (by rw[hb0];decide),if_neg (by rw[hb1];decide)]]
   exact aor cx hD hL hb0 hb1
end
section
attribute [local go_sem ↓] Go.wp_at_zero Go.wp_at_succ
theorem Jc.cells {w:World} {r:Nat} (h:Jc w r) {l:Nat} (h1:1≤l) (h6:l≤6):w.cell? ⟨abh r l+2,0,none⟩=some (af2 r l)∧w.cell? ⟨abh r l,0,none⟩=some (.pointer (some ⟨r,0,none⟩))∧w.cell? ⟨abh r l+1,0,none⟩=some (.int .i64 l):=by
 obtain⟨t1,e1⟩:=h.pt l h1 h6
 obtain⟨t2,e2⟩:=h.rr l h1 h6
 obtain⟨t3,e3⟩:=h.lv l h1 h6
 exact⟨zd e1 0,zd e2 0,zd e3 0⟩
theorem awn {w:World} {r D:Nat} {S:LS} (cx:Cx w r S) (hD:S.dp=D) {l:Nat} (h1:1≤l) (h6:l≤6) (P:LS→Res Tree) (hg:Good P) (hpv:af2 r l=.func (.func 72) #[.pointer (some ⟨r,0,none⟩)] #[]) (hP:∀w S,Cx w r S→S.dp=D→Calls prog 72 #[.pointer (some ⟨r,0,none⟩)] w fun e w'=>Ret (P S) r (aaa w.heap.size) e w'∧Ext r w w') :
  Calls prog 112 #[.pointer (some ⟨abh r l+2,0,none⟩),.pointer (some ⟨abh r l,0,none⟩),.pointer (some ⟨abh r l+1,0,none⟩)] w fun e w'=>Ret (afj l P S) r (aaa w.heap.size) e w'∧Ext r w w':=by
 have hr0:=cx.jc.lt
 obtain⟨c0,c1,c2⟩:=cx.jc.cells h1 h6
 rw[hpv] at c0
 have HG:=zb hg
 have HP:=zb hP
 have HC0:=zb cx
 clear hg hP cx
 go_enter func112,ntmps112
 go_wp2_with fail
 refine Ret.call (za HP _ _ (za HC0) hD) ?_ ?_
 ·intro f wz hf hx
  exact⟨rfl,Ret.inl (zl hf),hx⟩
 intro t1 S1 v w1 hf hv cx1 hx1
 obtain⟨b1,rfl⟩:=z7 hv
 have hon1:=za HG _ _ _ (za HC0).ok hf
 have hd1:S1.dp=D:=hon1.same.dp.trans hD
 have HE1:Hid (afj l P S=acl l P 3002 t1 S1):=zn hf
 have HN1:=zb hv
 have HX1:=zb hx1
 clear hf hv hx1 hon1 c0 c1 c2 HC0
 obtain⟨c0,c1,c2⟩:=cx1.jc.cells h1 h6
 rw[hpv] at c0
 have HC1:=zb cx1
 clear cx1
 go_wp2_with fail
 refine(ah8 (za HC1) l).mono ?_
 rintro e w2 ⟨rfl,cx2,ha2⟩
 have HN2:=zb (NodeAt.keep (fun _ h=>h) (fun j _ hl=>ha2.block j hl) _ _ (za HN1))
 have HX2:=zb ((za HX1).trans (ha2.ext r))
 clear ha2 HN1 HX1 HC1 c0 c1 c2
 go_wp2_with fail
 go_loopg [4,5] 3002 (fun gg n k wr=>∃(S':LS) (b:Nat) (t:Tree),n=.pointer (some ⟨b,0,none⟩)∧k=.int .i64 (abc l S')∧Cx wr r S'∧S'.dp=D∧Hid (NodeAt (fun j=>w.heap.size≤j) wr (.pointer (some ⟨b,0,none⟩)) t)∧Hid (Ext r w wr)∧3002≤gg+S'.tp∧Hid (acl l P gg t S'=afj l P S))
 case atStart=>exact⟨S1,b1,t1,rfl,rfl,cx2,hd1,za HN2,za HX2,by omega,(za HE1).symm⟩
 case round =>
  clear cx2 hd1 HN2 HX2 HE1
  obtain⟨S',b,t,rfl,rfl,cx,hdp,HN,HX,hgg,HE⟩:=hrel
  have htp:S'.tp≤3000:=Nat.le_trans cx.ok.tp (Nat.le_trans cx.ok.fit.pl cx.ok.fit.size)
  obtain⟨f,hgf⟩:∃f,gk=f+1:=⟨gk-1,by omega⟩
  subst hgf
  by_cases hz:abc l S'=0
  ·have HE1:Hid (Sum.inr (t,S')=afj l P S):=by
    have:=za HE
    rw[acl,if_pos hz] at this
    exact this
   have b0:((abc l S':Int) !=0)=false:=by rw[bne_eq_false_iff_eq];omega
   clear hz HE
   go_wp2_with fail
   go_ret
   exact⟨Ret.inr (za HE1).symm (za HN) cx,za HX⟩
  ·have HE1:Hid ((bnd (zi S') fun _ S1=>bnd (P S1) fun u S2=>acl l P f (ac9 (abc l S') t [u]) S2)=afj l P S):=by
    have:=za HE
    rw[acl,if_neg hz] at this
    exact this
   have HK:=zb (af5 hz)
   have b0:((abc l S':Int) !=0)=true:=by rw[bne_iff_ne];omega
   obtain⟨c0,c1,c2⟩:=cx.jc.cells h1 h6
   rw[hpv] at c0
   have HC:=zb cx
   clear hz HE cx
   go_wp2_with fail
   refine Ret.call (agw (za HC)) ?_ ?_
   ·intro fl wz hf hx
    exact⟨rfl,Ret.inl ((za HE1).symm.trans (zl hf)),(za HX).trans hx⟩
   intro a3 S3 v w3 hf hv cx3 hx
   obtain rfl:v=S'.tok:=hv
   have hon3:=aan (za HC).ok (za HK) hf
   have hd3:S3.dp=D:=hon3.same.dp.trans hdp
   have htp3:=hon3.tp
   have HE3:=zb ((zn hf).symm.trans (za HE1))
   have HN3:=zb (NodeAt.ext (za HN) hx fun j hj=>by omega)
   have HX3:=zb ((za HX).trans hx)
   clear hf hx hon3 HE1 HN HX HC HK c0 c1 c2 hdp
   obtain⟨c0,c1,c2⟩:=cx3.jc.cells h1 h6
   rw[hpv] at c0
   have HC3:=zb cx3
   clear cx3
   go_wp2_with fail
   refine Ret.call (za HP _ _ (za HC3) hd3) ?_ ?_
   ·intro fl wz hf hx
    exact⟨rfl,Ret.inl ((za HE3).symm.trans (zl hf)),(za HX3).trans hx⟩
   intro u4 S4 v w4 hf hv cx4 hx
   obtain⟨b4,rfl⟩:=z7 hv
   have hon4:=za HG _ _ _ (za HC3).ok hf
   have hd4:S4.dp=D:=hon4.same.dp.trans hd3
   have htp4:=hon4.tp
   have HE4:=zb ((zn hf).symm.trans (za HE3))
   have HN4:=zb (NodeAt.ext (za HN3) hx fun j hj=>by omega)
   have hsz3:=(za HX3).size
   have HM4:=zb (NodeAt.mono (A':=fun j=>w.heap.size≤j) hv fun j hj=>by omega)
   have HX4:=zb ((za HX3).trans hx)
   have HC4:=zb cx4
   clear hf hv hx cx4 hon4 HE3 HN3 HX3 HC3 hsz3 c0 c1 c2
   go_wp2_with fail
   have ha7:Add w4 (w4.alloc (.cells #[.pointer (some ⟨b4,0,none⟩)] 22)):=(Add.refl w4).alloc _
   refine(aj2 (k:=abc l S') ((za HX4).alloc _).size ((za HN4).keep (fun _ h=>h) (fun j _ hl=>ha7.block j hl) _ _) ((za HM4).keep (fun _ h=>h) (fun j _ hl=>ha7.block j hl) _ _) (aaq _ _)).mono ?_
   rintro e w8 ⟨n8,ks8,rfl,hn8,hu8,ha8⟩
   have hq8:=ha7.trans ha8
   have HN8:=zb hu8.node
   have HX8:=zb ((za HX4).trans (hq8.ext r))
   have cx8:=(za HC4).add hq8
   clear hu8 ha8 ha7 hq8 hn8 HN4 HM4 HX4 HC4
   obtain⟨c0,c1,c2⟩:=cx8.jc.cells h1 h6
   have HC8:=zb cx8
   clear cx8
   go_wp2_with fail
   refine(ah8 (za HC8) l).mono ?_
   rintro e w9 ⟨rfl,cx9,ha9⟩
   have HN9:=zb (NodeAt.keep (fun _ h=>h) (fun j _ hl=>ha9.block j hl) _ _ (za HN8))
   have HX9:=zb ((za HX8).trans (ha9.ext r))
   clear ha9 HN8 HX8 HC8 c0 c1 c2
   go_wp2_with fail
   go_roundg f
   case measure=>omega
   case rel=>exact⟨S4,n8,_,rfl,rfl,cx9,hd4,za HN9,za HX9,by omega,za HE4⟩
theorem auk {w:World} {r D:Nat} {S:LS} (cx:Cx w r S) (hD:S.dp=D) {l:Nat} (h1:1≤l) (h6:l≤6) (P:LS→Res Tree) (hg:Good P) (hpv:af2 r l=.func (.func 112) #[] #[.pointer (some ⟨abh r (l+1)+2,0,none⟩),.pointer (some ⟨abh r (l+1),0,none⟩),.pointer (some ⟨abh r (l+1)+1,0,none⟩)]) (hP:∀w S,Cx w r S→S.dp=D→Calls prog 112 #[.pointer (some ⟨abh r (l+1)+2,0,none⟩),.pointer (some ⟨abh r (l+1),0,none⟩),.pointer (some ⟨abh r (l+1)+1,0,none⟩)] w fun e w'=>Ret (P S) r (aaa w.heap.size) e w'∧Ext r w w') :
  Calls prog 112 #[.pointer (some ⟨abh r l+2,0,none⟩),.pointer (some ⟨abh r l,0,none⟩),.pointer (some ⟨abh r l+1,0,none⟩)] w fun e w'=>Ret (afj l P S) r (aaa w.heap.size) e w'∧Ext r w w':=by
 have hr0:=cx.jc.lt
 obtain⟨c0,c1,c2⟩:=cx.jc.cells h1 h6
 rw[hpv] at c0
 have HG:=zb hg
 have HP:=zb hP
 have HC0:=zb cx
 clear hg hP cx
 go_enter func112,ntmps112
 go_wp2_with fail
 refine Ret.call (za HP _ _ (za HC0) hD) ?_ ?_
 ·intro f wz hf hx
  exact⟨rfl,Ret.inl (zl hf),hx⟩
 intro t1 S1 v w1 hf hv cx1 hx1
 obtain⟨b1,rfl⟩:=z7 hv
 have hon1:=za HG _ _ _ (za HC0).ok hf
 have hd1:S1.dp=D:=hon1.same.dp.trans hD
 have HE1:Hid (afj l P S=acl l P 3002 t1 S1):=zn hf
 have HN1:=zb hv
 have HX1:=zb hx1
 clear hf hv hx1 hon1 c0 c1 c2 HC0
 obtain⟨c0,c1,c2⟩:=cx1.jc.cells h1 h6
 rw[hpv] at c0
 have HC1:=zb cx1
 clear cx1
 go_wp2_with fail
 refine(ah8 (za HC1) l).mono ?_
 rintro e w2 ⟨rfl,cx2,ha2⟩
 have HN2:=zb (NodeAt.keep (fun _ h=>h) (fun j _ hl=>ha2.block j hl) _ _ (za HN1))
 have HX2:=zb ((za HX1).trans (ha2.ext r))
 clear ha2 HN1 HX1 HC1 c0 c1 c2
 go_wp2_with fail
 go_loopg [4,5] 3002 (fun gg n k wr=>∃(S':LS) (b:Nat) (t:Tree),n=.pointer (some ⟨b,0,none⟩)∧k=.int .i64 (abc l S')∧Cx wr r S'∧S'.dp=D∧Hid (NodeAt (fun j=>w.heap.size≤j) wr (.pointer (some ⟨b,0,none⟩)) t)∧Hid (Ext r w wr)∧3002≤gg+S'.tp∧Hid (acl l P gg t S'=afj l P S))
 case atStart=>exact⟨S1,b1,t1,rfl,rfl,cx2,hd1,za HN2,za HX2,by omega,(za HE1).symm⟩
 case round =>
  clear cx2 hd1 HN2 HX2 HE1
  obtain⟨S',b,t,rfl,rfl,cx,hdp,HN,HX,hgg,HE⟩:=hrel
  have htp:S'.tp≤3000:=Nat.le_trans cx.ok.tp (Nat.le_trans cx.ok.fit.pl cx.ok.fit.size)
  obtain⟨f,hgf⟩:∃f,gk=f+1:=⟨gk-1,by omega⟩
  subst hgf
  by_cases hz:abc l S'=0
  ·have HE1:Hid (Sum.inr (t,S')=afj l P S):=by
    have:=za HE
    rw[acl,if_pos hz] at this
    exact this
   have b0:((abc l S':Int) !=0)=false:=by rw[bne_eq_false_iff_eq];omega
   clear hz HE
   go_wp2_with fail
   go_ret
   exact⟨Ret.inr (za HE1).symm (za HN) cx,za HX⟩
  ·have HE1:Hid ((bnd (zi S') fun _ S1=>bnd (P S1) fun u S2=>acl l P f (ac9 (abc l S') t [u]) S2)=afj l P S):=by
    have:=za HE
    rw[acl,if_neg hz] at this
    exact this
   have HK:=zb (af5 hz)
   have b0:((abc l S':Int) !=0)=true:=by rw[bne_iff_ne];omega
   obtain⟨c0,c1,c2⟩:=cx.jc.cells h1 h6
   rw[hpv] at c0
   have HC:=zb cx
   clear hz HE cx
   go_wp2_with fail
   refine Ret.call (agw (za HC)) ?_ ?_
   ·intro fl wz hf hx
    exact⟨rfl,Ret.inl ((za HE1).symm.trans (zl hf)),(za HX).trans hx⟩
   intro a3 S3 v w3 hf hv cx3 hx
   obtain rfl:v=S'.tok:=hv
   have hon3:=aan (za HC).ok (za HK) hf
   have hd3:S3.dp=D:=hon3.same.dp.trans hdp
   have htp3:=hon3.tp
   have HE3:=zb ((zn hf).symm.trans (za HE1))
   have HN3:=zb (NodeAt.ext (za HN) hx fun j hj=>by omega)
   have HX3:=zb ((za HX).trans hx)
   clear hf hx hon3 HE1 HN HX HC HK c0 c1 c2 hdp
   obtain⟨c0,c1,c2⟩:=cx3.jc.cells h1 h6
   rw[hpv] at c0
   have HC3:=zb cx3
   clear cx3
   go_wp2_with fail
   refine Ret.call (za HP _ _ (za HC3) hd3) ?_ ?_
   ·intro fl wz hf hx
    exact⟨rfl,Ret.inl ((za HE3).symm.trans (zl hf)),(za HX3).trans hx⟩
   intro u4 S4 v w4 hf hv cx4 hx
   obtain⟨b4,rfl⟩:=z7 hv
   have hon4:=za HG _ _ _ (za HC3).ok hf
   have hd4:S4.dp=D:=hon4.same.dp.trans hd3
   have htp4:=hon4.tp
   have HE4:=zb ((zn hf).symm.trans (za HE3))
   have HN4:=zb (NodeAt.ext (za HN3) hx fun j hj=>by omega)
   have hsz3:=(za HX3).size
   have HM4:=zb (NodeAt.mono (A':=fun j=>w.heap.size≤j) hv fun j hj=>by omega)
   have HX4:=zb ((za HX3).trans hx)
   have HC4:=zb cx4
   clear hf hv hx cx4 hon4 HE3 HN3 HX3 HC3 hsz3 c0 c1 c2
   go_wp2_with fail
   have ha7:Add w4 (w4.alloc (.cells #[.pointer (some ⟨b4,0,none⟩)] 22)):=(Add.refl w4).alloc _
   refine(aj2 (k:=abc l S') ((za HX4).alloc _).size ((za HN4).keep (fun _ h=>h) (fun j _ hl=>ha7.block j hl) _ _) ((za HM4).keep (fun _ h=>h) (fun j _ hl=>ha7.block j hl) _ _) (aaq _ _)).mono ?_
   rintro e w8 ⟨n8,ks8,rfl,hn8,hu8,ha8⟩
   have hq8:=ha7.trans ha8
   have HN8:=zb hu8.node
   have HX8:=zb ((za HX4).trans (hq8.ext r))
   have cx8:=(za HC4).add hq8
   clear hu8 ha8 ha7 hq8 hn8 HN4 HM4 HX4 HC4
   obtain⟨c0,c1,c2⟩:=cx8.jc.cells h1 h6
   have HC8:=zb cx8
   clear cx8
   go_wp2_with fail
   refine(ah8 (za HC8) l).mono ?_
   rintro e w9 ⟨rfl,cx9,ha9⟩
   have HN9:=zb (NodeAt.keep (fun _ h=>h) (fun j _ hl=>ha9.block j hl) _ _ (za HN8))
   have HX9:=zb ((za HX8).trans (ha9.ext r))
   clear ha9 HN8 HX8 HC8 c0 c1 c2
   go_wp2_with fail
   go_roundg f
   case measure=>omega
   case rel=>exact⟨S4,n8,_,rfl,rfl,cx9,hd4,za HN9,za HX9,by omega,za HE4⟩
theorem am7 {r D:Nat} {L:Low} (hL:LowC r D L):∀n:Nat,n<6→∀(w:World) (S:LS),Cx w r S→S.dp=D→Calls prog 112 #[.pointer (some ⟨abh r (6-n)+2,0,none⟩),.pointer (some ⟨abh r (6-n),0,none⟩),.pointer (some ⟨abh r (6-n)+1,0,none⟩)] w fun e w' =>
  Ret (jo (aae L) (n+1) S) r (aaa w.heap.size) e w'∧Ext r w w'
 | 0,_,_,_,cx,hd=>awn cx hd (by omega) (by omega) (aae L) (adz hL.good) (by rw[af2,if_pos rfl]) fun _ _ cx hd=>akl cx hd hL
 | n+1,h,_,_,cx,hd=>auk cx hd (by omega) (by omega) (jo (aae L) (n+1)) (aji (adz hL.good) (n+1)) (by rw[af2,if_neg (by omega)];rfl) fun w S cx hd=>by
   have:=am7 hL n (by omega) w S cx hd
   rw[show 6-(n+1)+1=6-n by omega]
   exact this
end
end Go.Proofs.YtndgajlidckcdaaGreatDoor
