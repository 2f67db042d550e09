/- A part. -/
import Derived.Test.YtndgajlidckcdaaGreatDoorM34
import Derived.Deep.RegionHeld
open Go.Proofs.Tryz
namespace Go.Proofs.YtndgajlidckcdaaGreatDoor
open Go.RowKit
set_option linter.unusedVariables false
set_option linter.unusedSimpArgs false
set_option maxRecDepth 100000
set_option maxHeartbeats 8000000
theorem ats {P:LS→Res Tree} {w:World} {pb m:Nat} {f:Int×Nat} (h:At w pb (.inl f)):Calls prog 167 #[.pointer (some ⟨pb,0,none⟩),.int .i64 (m:Int)] w fun e w'=>RN (run P (.inl f)) pb w e w':=by
 have hpl:=h.lt
 have hxa:=((Add.refl w).alloc (.cells #[.pointer (some ⟨pb,0,none⟩)] 70)).alloc (.cells #[.int .i64 (m:Int)] 3)
 have H0:=zb (h.add hxa)
 have HX0:=zb (hxa.ext pb)
 have HC0:Hid (CapD w.heap.size (w.heap.size+1) pb m ((w.alloc (.cells #[.pointer (some ⟨pb,0,none⟩)] 70)).alloc (.cells #[.int .i64 (m:Int)] 3))):=⟨⟨by omega,by simp;omega,zd ((aam _ _ (by simp)).trans (aaq _ _)) 0⟩,by omega,by simp,zd (aex _ _ (by simp)) 0⟩
 have c0:=(za HC0).p.cell
 clear h hxa
 go_enter func167,ntmps167
 go_wp2_with fail
 refine(aat (za H0)).mono ?_
 rintro e w1 ⟨rfl,rfl⟩
 dsimp only [okB]
 go_wp2_with fail
 go_ret
 exact⟨_,rfl,(za HX0).alloc _,(za H0).add ((Add.refl _).alloc _),fun a S e=>by cases e⟩
theorem aqz {w:World} {pb m:Nat} {S:LS} (h:At w pb (.inr S)) (hd:S.dp=m) (hm:m≤25) {L:Low} (hL:RLow m L) (hi:S.is aen=true):Calls prog 167 #[.pointer (some ⟨pb,0,none⟩),.int .i64 (m:Int)] w fun e w'=>RN (run (aae L) (.inr S)) pb w e w':=by
 have ho:S.is aff=false:=zh hi (by decide)
 have HK:=zb (aai hi)
 obtain⟨P,hgP,hN,hcall⟩:=hL.n
 have hpr:aae L S=aea L 40 S:=by
  rw[aae,if_neg (by rw[ho];decide),if_pos hi]
 have HS:=zb (show aae L S=bnd (zi S) fun _ S1=>bnd (abi P S1) fun t S2=>.inr (nd 40 S.tl [t],S2) by rw[hpr,aea,hN])
 have HCALL:=zb hcall
 have HDS:Hid (Dp m (.inr S)):=fun T e=>by cases e;exact hd
 have hwr:IntKind.i64.wrap ((m:Int)+1)=(m:Int)+1:=ac3 (by omega) (by omega)
 have hpl:=h.lt
 have hxa:=((Add.refl w).alloc (.cells #[.pointer (some ⟨pb,0,none⟩)] 70)).alloc (.cells #[.int .i64 (m:Int)] 3)
 have H0:=zb (h.add hxa)
 have HX0:=zb (hxa.ext pb)
 have HC0:Hid (CapD w.heap.size (w.heap.size+1) pb m ((w.alloc (.cells #[.pointer (some ⟨pb,0,none⟩)] 70)).alloc (.cells #[.int .i64 (m:Int)] 3))):=⟨⟨by omega,by simp;omega,zd ((aam _ _ (by simp)).trans (aaq _ _)) 0⟩,by omega,by simp,zd (aex _ _ (by simp)) 0⟩
 have c0:=(za HC0).p.cell
 have c1:=(za HC0).cell
 clear h hxa hpr hcall hN hd hL
 go_enter func167,ntmps167
 go_wp2_with fail
 refine(aat (za H0)).mono ?_
 rintro e w1 ⟨rfl,rfl⟩
 dsimp only [okB]
 go_wp2_with fail
 refine(abu (za H0) aen).mono ?_
 rintro e v1 ⟨rfl,ha⟩
 rw[show zq (.inr S) aen=true from hi]
 have hx:=ha.ext pb
 have h1:=(za H0).add ha
 clear ha
 have H1:=zb h1
 have HX1:=zb ((za HX0).trans hx)
 have HC1:=zb ((za HC0).ext hx)
 clear hx h1 c0 c1 HX0 HC0
 have c0:=(za HC1).p.cell
 have c1:=(za HC1).cell
 go_wp2_with fail
 refine(aav (za H1) 40).mono ?_
 rintro e v2 ⟨nb,ln,rfl,hnb,hsz,hb,ha,hln⟩
 obtain rfl:=hln S rfl
 have hwn:=(za HX1).size
 have hcn:=(za HC1).lt
 have HU2:Hid (Und (fun j=>w.heap.size≤j) v2 nb 40 zc zc 0 S.tl [] (.slice none 0 0) []):=⟨by omega,⟨_,hb⟩,Or.inl ⟨rfl,rfl⟩,rfl,fun i h=>absurd h (Nat.not_lt_zero i)⟩
 have hx:=ha.ext pb
 have h1:=(za H1).add ha
 clear ha hb hln hsz
 have H2:=zb h1
 have HX2:=zb ((za HX1).trans hx)
 have HC2:=zb ((za HC1).ext hx)
 clear hx h1 c0 c1 HX1 HC1
 have c0:=(za HC2).p.cell
 have c1:=(za HC2).cell
 go_wp2_with fail
 refine(abu (za H2) aff).mono ?_
 rintro e v3 ⟨rfl,ha⟩
 rw[show zq (.inr S) aff=false from ho]
 have hx:=ha.ext pb
 have h1:=(za H2).add ha
 clear ha
 have H3:=zb h1
 have HX3:=zb ((za HX2).trans hx)
 have HC3:=zb ((za HC2).ext hx)
 have HU3:=zb ((za HU2).ext hx fun j hj=>by omega)
 clear hx h1 c0 c1 HX2 HC2 HU2
 have c0:=(za HC3).p.cell
 have c1:=(za HC3).cell
 go_wp2_with fail
 have HD1:Hid (Dp m (zg (zi S))):=aa6 hi ▸ (za HDS).eat aen (za H3)
 refine(aeo (za H3) (za HK)).mono ?_
 rintro e v4 ⟨rfl,hx,h1⟩
 have H4:=zb h1
 have HX4:=zb ((za HX3).trans hx)
 have HC4:=zb ((za HC3).ext hx)
 have HU4:=zb ((za HU3).ext hx fun j hj=>by omega)
 clear hx h1 c0 c1 HX3 HC3 HU3
 have c0:=(za HC4).p.cell
 have c1:=(za HC4).cell
 go_wp2_with fail
 have hdp:=ad1 (za H4) (m+1)
 rw[show ((m+1:Nat):Int)=(m:Int)+1 from rfl] at hdp
 refine hdp.mono ?_
 rintro e v5 ⟨rfl,hx,h1⟩
 clear hdp
 have HX5:=zb ((za HX4).trans hx)
 have HC5:=zb ((za HC4).ext hx)
 have HU5:=zb ((za HU4).ext hx fun j hj=>by omega)
 clear hx c0 c1 HX4 HC4 HU4
 have c0:=(za HC5).p.cell
 have c1:=(za HC5).cell
 by_cases hdo:∃S1,zg (zi S)=.inr S1∧m<25
 ·obtain⟨S1,hS1,h25⟩:=hdo
  have hdd:acj (m+1) (.inr S1)=.inr S1:=by rw[acj,if_neg (by omega)]
  rw[hS1,hdd] at h1
  rw[hS1,hdd]
  dsimp only [okB]
  have hd1:S1.dp=m:=za HD1 S1 hS1
  have HA:=zb (h1.deep (m+1))
  have HDD:Hid (Dp (m+1) (.inr (S1.deep (m+1)))):=fun T e=>by cases e;rfl
  obtain⟨t0,hb⟩:=(za HU5).cells
  have hnj:=(gtE hb).1
  have hsz9:=(za HX5).size
  clear h1 hb hdd
  go_wp2_with fail
  refine(za HCALL _ pb _ (za HA) (za HDD) h25).mono ?_
  intro e v98 hrn
  obtain⟨kb,rfl,hx,h2,hv⟩:=RN.deep hd1 h25 hrn
  have HV:=zb hv
  have HX98:=zb ((za HX5).trans hx)
  have HU98:=zb ((za HU5).ext hx fun j hj=>by omega)
  have H98:=zb h2
  obtain⟨t9,hb9⟩:=(za HU98).cells
  have hb:=(aam v98 (.cells #[.pointer (some ⟨kb,0,none⟩)] 22) (gtE hb9).1).trans hb9
  have q5:(v98.alloc (.cells #[.pointer (some ⟨kb,0,none⟩)] 22)).cell? ⟨nb,5,none⟩=some (.slice none 0 0):=zd hb 5
  have gz:=zp hb
  have hs98:=hx.size
  clear hrn hx h2 hv hb hb9 c0 c1
  go_wp2_with fail
  go_ret
  have q:zg (zi S)=.inr S1:=hS1
  refine⟨nb,rfl,((za HX98).alloc _).setNew ⟨nb,5,none⟩ (show w.heap.size≤nb by omega) _,?_,?_⟩
  ·show At _ pb (zg (aae L S))
   rw[za HS,aaz (R:=abi P) fun _ _=>abw,q]
   exact((za H98).add ((Add.refl v98).alloc _)).putNew (by omega) 5 _
  ·intro a T e
   rw[show run (aae L) (.inr S)=aae L S from rfl,za HS] at e
   obtain⟨_,S2,e1,e⟩:=ze e
   obtain⟨t,S3,e2,e⟩:=ze e
   cases e
   have hSS:S2=S1:=by rw[e1] at q;exact Sum.inr.inj q
   subst hSS
   have hl2:=ago (lo:=v5.heap.size) (w:=v98) (by omega) (za HV t T e2)
   exact(((za HU98).ext ((Ext.refl pb v98).alloc _) fun j hj=>by omega).setKids hl2 hnj).node
 ·have hno:∀S1,zg (zi S)=.inr S1→¬m<25:=fun S1 e h=>hdo ⟨S1,e,h⟩
  obtain⟨r1,r2,r3⟩:=akb (P:=P) (za HD1) hno hm
  rw[r1]
  have HA:=zb h1
  have HR2:=zb r2
  have HR3:=zb r3
  clear h1 r1 r2 r3 hdo hno
  go_wp2_with fail
  go_ret
  refine⟨nb,rfl,za HX5,?_,?_⟩
  ·show At _ pb (zg (aae L S))
   rw[za HS,aaz (R:=abi P) fun _ _=>abw,za HR2]
   exact za HA
  ·intro a T e
   rw[show run (aae L) (.inr S)=aae L S from rfl,za HS] at e
   obtain⟨_,S2,e1,e⟩:=ze e
   obtain⟨t,S3,e2,e⟩:=ze e
   exact absurd (show run (abi P) (zg (zi S))=.inr (t,S3) by rw[e1];exact e2) (za HR3 t S3)
theorem au3 {w:World} {pb m:Nat} {S:LS} (h:At w pb (.inr S)) (hd:S.dp=m) (hm:m≤25) {L:Low} (hL:RLow m L) (hi:S.is aff=true):Calls prog 167 #[.pointer (some ⟨pb,0,none⟩),.int .i64 (m:Int)] w fun e w'=>RN (run (aae L) (.inr S)) pb w e w':=by
 have ho:S.is aen=false:=zh hi (by decide)
 have HK:=zb (aai hi)
 obtain⟨P,hgP,hN,hcall⟩:=hL.n
 have hpr:aae L S=aea L 41 S:=by
  rw[aae,if_pos hi]
 have HS:=zb (show aae L S=bnd (zi S) fun _ S1=>bnd (abi P S1) fun t S2=>.inr (nd 41 S.tl [t],S2) by rw[hpr,aea,hN])
 have HCALL:=zb hcall
 have HDS:Hid (Dp m (.inr S)):=fun T e=>by cases e;exact hd
 have hwr:IntKind.i64.wrap ((m:Int)+1)=(m:Int)+1:=ac3 (by omega) (by omega)
 have hpl:=h.lt
 have hxa:=((Add.refl w).alloc (.cells #[.pointer (some ⟨pb,0,none⟩)] 70)).alloc (.cells #[.int .i64 (m:Int)] 3)
 have H0:=zb (h.add hxa)
 have HX0:=zb (hxa.ext pb)
 have HC0:Hid (CapD w.heap.size (w.heap.size+1) pb m ((w.alloc (.cells #[.pointer (some ⟨pb,0,none⟩)] 70)).alloc (.cells #[.int .i64 (m:Int)] 3))):=⟨⟨by omega,by simp;omega,zd ((aam _ _ (by simp)).trans (aaq _ _)) 0⟩,by omega,by simp,zd (aex _ _ (by simp)) 0⟩
 have c0:=(za HC0).p.cell
 have c1:=(za HC0).cell
 clear h hxa hpr hcall hN hd hL
 go_enter func167,ntmps167
 go_wp2_with fail
 refine(aat (za H0)).mono ?_
 rintro e w1 ⟨rfl,rfl⟩
 dsimp only [okB]
 go_wp2_with fail
 refine(abu (za H0) aen).mono ?_
 rintro e v1 ⟨rfl,ha⟩
 rw[show zq (.inr S) aen=false from ho]
 have hx:=ha.ext pb
 have h1:=(za H0).add ha
 clear ha
 have H1:=zb h1
 have HX1:=zb ((za HX0).trans hx)
 have HC1:=zb ((za HC0).ext hx)
 clear hx h1 c0 c1 HX0 HC0
 have c0:=(za HC1).p.cell
 have c1:=(za HC1).cell
 go_wp2_with fail
 refine(abu (za H1) aff).mono ?_
 rintro e v2 ⟨rfl,ha⟩
 rw[show zq (.inr S) aff=true from hi]
 have hx:=ha.ext pb
 have h1:=(za H1).add ha
 clear ha
 have H2:=zb h1
 have HX2:=zb ((za HX1).trans hx)
 have HC2:=zb ((za HC1).ext hx)
 clear hx h1 c0 c1 HX1 HC1
 have c0:=(za HC2).p.cell
 have c1:=(za HC2).cell
 go_wp2_with fail
 refine(aav (za H2) 40).mono ?_
 rintro e v3 ⟨nb,ln,rfl,hnb,hsz,hb,ha,hln⟩
 obtain rfl:=hln S rfl
 have hwn:=(za HX2).size
 have hcn:=(za HC2).lt
 have HU3:Hid (Und (fun j=>w.heap.size≤j) v3 nb 40 zc zc 0 S.tl [] (.slice none 0 0) []):=⟨by omega,⟨_,hb⟩,Or.inl ⟨rfl,rfl⟩,rfl,fun i h=>absurd h (Nat.not_lt_zero i)⟩
 have hx:=ha.ext pb
 have h1:=(za H2).add ha
 clear ha hb hln hsz
 have H3:=zb h1
 have HX3:=zb ((za HX2).trans hx)
 have HC3:=zb ((za HC2).ext hx)
 clear hx h1 c0 c1 HX2 HC2
 have c0:=(za HC3).p.cell
 have c1:=(za HC3).cell
 go_wp2_with fail
 refine(abu (za H3) aff).mono ?_
 rintro e v4 ⟨rfl,ha⟩
 rw[show zq (.inr S) aff=true from hi]
 have hx:=ha.ext pb
 have h1:=(za H3).add ha
 clear ha
 have H4:=zb h1
 have HX4:=zb ((za HX3).trans hx)
 have HC4:=zb ((za HC3).ext hx)
 have HU4:=zb ((za HU3).ext hx fun j hj=>by omega)
 clear hx h1 c0 c1 HX3 HC3 HU3
 have c0:=(za HC4).p.cell
 have c1:=(za HC4).cell
 obtain⟨t0,hb⟩:=(za HU4).cells
 have q0:v4.cell? ⟨nb,0,none⟩=some (.int .i64 40):=zd hb 0
 have gz:=zp hb
 clear hb
 go_wp2_with fail
 have H5:Hid (At (v4.setCell ⟨nb,0,none⟩ (.int .i64 41)) pb (.inr S)):=(za H4).putNew (by omega) 0 _
 have HX5:Hid (Ext pb w (v4.setCell ⟨nb,0,none⟩ (.int .i64 41))):=(za HX4).setNew ⟨nb,0,none⟩ (show w.heap.size≤nb by omega) _
 have HC5:Hid (CapD w.heap.size (w.heap.size+1) pb m (v4.setCell ⟨nb,0,none⟩ (.int .i64 41))):=(za HC4).put (by omega) (by omega) 0 _
 have HU5:Hid (Und (fun j=>w.heap.size≤j) (v4.setCell ⟨nb,0,none⟩ (.int .i64 41)) nb 41 zc zc 0 S.tl [] (.slice none 0 0) []):=(za HU4).put 0 (.int .i64 41) (k':=41) rfl
 clear c0 c1 q0 gz H4 HX4 HC4 HU4
 generalize (v4.setCell ⟨nb,0,none⟩ (.int .i64 41))=v5 at *
 have c0:=(za HC5).p.cell
 have c1:=(za HC5).cell
 go_wp2_with fail
 have HD1:Hid (Dp m (zg (zi S))):=aa6 hi ▸ (za HDS).eat aff (za H5)
 refine(aeo (za H5) (za HK)).mono ?_
 rintro e v6 ⟨rfl,hx,h1⟩
 have H6:=zb h1
 have HX6:=zb ((za HX5).trans hx)
 have HC6:=zb ((za HC5).ext hx)
 have HU6:=zb ((za HU5).ext hx fun j hj=>by omega)
 clear hx h1 c0 c1 HX5 HC5 HU5
 have c0:=(za HC6).p.cell
 have c1:=(za HC6).cell
 go_wp2_with fail
 have hdp:=ad1 (za H6) (m+1)
 rw[show ((m+1:Nat):Int)=(m:Int)+1 from rfl] at hdp
 refine hdp.mono ?_
 rintro e v7 ⟨rfl,hx,h1⟩
 clear hdp
 have HX7:=zb ((za HX6).trans hx)
 have HC7:=zb ((za HC6).ext hx)
 have HU7:=zb ((za HU6).ext hx fun j hj=>by omega)
 clear hx c0 c1 HX6 HC6 HU6
 have c0:=(za HC7).p.cell
 have c1:=(za HC7).cell
 by_cases hdo:∃S1,zg (zi S)=.inr S1∧m<25
 ·obtain⟨S1,hS1,h25⟩:=hdo
  have hdd:acj (m+1) (.inr S1)=.inr S1:=by rw[acj,if_neg (by omega)]
  rw[hS1,hdd] at h1
  rw[hS1,hdd]
  dsimp only [okB]
  have hd1:S1.dp=m:=za HD1 S1 hS1
  have HA:=zb (h1.deep (m+1))
  have HDD:Hid (Dp (m+1) (.inr (S1.deep (m+1)))):=fun T e=>by cases e;rfl
  obtain⟨t0,hb⟩:=(za HU7).cells
  have hnj:=(gtE hb).1
  have hsz9:=(za HX7).size
  clear h1 hb hdd
  go_wp2_with fail
  refine(za HCALL _ pb _ (za HA) (za HDD) h25).mono ?_
  intro e v98 hrn
  obtain⟨kb,rfl,hx,h2,hv⟩:=RN.deep hd1 h25 hrn
  have HV:=zb hv
  have HX98:=zb ((za HX7).trans hx)
  have HU98:=zb ((za HU7).ext hx fun j hj=>by omega)
  have H98:=zb h2
  obtain⟨t9,hb9⟩:=(za HU98).cells
  have hb:=(aam v98 (.cells #[.pointer (some ⟨kb,0,none⟩)] 22) (gtE hb9).1).trans hb9
  have q5:(v98.alloc (.cells #[.pointer (some ⟨kb,0,none⟩)] 22)).cell? ⟨nb,5,none⟩=some (.slice none 0 0):=zd hb 5
  have gz:=zp hb
  have hs98:=hx.size
  clear hrn hx h2 hv hb hb9 c0 c1
  go_wp2_with fail
  go_ret
  have q:zg (zi S)=.inr S1:=hS1
  refine⟨nb,rfl,((za HX98).alloc _).setNew ⟨nb,5,none⟩ (show w.heap.size≤nb by omega) _,?_,?_⟩
  ·show At _ pb (zg (aae L S))
   rw[za HS,aaz (R:=abi P) fun _ _=>abw,q]
   exact((za H98).add ((Add.refl v98).alloc _)).putNew (by omega) 5 _
  ·intro a T e
   rw[show run (aae L) (.inr S)=aae L S from rfl,za HS] at e
   obtain⟨_,S2,e1,e⟩:=ze e
   obtain⟨t,S3,e2,e⟩:=ze e
   cases e
   have hSS:S2=S1:=by rw[e1] at q;exact Sum.inr.inj q
   subst hSS
   have hl2:=ago (lo:=v7.heap.size) (w:=v98) (by omega) (za HV t T e2)
   exact(((za HU98).ext ((Ext.refl pb v98).alloc _) fun j hj=>by omega).setKids hl2 hnj).node
 ·have hno:∀S1,zg (zi S)=.inr S1→¬m<25:=fun S1 e h=>hdo ⟨S1,e,h⟩
  obtain⟨r1,r2,r3⟩:=akb (P:=P) (za HD1) hno hm
  rw[r1]
  have HA:=zb h1
  have HR2:=zb r2
  have HR3:=zb r3
  clear h1 r1 r2 r3 hdo hno
  go_wp2_with fail
  go_ret
  refine⟨nb,rfl,za HX7,?_,?_⟩
  ·show At _ pb (zg (aae L S))
   rw[za HS,aaz (R:=abi P) fun _ _=>abw,za HR2]
   exact za HA
  ·intro a T e
   rw[show run (aae L) (.inr S)=aae L S from rfl,za HS] at e
   obtain⟨_,S2,e1,e⟩:=ze e
   obtain⟨t,S3,e2,e⟩:=ze e
   exact absurd (show run (abi P) (zg (zi S))=.inr (t,S3) by rw[e1];exact e2) (za HR3 t S3)
def att (L:Low) (m:Nat) (q:Res Tree) (pb:Nat) (w:World) (gg:Nat) (x:Value) (wr:World):Prop :=
 Ext pb w wr∧CapD w.heap.size (w.heap.size+1) pb m wr∧∃b,x=.pointer (some ⟨b,0,none⟩)∧((∃f,q=.inl f∧At wr pb (.inl f)) ∨
  ∃(S':LS) (t:Tree),At wr pb (.inr S')∧S'.dp=m∧NodeAt (fun j=>w.heap.size≤j) wr x t∧3002≤gg+S'.tp∧abd L gg t S'=q)
theorem axx {lo:Nat} {w:World} {b:Nat} {t:Tree} (hlo:lo≤w.heap.size) (h:NodeAt (fun j=>lo≤j) w (.pointer (some ⟨b,0,none⟩)) t):Und (fun j=>lo≤j) ((w.alloc (.cells #[.pointer (some ⟨b,0,none⟩)] 22)).alloc (.cells (adg 0 zc zc 0 t.line (.slice (some ⟨w.heap.size,0,none⟩) 1 1)) 78)) (w.heap.size+1) 0 zc zc 0 t.line [t] (.slice (some ⟨w.heap.size,0,none⟩) 1 1) [.pointer (some ⟨b,0,none⟩)]:=by
 have hl:=ago hlo h
 refine⟨by omega,⟨_,aex _ _ (by simp)⟩,?_,rfl,?_⟩
 ·exact Or.inr ⟨w.heap.size,1,_,rfl,⟨hlo,by omega⟩,(aam _ _ (by simp)).trans (aaq _ _),by simp,by unfold maxLen;omega,rfl,rfl⟩
 ·intro i hi
  have hk:=hl.kids i hi
  exact(hk.lt _ _).keep (fun j hj=>⟨hj.1.1,by have:=hj.2;simp at this;omega,hj.1.2⟩) (fun j hj hl2=>aam _ _ hl2) _ _
theorem bdi {L:Low} {f:Nat} {t:Tree} {S:LS} (h1:S.is ad6=false) (h2:S.is z8=false) (h3:S.is zt=false):abd L (f+1) t S=.inr (t,S):=by
 rw[abd,aab,if_neg (by rw[h1];decide),zn (a:=false) (S:=S) rfl,if_neg (by decide),aab,if_neg (by rw[h2];decide),zn (a:=false) (S:=S) rfl,if_neg (by decide),aab,if_neg (by rw[h3];decide)]
 rfl
theorem bdj {L:Low} {f:Nat} {t:Tree} {S:LS} (h2:S.is z8=true):abd L (f+1) t S=bnd (zi S) fun _ S2=>bnd (L.V S2) fun u S3=>bnd (zj ack S3) fun _ S4=>abd L f (ac9 44 t [u]) S4:=by
 rw[abd,aab,if_neg (by rw[zh h2 (by decide)];decide),zn (a:=false) (S:=S) rfl,if_neg (by decide),aab,if_pos h2]
 cases zi S <;> rfl
theorem bdk {L:Low} {f:Nat} {t:Tree} {S:LS} (h3:S.is zt=true):abd L (f+1) t S=bnd (ad2 L S) fun us S4=>abd L f (ac9 45 t us) S4:=by
 rw[abd,aab,if_neg (by rw[zh h3 (by decide)];decide),zn (a:=false) (S:=S) rfl,if_neg (by decide),aab,if_neg (by rw[zh h3 (by decide)];decide),zn (a:=false) (S:=S) rfl,if_neg (by decide),aab,if_pos h3,ad2,zj,if_pos h3]
 cases zi S <;> rfl
theorem avx {L:Low} {f:Nat} {t:Tree} {S:LS} (h1:S.is ad6=true):abd L (f+1) t S=bnd (zi S) fun _ S1=>bnd (adk L t S1) fun u S2=>abd L f u S2:=by
 rw[abd,aab,if_pos h1]
 cases zi S <;> rfl
theorem bat {L:Low} {t:Tree} {S S1:LS} {s:ByteArray} (h:z6 S=.inr (s,S1)) (h1:S1.is zt=false):adk L t S=.inr (ndT 42 s t.line [t],S1):=by
 rw[adk,zn h,aab,if_neg (by rw[h1];decide)]
 rfl
theorem axy {L:Low} {t:Tree} {S S1:LS} {s:ByteArray} (h:z6 S=.inr (s,S1)) (h1:S1.is zt=true):adk L t S=bnd (ad2 L S1) fun us S3=>.inr (ndT 43 s t.line (t :: us),S3):=by
 rw[adk,zn h,aab,if_pos h1,ad2,zj,if_pos h1]
 cases zi S1 <;> rfl
theorem axz {lo:Nat} {w0 w wa w6:World} {pb b k:Nat} (k':Nat) {s:St} {tx un:ByteArray} {n:Int} {ln:Nat} {ts:List Tree} {ks:Value} {vs:List Value} (hlo0:lo=w0.heap.size) (hu:Und (fun j=>lo≤j) w b k tx un n ln ts ks vs) (hua:Und (fun j=>lo≤j) wa b k tx un n ln ts ks vs)
  (hr:pb<lo) (h:At wa pb s) (hx0:Ext pb w0 wa) {xs:List Value} {g cap:Nat}
  (hown:w6.ownsRow 0 22 1 (.slice (some ⟨g,0,none⟩) (vs.length+xs.length) cap) (vs.length+xs.length) (vs++xs))
  (hg:wa.grownBy w6 ks.ownBlock) (hat:ks.ownBlock=some g∨g=wa.heap.size) :
  w6.cell? ⟨b,5,none⟩=some ks∧w6.frozen? ⟨b,5,none⟩=false∧w6.cell? ⟨b,0,none⟩=some (.int .i64 k)∧w6.frozen? ⟨b,0,none⟩=false ∧
  Hid (∀us,xs.length=us.length→(∀(i:Nat) (h:i<us.length),NodeAt (fun j=>w.heap.size≤j) wa (xs.getD i undef) us[i])→Und (fun j=>lo≤j) ((w6.setCell ⟨b,0,none⟩ (.int .i64 k')).setCell ⟨b,5,none⟩ (.slice (some ⟨g,0,none⟩) (vs.length+xs.length) cap)) b k' tx un n ln (ts++us) (.slice (some ⟨g,0,none⟩) (vs.length+xs.length) cap) (vs++xs)) ∧
  Hid (Ext pb w0 ((w6.setCell ⟨b,0,none⟩ (.int .i64 k')).setCell ⟨b,5,none⟩ (.slice (some ⟨g,0,none⟩) (vs.length+xs.length) cap)))∧Hid (At ((w6.setCell ⟨b,0,none⟩ (.int .i64 k')).setCell ⟨b,5,none⟩ (.slice (some ⟨g,0,none⟩) (vs.length+xs.length) cap)) pb s):=by
 obtain⟨t0,hb⟩:=hu.cells
 obtain⟨t2,hb2⟩:=hua.cells
 have hbw:=(gtE hb).1
 have hb2w:=(gtE hb2).1
 have hblo:lo≤b:=hu.at'
 have hpw:=h.lt
 have hkw:∀j,ks.ownBlock=some j→j<w.heap.size∧lo≤j∧j≠b:=by
  intro j hj
  rcases hu.row with ⟨rfl,_⟩ | ⟨g',cap',cur,rfl,hg',h3,_⟩
  ·simp[Value.ownBlock] at hj
  ·simp only[Value.ownBlock,Option.some.injEq] at hj
   subst hj
   exact⟨(gtE h3).1,hg'.1,hg'.2⟩
 have hbk:some b≠ks.ownBlock:=fun e=>(hkw b e.symm).2.2 rfl
 have hsz:lo≤wa.heap.size:=by rw[hlo0];exact hx0.size
 have hb3:w6.heap[b]?=some (.cells (adg k tx un n ln ks) t2 (0,0)):=(hg.block b hb2w hbk).trans hb2
 have hx3:Ext pb w0 w6:=ae3 hx0 hg fun j hj=>by have:=(hkw j hj).2.1;omega
 have hx3':Ext pb w0 ((w6.setCell ⟨b,0,none⟩ (.int .i64 k')).setCell ⟨b,5,none⟩ (.slice (some ⟨g,0,none⟩) (vs.length+xs.length) cap)):=(hx3.setNew ⟨b,0,none⟩ (by show w0.heap.size≤b;omega) _).setNew ⟨b,5,none⟩ (by show w0.heap.size≤b;omega) _
 have hat6:At w6 pb s:=h.keep fun j hj=>hg.block j (by omega) fun e=>by have:=(hkw j e.symm).2.1;omega
 refine⟨zd hb3 5,zp hb3 5,zd hb3 0,zp hb3 0,?_,hx3',(hat6.putNew (by omega) _ _).putNew (by omega) _ _⟩
 intro us hxl hxs
 refine hua.moreL hxl (fun i h=>?_) hown hg hat hsz ⟨t2,by rw[hset (hset hb3 _) _];rfl⟩ fun j hj=>(aaf _ hj).trans (aaf _ hj)
 refine(hxs i h).mono fun j hj=>⟨by omega,by omega,fun e=>?_⟩
 have:=(hkw j e.symm).1
 omega
theorem CapD.keep2 {c d pb n:Nat} {w w3:World} (h:CapD c d pb n w) (e1:w3.heap[c]?=w.heap[c]?) (e2:w3.heap[d]?=w.heap[d]?):CapD c d pb n w3:=by
 have hl:=h.p.lt
 have hl2:=h.lt
 refine⟨⟨h.p.ne,(gtE (e1.trans (Array.getElem?_eq_getElem hl))).1,?_⟩,h.ne,(gtE (e2.trans (Array.getElem?_eq_getElem hl2))).1,?_⟩
 ·rw[←h.p.cell];unfold World.cell?;rw[e1]
 ·rw[←h.cell];unfold World.cell?;rw[e2]
theorem CapD.grown {c d pb n:Nat} {w w3:World} {o:Obj} {row:Option Nat} (h:CapD c d pb n w) (hg:(w.alloc o).grownBy w3 row) (h1:row≠some c) (h2:row≠some d):CapD c d pb n w3:=by
 have hl:=h.p.lt
 have hl2:=h.lt
 exact h.keep2 ((hg.block c (by simp;omega) (fun e=>h1 e.symm)).trans (aam _ _ hl)) ((hg.block d (by simp;omega) (fun e=>h2 e.symm)).trans (aam _ _ hl2))
theorem CapD.grown2 {c d pb n:Nat} {w w3:World} {row:Option Nat} (h:CapD c d pb n w) (hg:w.grownBy w3 row) (h1:row≠some c) (h2:row≠some d):CapD c d pb n w3 :=
 h.keep2 (hg.block c h.p.lt (fun e=>h1 e.symm)) (hg.block d h.lt (fun e=>h2 e.symm))
theorem au4 {L:Low} {S:LS} {y:Tree×LS} (h:zr L S=.inr y):ab5 L S=abd L 3002 y.1 y.2:=zn (k:=fun t S1=>abd L 3002 t S1) (show zr L S=.inr (y.1,y.2) from h)
theorem atu (w:World) (b o:Nat):w.setCells b o []=w:=by simp[World.setCells]
theorem an6 {w:World} {B:Nat} {t ty e:TypeId} {i:TypeInfo} (ht:prog.underlying t=some (.slice e)) (hi:prog.info? e=some i) {v:Value} {n:Nat} {xs:List Value} {k:Nat} (h:w.ownsRow B e k v n xs) (s:Option Addr) (c:Nat) :
  (Builtin.append_ #[t,t] ty #[v,.slice s 0 c]).run prog w=.ok v w:=by
 rcases h.2 with ⟨rfl,rfl⟩ | ⟨g,cap,cur,rfl,h2,h3,h4,h5,h6,h7⟩
 ·cases s with
  | none=>simp[Builtin.append_,run_underlying ht,sizeOf,typeInfo,hi,Builtin.lenOf,Builtin.firstCells]
  | some a=>simp[Builtin.append_,run_underlying ht,sizeOf,typeInfo,hi,Builtin.lenOf,Builtin.firstCells,loadCells,loadCellsFrom]
 ·cases s with
  | none=>simp[Builtin.append_,run_underlying ht,sizeOf,typeInfo,hi,Builtin.lenOf,Builtin.firstCells,h4,storeCells]
  | some a =>
   rw[run_append_room_cells w t ty e i ht hi g 0 n cap a 0 c [] (by simp) (fun j u hu=>by simp at hu) (fun u hu=>by simp at hu) (by omega) (fun j hj=>by simp at hj) (fun j hj=>by simp at hj),atu]
   rfl
theorem apa {A:Nat→Prop} {w:World} (ty:TypeId) {v v2:Value} {n:Nat} {xs vs:List Value} (hown:w.ownsRow 0 22 1 v n xs) (hn:0<n) (hr:Row A w v2 vs) (h1:Ones vs) (hb:n+vs.length≤1000) :
  ∃g cap w',(Builtin.append_ #[51,51] ty #[v,v2]).run prog w=.ok (.slice (some ⟨g,0,none⟩) (n+vs.length) cap) w'∧w'.ownsRow 0 22 1 (.slice (some ⟨g,0,none⟩) (n+vs.length) cap) (n+vs.length) (xs++vs)∧w.grownBy w' v.ownBlock∧(v.ownBlock=some g∨g=w.heap.size):=by
 obtain⟨i0,hi0,hz0,hz1,hz2⟩:=info_parts zz
 by_cases hv:vs=[]
 ·subst hv
  obtain⟨g,cap,rfl,_,_⟩:=hown.form hn
  have hq:∃q c,v2=.slice q 0 c:=by
   rcases hr with ⟨rfl,_⟩ | ⟨g',cap',cur,rfl,_⟩
   ·exact⟨_,_,rfl⟩
   ·exact⟨_,_,rfl⟩
  obtain⟨q,c,rfl⟩:=hq
  refine⟨g,cap,w,an6 underlying51 hi0 hown q c,?_,World.grownBy.refl _ _,Or.inl rfl⟩
  rw[List.append_nil]
  exact hown
 ·rcases hr with ⟨_,e⟩ | ⟨g',cap',cur,rfl,_,hc,hle,hcm,hcs,hct⟩
  ·exact absurd e hv
  ·have hpos:0<vs.length:=List.length_pos_iff.2 hv
   obtain⟨g,cap,w',hr,h2,h3,h4,_⟩:=run_append_lies (P:=prog) w 51 ty 0 22 i0 (.pointer none) 1 8 underlying51 hi0 hz0 hz1 hz2 rfl (by decide) v n xs hown ⟨g',0,none⟩ vs.length cap' vs (by simp) (fun j u hu=>World.news_of_block hc j u (by
    have hj:j<vs.length:=(List.getElem?_eq_some_iff.1 hu).1
    rw[←hu,←hct,List.getElem?_take]
    simp[hj])) h1 hpos (by unfold maxLen;omega) (by omega) (Nat.zero_le _) _ rfl
   exact⟨g,cap,w',hr,h2,h3,h4⟩
theorem ai4 {w:World} {ops:Array Oper} {o:Oper} {a:Act} {K:Act→World→Prop} {Q:Exit→Act→World→Prop} {E:Prop} (hgd:o.guard=none) (s x:Operand)
  (ho:o.op=.call { callee:=.builtin .append,args:=#[s,x],argTypes:=#[51,51] })
  {A:Nat→Prop} (v v2:Value) (n:Nat) (xs vs:List Value) (hs:a.eval s=v) (hx:a.eval x=v2) (hown:w.ownsRow 0 22 1 v n xs) (hn:0<n) (hr:Row A w v2 vs) (h1:Ones vs) (hb:n+vs.length≤1000)
  (h:∀g cap w',w'.ownsRow 0 22 1 (.slice (some ⟨g,0,none⟩) (n+vs.length) cap) (n+vs.length) (xs++vs)→w.grownBy w' v.ownBlock→(v.ownBlock=some g∨g=w.heap.size)→K (a.put o.dst (.slice (some ⟨g,0,none⟩) (n+vs.length) cap)) w') :
  if Region.wanted o (yielded ops a.tmps)=true then Oper.wp prog o a w K Q else E:=by
 have hw:Region.wanted o (yielded ops a.tmps)=true:=by simp[Region.wanted,hgd]
 rw[if_pos hw]
 obtain⟨g,cap,w',hr,h2,h3,h4⟩:=apa o.type hown hn hr h1 hb
 unfold Oper.wp execOp
 simp only[ho,resolve,invoke,builtin,Sem.run_bind,Sem.run_pure,Result.andThen_ok,List.map_toArray,List.map_cons,List.map_nil,hs,hx,hr]
 exact h g cap w' h2 h3 h4
theorem Row.same {A B:Nat→Prop} {w:World} {v:Value} {vs us:List Value} (h:Row A w v vs) (k:Row B w v us):vs=us:=by
 rcases h with ⟨rfl,rfl⟩ | ⟨g,cap,cur,rfl,_,hc,hle,_,_,ht⟩
 ·rcases k with ⟨_,rfl⟩ | ⟨g',cap',cur',e,_⟩
  ·rfl
  ·cases e
 ·rcases k with ⟨e,_⟩ | ⟨g',cap',cur',e,_,hc',hle',_,_,ht'⟩
  ·cases e
  ·injection e with e1 e2 e3
   injection e1 with e1
   injection e1 with e1
   subst e1
   rw[hc] at hc'
   injection hc' with hc'
   injection hc' with hc'
   subst hc'
   rw[←ht,←ht',e2]
theorem an7 {lo:Nat} {w0 v w2 w3:World} {pb nb k:Nat} (k':Nat) {q:Res (List Tree)} {tx:ByteArray} {ln:Nat} {ts:List Tree} {ks:Value} {vs:List Value} (hlo0:lo=w0.heap.size) (hu:Und (fun j=>lo≤j) v nb k tx zc 0 ln ts ks vs) (hu2:Und (fun j=>lo≤j) w2 nb k tx zc 0 ln ts ks vs)
  (hr:pb<lo) (h2:At w2 pb (zg q)) (hx0:Ext pb w0 w2) {va:Value} {xs:List Value} (hrow:Row (fun j=>v.heap.size≤j) w2 va xs) (hv:∀a S,q=.inr (a,S)→aq0 v.heap.size a va w2) {g cap:Nat}
  (hown:w3.ownsRow 0 22 1 (.slice (some ⟨g,0,none⟩) (vs.length+xs.length) cap) (vs.length+xs.length) (vs++xs))
  (hg:w2.grownBy w3 ks.ownBlock) (hat:ks.ownBlock=some g∨g=w2.heap.size) :
  w3.cell? ⟨nb,5,none⟩=some ks∧w3.frozen? ⟨nb,5,none⟩=false∧w3.cell? ⟨nb,0,none⟩=some (.int .i64 k)∧w3.frozen? ⟨nb,0,none⟩=false ∧
  Hid (∀us S,q=.inr (us,S)→Und (fun j=>lo≤j) ((w3.setCell ⟨nb,0,none⟩ (.int .i64 k')).setCell ⟨nb,5,none⟩ (.slice (some ⟨g,0,none⟩) (vs.length+xs.length) cap)) nb k' tx zc 0 ln (ts++us) (.slice (some ⟨g,0,none⟩) (vs.length+xs.length) cap) (vs++xs)) ∧
  Hid (Ext pb w0 ((w3.setCell ⟨nb,0,none⟩ (.int .i64 k')).setCell ⟨nb,5,none⟩ (.slice (some ⟨g,0,none⟩) (vs.length+xs.length) cap)))∧Hid (At ((w3.setCell ⟨nb,0,none⟩ (.int .i64 k')).setCell ⟨nb,5,none⟩ (.slice (some ⟨g,0,none⟩) (vs.length+xs.length) cap)) pb (zg q)):=by
 obtain⟨a5,f5,a0,f0,hU,hX,hA⟩:=axz k' hlo0 hu hu2 hr h2 hx0 hown hg hat
 refine⟨a5,f5,a0,f0,?_,hX,hA⟩
 intro us S e
 obtain⟨ws,hl,_⟩:=hv us S e
 have hs:xs=ws:=hrow.same hl.row
 subst hs
 exact za hU us hl.len fun i h=>(hl.kids i h).mono fun j hj=>hj.1
theorem an8 {lo:Nat} {w2 w3:World} {b k:Nat} {tx un:ByteArray} {n:Int} {ln:Nat} {ts:List Tree} {ks:Value} {vs:List Value} (hu2:Und (fun j=>lo≤j) w2 b k tx un n ln ts ks vs) (hg:w2.grownBy w3 ks.ownBlock):∃t,w3.heap[b]?=some (.cells (adg k tx un n ln ks) t (0,0)):=by
 obtain⟨t2,hb2⟩:=hu2.cells
 have hb2w:=(gtE hb2).1
 have hbk:some b≠ks.ownBlock:=by
  rcases hu2.row with ⟨rfl,_⟩ | ⟨g',cap',cur,rfl,hg',h3,_⟩
  ·simp[Value.ownBlock]
  ·intro e
   simp only[Value.ownBlock,Option.some.injEq] at e
   exact hg'.2 e.symm
 exact⟨t2,by rw[hg.block b hb2w hbk];exact hb2⟩
section
open Go Go.RowKit
section
variable {P:Program} {ops:Array Oper} {Q:Exit→Act→World→Prop} {md:Region.Mode} {S:World→Prop} {c:Nat}
def afd (P:Program) (md:Region.Mode) (ops:Array Oper) (Q:Exit→Act→World→Prop) (S:World→Prop) (c:Nat):Nat→Array Bool→Act→World→Prop
 | 0,l,a,w=>Region.ready md ops l=[]∧Q .normal a w
 | n+1,l,a,w=>(Region.ready md ops l=[]→Q .normal a w)∧∀j,j∈Region.ready md ops l→wpOp P ops Q j (fun a' w'=>((l.setIfInBounds j true).getD c true=false→S w')∧afd P md ops Q S c n (l.setIfInBounds j true) a' w') a w
theorem ap9:∀(n:Nat) {l:Array Bool} {a:Act} {w:World},afd P md ops Q S c n l a w→wpAny P md ops Q n l a w
 | 0,_,_,_,h=>h
 | n+1,_,_,_,h=>⟨h.1,fun j hj=>wpOp_mono (fun _ _ k=>ap9 n k.2) (h.2 j hj)⟩
def ali (md:Region.Mode) (ops:Array Oper) (l:Array Bool) (i:Nat) (cs:List Nat):Bool :=
 cs.all fun c=>!(l.getD c true)&&!(c==i)&&(match ops[c]? with | some o=>o.after.any fun e=>Region.binds md e&&(e.on==i||cs.contains e.on) | none=>false)
theorem akc {l:Array Bool} {i:Nat} {cs:List Nat} (h:ali md ops l i cs=true) {k:Nat} (hk:k∈cs):l.getD k true=false∧k≠i∧∃o,ops[k]?=some o∧∃e∈o.after,Region.binds md e=true∧(e.on=i∨e.on∈cs):=by
 have:=List.all_eq_true.1 h k hk
 simp only[Bool.and_eq_true,Bool.not_eq_true',beq_eq_false_iff_ne,ne_eq] at this
 obtain⟨⟨h1,h2⟩,h3⟩:=this
 refine⟨h1,h2,?_⟩
 cases ho:ops[k]? with
 | none=>rw[ho] at h3;cases h3
 | some o =>
  rw[ho] at h3
  obtain⟨e,he,hq⟩:=Array.any_eq_true'.1 h3
  simp only[Bool.and_eq_true,Bool.or_eq_true,beq_iff_eq,List.contains_iff_mem] at hq
  exact⟨o,rfl,e,he,hq.1,hq.2⟩
theorem af4 {l:Array Bool} {k:Nat} (h:l.getD k true=false):l.getD k false=false:=by
 rcases Nat.lt_or_ge k l.size with h' | h'
 ·simp[h'] at h ⊢;exact h
 ·simp[Array.getElem?_eq_none h'] at h
theorem ax0 {l:Array Bool} {i j:Nat} {cs:List Nat} (h:ali md ops l i cs=true) (hi:l.getD i true=false) (hj:j∈Region.ready md ops l):j ∉ cs:=by
 intro hm
 obtain⟨_,_,o,ho,e,he,hb,hor⟩:=akc h hm
 obtain⟨_,o',ho',hall⟩:=mem_ready.1 hj
 rw[ho] at ho'
 cases ho'
 have h1:=hall e he hb
 rcases hor with q | q
 ·rw[q,af4 hi] at h1;cases h1
 ·rw[af4 (akc h q).1] at h1;cases h1
theorem bau {l:Array Bool} {i j:Nat} {cs:List Nat} (h:ali md ops l i cs=true) (hj:j ∉ cs):ali md ops (l.setIfInBounds j true) i cs=true:=by
 apply List.all_eq_true.2
 intro k hk
 have:=List.all_eq_true.1 h k hk
 rw[getD_set_ne true (show j≠k from fun e=>hj (by rw[e];exact hk))]
 exact this
theorem au5 {i:Nat} {oi:Oper} {v:Value} {cs:List Nat} (hi:ops[i]?=some oi) (hsel:∀(j:Nat) (o:Oper) ks b,ops[j]?=some o→o.op≠.select ks b) (hc:c∈cs)
  (hQ:∀p a w,Q (.panic p) (a.put oi.dst v) w→Q (.panic p) a w):∀(n:Nat) {l:Array Bool} {a:Act} {w:World},
   (∀j oj,ops[j]?=some oj→j≠i→l.getD j true=false→(∀e∈oj.after,Region.binds md e=true→e.on≠i)→oi.apart ops oj=true) →
   ali md ops l i cs=true→i∈Region.ready md ops l→YieldsIf P ops S oi v a→S w →
   afd P md ops Q S c n (l.setIfInBounds i true) (a.put oi.dst v) w→afd P md ops Q S c (n+1) l a w:=by
 intro n
 induction n with
 | zero =>
  intro l a w _ hw hr hy hS H
  refine⟨fun h0=>(by rw[h0] at hr;cases hr),fun j hj=>?_⟩
  by_cases e:j=i
  ·subst e;exact hy.wpOp hi hS ⟨fun _=>hS,H⟩
  ·have:=ready_mono hj e
   rw[H.1] at this
   cases this
 | succ n ih =>
  intro l a w hfree hw hr hy hS H
  refine⟨fun h0=>(by rw[h0] at hr;cases hr),fun j hj=>?_⟩
  by_cases e:j=i
  ·subst e;exact hy.wpOp hi hS ⟨fun _=>hS,H⟩
  ·have hil:=(mem_ready.1 hr).1
   have hjc:=ax0 hw hil hj
   have h1:=H.2 j (ready_mono hj e)
   obtain⟨hjun,oj,hoj,hall⟩:=mem_ready.1 hj
   have hnot:∀e∈oj.after,Region.binds md e=true→e.on≠i:=fun e he hb heq=>by
    have q:=hall e he hb
    rw[heq,af4 hil] at q
    cases q
   have h2:=wpOp_putIf hoj (hfree j oj hoj e hjun hnot) (fun ks b=>hsel i oi ks b hi) (fun ks b=>hsel j oj ks b hoj) hQ hy h1
   have hfree':∀k ok,ops[k]?=some ok→k≠i→(l.setIfInBounds j true).getD k true=false→(∀e∈ok.after,Region.binds md e=true→e.on≠i)→oi.apart ops ok=true:=fun k ok hk hki hun hno=>by
    refine hfree k ok hk hki ?_ hno
    by_cases q:j=k
    ·subst q;exact hjun
    ·rw[getD_set_ne true q] at hun;exact hun
   have hcj:j≠c:=fun q=>hjc (q ▸ hc)
   have hci:i≠c:=fun q=>(akc hw hc).2.1 q.symm
   have hcf:(((l.setIfInBounds i true).setIfInBounds j true).getD c true)=false:=by
    rw[getD_set_ne true hcj,getD_set_ne true hci]
    exact(akc hw hc).1
   refine wpOp_mono (fun a' w' h3=>⟨fun _=>h3.2.1 hcf,ih hfree' (bau hw hjc) (ready_mono hr (Ne.symm e)) h3.1 (h3.2.1 hcf) ?_⟩) h2
   rw[Array.setIfInBounds_comm _ _ e]
   exact h3.2.2
theorem afx {i:Nat} {oi:Oper} {v:Value} {cs:List Nat} {n:Nat} {l:Array Bool} {a:Act} {w:World} (hi:ops[i]?=some oi) (hs:Region.noSelect ops=true) (hf:Region.free md ops l i=true) (hr:(Region.ready md ops l).contains i=true)
  (hc:cs.contains c=true) (hw:ali md ops l i cs=true) (hQ:∀p a w,Q (.panic p) (a.put oi.dst v) w→Q (.panic p) a w) (hy:YieldsIf P ops S oi v a) (hS:S w)
  (h:afd P md ops Q S c n (l.setIfInBounds i true) (a.put oi.dst v) w):afd P md ops Q S c (n+1) l a w :=
 au5 hi (Region.noSelect_spec hs) (by simpa using hc) hQ n (Region.free_spec hi hf) hw (by simpa using hr) hy hS h
theorem ax1 {i:Nat} {oi:Oper} {v:Value} (hi:ops[i]?=some oi) (hsel:∀(j:Nat) (o:Oper) ks b,ops[j]?=some o→o.op≠.select ks b) (hic:i≠c)
  (hQ:∀p a w,Q (.panic p) (a.put oi.dst v) w→Q (.panic p) a w):∀(n:Nat) {l:Array Bool} {a:Act} {w:World},
   (∀j oj,ops[j]?=some oj→j≠i→l.getD j true=false→(∀e∈oj.after,Region.binds md e=true→e.on≠i)→oi.apart ops oj=true) →
   i∈Region.ready md ops l→YieldsIf P ops (fun _=>True) oi v a→(l.getD c true=false→S w) →
   afd P md ops Q S c n (l.setIfInBounds i true) (a.put oi.dst v) w→afd P md ops Q S c (n+1) l a w:=by
 intro n
 induction n with
 | zero =>
  intro l a w _ hr hy hS H
  refine⟨fun h0=>(by rw[h0] at hr;cases hr),fun j hj=>?_⟩
  by_cases e:j=i
  ·subst e;exact hy.wpOp hi trivial ⟨fun q=>hS (by rw[getD_set_ne true hic] at q;exact q),H⟩
  ·have:=ready_mono hj e
   rw[H.1] at this
   cases this
 | succ n ih =>
  intro l a w hfree hr hy hS H
  refine⟨fun h0=>(by rw[h0] at hr;cases hr),fun j hj=>?_⟩
  by_cases e:j=i
  ·subst e;exact hy.wpOp hi trivial ⟨fun q=>hS (by rw[getD_set_ne true hic] at q;exact q),H⟩
  ·have hil:=(mem_ready.1 hr).1
   have h1:=H.2 j (ready_mono hj e)
   obtain⟨hjun,oj,hoj,hall⟩:=mem_ready.1 hj
   have hnot:∀e∈oj.after,Region.binds md e=true→e.on≠i:=fun e he hb heq=>by
    have q:=hall e he hb
    rw[heq,af4 hil] at q
    cases q
   have h2:=wpOp_putIf hoj (hfree j oj hoj e hjun hnot) (fun ks b=>hsel i oi ks b hi) (fun ks b=>hsel j oj ks b hoj) hQ hy h1
   have hfree':∀k ok,ops[k]?=some ok→k≠i→(l.setIfInBounds j true).getD k true=false→(∀e∈ok.after,Region.binds md e=true→e.on≠i)→oi.apart ops ok=true:=fun k ok hk hki hun hno=>by
    refine hfree k ok hk hki ?_ hno
    by_cases q:j=k
    ·subst q;exact hjun
    ·rw[getD_set_ne true q] at hun;exact hun
   have hcf:(((l.setIfInBounds i true).setIfInBounds j true).getD c true)=((l.setIfInBounds j true).getD c true):=by
    rw[Array.setIfInBounds_comm _ _ (Ne.symm e),getD_set_ne true hic]
   refine wpOp_mono (fun a' w' h3=>⟨fun q=>h3.2.1 (hcf.trans q),ih hfree' (ready_mono hr (Ne.symm e)) h3.1 (fun q=>h3.2.1 (hcf.trans q)) ?_⟩) h2
   rw[Array.setIfInBounds_comm _ _ e]
   exact h3.2.2
theorem ax2 {i:Nat} {oi:Oper} {v:Value} {n:Nat} {l:Array Bool} {a:Act} {w:World} (hi:ops[i]?=some oi) (hs:Region.noSelect ops=true) (hf:Region.free md ops l i=true) (hr:(Region.ready md ops l).contains i=true)
  (hic:(i==c)=false) (hQ:∀p a w,Q (.panic p) (a.put oi.dst v) w→Q (.panic p) a w) (hy:YieldsIf P ops (fun _=>True) oi v a) (hS:S w)
  (h:afd P md ops Q S c n (l.setIfInBounds i true) (a.put oi.dst v) w):afd P md ops Q S c (n+1) l a w :=
 ax1 hi (Region.noSelect_spec hs) (by simpa using hic) hQ n (Region.free_spec hi hf) (by simpa using hr) hy (fun _=>hS) h
theorem ahd {o:Oper} {a:Act} {w:World} {K:Act→World→Prop} {E:Prop} (hgd:o.guard=none) {F:FuncId} {args:Array Value} (hrun:(execOp a.eval o).run P w=.ok (.enter F args) w)
  (hc:Calls P F args w fun
   | .returned v,w''=>K (a.put o.dst v) w''
   | .panicked chain,w''=>Q (.panic chain) a w''
   | .outgrown,_=>LetsOut Q):if Region.wanted o (yielded ops a.tmps)=true then Oper.wp P o a w K Q else E:=by
 rw[if_pos (show Region.wanted o (yielded ops a.tmps)=true by simp[Region.wanted,hgd])]
 unfold Oper.wp
 rw[hrun]
 exact hc
theorem ac4 {i:Nat} {o:Oper} {n:Nat} {l:Array Bool} {a:Act} {w:World} (hr:Region.ready md ops l=[i]) (ho:ops[i]?=some o)
  (h:∀K:Act→World→Prop,Go.Shut (∀a w,S w→(S w→afd P md ops Q S c n (l.setIfInBounds i true) a w)→K a w)→if Region.wanted o (yielded ops a.tmps)=true then Oper.wp P o a w K Q else K (a.put o.dst undef) w):afd P md ops Q S c (n+1) l a w:=by
 refine⟨fun h0=>(by rw[hr] at h0;cases h0),fun j hj=>?_⟩
 rw[hr] at hj
 obtain rfl:=List.mem_singleton.1 hj
 exact wpOp_step ho (fun K hK=>h K (fun a w hS hW=>hK a w ⟨fun _=>hS,hW hS⟩))
theorem bav {n:Nat} {l:Array Bool} {a:Act} {w:World} (hl:l.getD c true=true):wpAny P md ops Q n l a w→afd P md ops Q S c n l a w:=by
 induction n generalizing l a w with
 | zero=>exact id
 | succ n ih =>
  intro h
  refine⟨h.1,fun j hj=>wpOp_mono (fun a' w' k=>?_) (h.2 j hj)⟩
  have hl':(l.setIfInBounds j true).getD c true=true:=by
   by_cases q:j=c
   ·subst q
    rcases Nat.lt_or_ge j l.size with h' | h'
    ·simp[h']
    ·simp
   ·rw[getD_set_ne true q];exact hl
  exact⟨fun e=>by (rw[hl'] at e;cases e),ih hl' k⟩
theorem ajn {o:Oper} {n:Nat} {l:Array Bool} {a:Act} {w:World} (hr:Region.ready md ops l=[c]) (ho:ops[c]?=some o)
  (h:∀K:Act→World→Prop,Go.Shut (∀a w,wpAny P md ops Q n (l.setIfInBounds c true) a w→K a w)→if Region.wanted o (yielded ops a.tmps)=true then Oper.wp P o a w K Q else K (a.put o.dst undef) w):afd P md ops Q S c (n+1) l a w:=by
 refine⟨fun h0=>(by rw[hr] at h0;cases h0),fun j hj=>?_⟩
 rw[hr] at hj
 obtain rfl:=List.mem_singleton.1 hj
 have hl:(l.setIfInBounds j true).getD j true=true:=by
  rcases Nat.lt_or_ge j l.size with h' | h'
  ·simp[h']
  ·simp
 exact wpOp_step ho (fun K hK=>h K (fun a w hW=>hK a w ⟨fun e=>by (rw[hl] at e;cases e),bav hl hW⟩))
theorem ags {id:Nat} {a:Act} {w:World} (c:Nat) (hm:P.follows .mixedOrders=true) (hS:S w.drew)
  (h:S w.drew→afd P .any ops Q S c ops.size (Array.replicate ops.size false) a w.drew):(Code.region id ops true).wp P Q a w :=
 wp_region_any hm (ap9 _ (h hS))
end
end
end Go.Proofs.YtndgajlidckcdaaGreatDoor
