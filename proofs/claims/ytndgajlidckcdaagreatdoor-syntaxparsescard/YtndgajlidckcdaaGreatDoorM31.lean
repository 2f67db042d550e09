/- A part. -/
import Derived.Test.YtndgajlidckcdaaGreatDoorM30
open Go.Proofs.Tryz
namespace Go.Proofs.YtndgajlidckcdaaGreatDoor
open Go.RowKit
set_option linter.unusedVariables false
set_option linter.unusedSimpArgs false
set_option maxRecDepth 100000
set_option maxHeartbeats 8000000
theorem atm {w:World} {pb n c d:Nat} {S:LS} (h:At w pb (.inr S)) (hd:S.dp=n) (hn:n≤25) {L:Low} (hL:RLow n L) (hc:CapD c d pb n w) (hcl:Clean S) (hi:S.is aca=true):Calls prog 208 #[.pointer (some ⟨pb,0,none⟩),.int .i64 (n:Int),.func (.func 206) #[] #[.pointer (some ⟨c,0,none⟩),.pointer (some ⟨d,0,none⟩)]] w fun e w'=>RN (run (zr L) (.inr S)) pb w e w':=by
 have hk:=(ae8 hi).1
 obtain⟨k,hk12,ht⟩:=aev hk
 have b1:((k:Int)==110)=false:=by rcases hk12 with rfl | rfl <;> rfl
 have b2:((k:Int)==105)=false:=by rcases hk12 with rfl | rfl <;> rfl
 have b3:((k:Int)==115)=false:=by rcases hk12 with rfl | rfl <;> rfl
 clear hk12
 have fwTrue:S.is aaw=false:=zh hi (by decide)
 have fwFalse:S.is aar=false:=zh hi (by decide)
 have fwNil:S.is ab6=false:=zh hi (by decide)
 have fwThis:S.is abn=false:=zh hi (by decide)
 have fwNew:S.is ab7=false:=zh hi (by decide)
 have fwSuper:S.is aa8=false:=zh hi (by decide)
 have ftSquare:S.is z8=false:=zh hi (by decide)
 have fwFn:S.is wFn=false:=zh hi (by decide)
 have HS:=zb (show zr L S=bnd (zi S) fun _ S1=>bnd (zj zt S1) fun _ S2=>bnd (zj abj S2) fun _ S3=>.inr (nd 29 S.tl [],S3) by rw[adu hk,show aas S=0 by rw[aas,if_neg (show ¬S.is aaw=true by rw[zh hi (show (aca.data.toList==aaw.data.toList)=false by decide)];decide),if_neg (show ¬S.is aar=true by rw[zh hi (show (aca.data.toList==aar.data.toList)=false by decide)];decide),if_neg (show ¬S.is ab6=true by rw[zh hi (show (aca.data.toList==ab6.data.toList)=false by decide)];decide),if_neg (show ¬S.is abn=true by rw[zh hi (show (aca.data.toList==abn.data.toList)=false by decide)];decide)],if_pos rfl,abm,if_neg (show ¬S.is zt=true by rw[zh hi (show (aca.data.toList==zt.data.toList)=false by decide)];decide),if_neg (show ¬S.is z8=true by rw[zh hi (show (aca.data.toList==z8.data.toList)=false by decide)];decide),if_neg (show ¬S.is wFn=true by rw[zh hi (show (aca.data.toList==wFn.data.toList)=false by decide)];decide),if_neg (show ¬S.is ab7=true by rw[zh hi (show (aca.data.toList==ab7.data.toList)=false by decide)];decide),if_neg (show ¬S.is aa8=true by rw[zh hi (show (aca.data.toList==aa8.data.toList)=false by decide)];decide),if_pos hi])
 clear hcl
 have hpl:=h.lt
 have HK:=zb hk
 clear hk
 have hcw:=hc.p.lt
 have hdw:=hc.lt
 have hent:=qJ c d
 have HD:Hid (Dp n (.inr S)):=fun T e=>by cases e;exact hd
 have HL:=zb hL
 have hxa:=qK w pb n
 have H0:=zb (h.add hxa)
 have HX0:=zb (hxa.ext pb)
 have HE0:=zb (hc.ext (hxa.ext pb))
 have HC0:=qH w pb n
 clear h hd hL hc hxa
 go_enter func208,ntmps208
 go_wp2_with fail
 refine(aav (za H0) 0).mono ?_
 rintro e w1 ⟨nb,ln,rfl,hnb,hsz,hb,ha,hln⟩
 obtain rfl:=hln S rfl
 have H1:=zb ((za H0).add ha)
 have HX1:=zb ((za HX0).trans (ha.ext pb))
 have HC1:=zb ((za HC0).ext (ha.ext pb))
 have HE1:=zb ((za HE0).ext (ha.ext pb))
 have hnb':w.heap.size+1<nb:=Nat.lt_of_lt_of_le (by simp) hnb
 have HU1:Hid (Und (fun j=>w.heap.size≤j) w1 nb 0 zc zc 0 S.tl [] (.slice none 0 0) []):=⟨by omega,⟨_,hb⟩,Or.inl ⟨rfl,rfl⟩,rfl,fun i h=>absurd h (Nat.not_lt_zero i)⟩
 have c0:=(za HC1).p.cell
 clear ha hb hln hsz hnb H0 HX0 HC0 HE0
 go_wp2_with fail
 refine(abg (za H1)).mono ?_
 rintro e w2 ⟨x,rfl,ha,hx⟩
 obtain rfl:=(hx S rfl).trans ht
 have hxt:=ha.alloc (.cells #[.int .u8 (k:Int),.string S.mrk,.int .i64 0,.int .i64 (S.tp:Int),.int .i64 (S.tl:Int)] 75)
 have H2:=zb ((za H1).add hxt)
 have HX2:=zb ((za HX1).trans (hxt.ext pb))
 have HC2:=zb ((za HC1).ext (hxt.ext pb))
 have HE2:=zb ((za HE1).ext (hxt.ext pb))
 have HU2:=zb ((za HU1).ext (hxt.ext pb) fun j hj=>by omega)
 have ht2:=aaq w2 (.cells #[.int .u8 (k:Int),.string S.mrk,.int .i64 0,.int .i64 (S.tp:Int),.int .i64 (S.tl:Int)] 75)
 clear ha hx hxt H1 HX1 HC1 HE1 HU1 c0 ht
 unfold acx
 dsimp only
 have d0:=zd ht2 0
 simp only[List.getElem?_toArray,List.getElem?_cons_zero,List.getElem?_cons_succ] at d0
 have c0:=(za HC2).p.cell
 have c1:=(za HC2).cell
 clear ht2
 go_wp2_with fail
 refine(zk (za H2) aaw).mono ?_
 rintro e v3 ⟨rfl,hx,h1⟩
 rw[show zq (.inr S) aaw=false from fwTrue]
 rw[zw fwTrue] at h1
 have H3:=zb h1
 have HX3:=zb ((za HX2).trans hx)
 have HC3:=zb ((za HC2).ext hx)
 have HE3:=zb ((za HE2).ext hx)
 have HU3:=zb ((za HU2).ext hx fun j hj=>by omega)
 clear hx h1 c0 c1 HX2 HC2 HE2 HU2
 have c0:=(za HC3).p.cell
 have c1:=(za HC3).cell
 go_wp2_with fail
 clear d0
 refine(zk (za H3) aar).mono ?_
 rintro e v4 ⟨rfl,hx,h1⟩
 rw[show zq (.inr S) aar=false from fwFalse]
 rw[zw fwFalse] at h1
 have H4:=zb h1
 have HX4:=zb ((za HX3).trans hx)
 have HC4:=zb ((za HC3).ext hx)
 have HE4:=zb ((za HE3).ext hx)
 have HU4:=zb ((za HU3).ext hx fun j hj=>by omega)
 clear hx h1 c0 c1 HX3 HC3 HE3 HU3
 have c0:=(za HC4).p.cell
 have c1:=(za HC4).cell
 go_wp2_with fail
 refine(zk (za H4) ab6).mono ?_
 rintro e v5 ⟨rfl,hx,h1⟩
 rw[show zq (.inr S) ab6=false from fwNil]
 rw[zw fwNil] at h1
 have H5:=zb h1
 have HX5:=zb ((za HX4).trans hx)
 have HC5:=zb ((za HC4).ext hx)
 have HE5:=zb ((za HE4).ext hx)
 have HU5:=zb ((za HU4).ext hx fun j hj=>by omega)
 clear hx h1 c0 c1 HX4 HC4 HE4 HU4
 have c0:=(za HC5).p.cell
 have c1:=(za HC5).cell
 go_wp2_with fail
 refine(zk (za H5) abn).mono ?_
 rintro e v6 ⟨rfl,hx,h1⟩
 rw[show zq (.inr S) abn=false from fwThis]
 rw[zw fwThis] at h1
 have H6:=zb h1
 have HX6:=zb ((za HX5).trans hx)
 have HC6:=zb ((za HC5).ext hx)
 have HE6:=zb ((za HE5).ext hx)
 have HU6:=zb ((za HU5).ext hx fun j hj=>by omega)
 clear hx h1 c0 c1 HX5 HC5 HE5 HU5
 have c0:=(za HC6).p.cell
 have c1:=(za HC6).cell
 go_wp2_with fail
 refine(zk (za H6) ab7).mono ?_
 rintro e v7 ⟨rfl,hx,h1⟩
 rw[show zq (.inr S) ab7=false from fwNew]
 rw[zw fwNew] at h1
 have H7:=zb h1
 have HX7:=zb ((za HX6).trans hx)
 have HC7:=zb ((za HC6).ext hx)
 have HE7:=zb ((za HE6).ext hx)
 have HU7:=zb ((za HU6).ext hx fun j hj=>by omega)
 clear hx h1 c0 c1 HX6 HC6 HE6 HU6
 have c0:=(za HC7).p.cell
 have c1:=(za HC7).cell
 go_wp2_with fail
 refine(zk (za H7) aa8).mono ?_
 rintro e v8 ⟨rfl,hx,h1⟩
 rw[show zq (.inr S) aa8=false from fwSuper]
 rw[zw fwSuper] at h1
 have H8:=zb h1
 have HX8:=zb ((za HX7).trans hx)
 have HC8:=zb ((za HC7).ext hx)
 have HE8:=zb ((za HE7).ext hx)
 have HU8:=zb ((za HU7).ext hx fun j hj=>by omega)
 clear hx h1 c0 c1 HX7 HC7 HE7 HU7
 have c0:=(za HC8).p.cell
 have c1:=(za HC8).cell
 go_wp2_with fail
 refine(zk (za H8) z8).mono ?_
 rintro e v9 ⟨rfl,hx,h1⟩
 rw[show zq (.inr S) z8=false from ftSquare]
 rw[zw ftSquare] at h1
 have H9:=zb h1
 have HX9:=zb ((za HX8).trans hx)
 have HC9:=zb ((za HC8).ext hx)
 have HE9:=zb ((za HE8).ext hx)
 have HU9:=zb ((za HU8).ext hx fun j hj=>by omega)
 clear hx h1 c0 c1 HX8 HC8 HE8 HU8
 have c0:=(za HC9).p.cell
 have c1:=(za HC9).cell
 go_wp2_with fail
 refine(zk (za H9) wFn).mono ?_
 rintro e v10 ⟨rfl,hx,h1⟩
 rw[show zq (.inr S) wFn=false from fwFn]
 rw[zw fwFn] at h1
 have H10:=zb h1
 have HX10:=zb ((za HX9).trans hx)
 have HC10:=zb ((za HC9).ext hx)
 have HE10:=zb ((za HE9).ext hx)
 have HU10:=zb ((za HU9).ext hx fun j hj=>by omega)
 clear hx h1 c0 c1 HX9 HC9 HE9 HU9
 have c0:=(za HC10).p.cell
 have c1:=(za HC10).cell
 go_wp2_with fail
 refine(zk (za H10) aca).mono ?_
 rintro e v11 ⟨rfl,hx,h1⟩
 rw[show zq (.inr S) aca=true from hi]
 rw[aa6 hi] at h1
 have H11:=zb h1
 have HX11:=zb ((za HX10).trans hx)
 have HC11:=zb ((za HC10).ext hx)
 have HE11:=zb ((za HE10).ext hx)
 have HU11:=zb ((za HU10).ext hx fun j hj=>by omega)
 clear hx h1 c0 c1 HX10 HC10 HE10 HU10
 have c0:=(za HC11).p.cell
 have c1:=(za HC11).cell
 obtain⟨t0,hb⟩:=(za HU11).cells
 have q0:v11.cell? ⟨nb,0,none⟩=some (.int .i64 0):=zd hb 0
 have gz:=zp hb
 have hnv:=(gtE hb).1
 clear hb
 go_wp2_with fail
 have H12:Hid (At (v11.setCell ⟨nb,0,none⟩ (.int .i64 29)) pb (zg (zi S))):=(za H11).putNew (by omega) 0 _
 have HX12:Hid (Ext pb w (v11.setCell ⟨nb,0,none⟩ (.int .i64 29))):=(za HX11).setNew ⟨nb,0,none⟩ (show w.heap.size≤nb by omega) _
 have HC12:Hid (CapD w.heap.size (w.heap.size+1) pb n (v11.setCell ⟨nb,0,none⟩ (.int .i64 29))):=(za HC11).put (by omega) (by omega) 0 _
 have HU12:Hid (Und (fun j=>w.heap.size≤j) (v11.setCell ⟨nb,0,none⟩ (.int .i64 29)) nb 29 zc zc 0 S.tl [] (.slice none 0 0) []):=(za HU11).put 0 (.int .i64 29) (k':=29) rfl
 clear c0 c1 q0 gz hnv HE11 HX11 HC11 HU11 H11
 generalize (v11.setCell ⟨nb,0,none⟩ (.int .i64 29))=v12 at *
 have c0:=(za HC12).p.cell
 refine(aa1 (za H12) zt).mono ?_
 rintro e v13 ⟨rfl,hx,h1⟩
 have H13:=zb h1
 have HX13:=zb ((za HX12).trans hx)
 have HC13:=zb ((za HC12).ext hx)
 have HU13:=zb ((za HU12).ext hx fun j hj=>by omega)
 clear hx h1 c0
 have c0:=(za HC13).p.cell
 go_wp2_with fail
 refine(aa1 (za H13) abj).mono ?_
 rintro e v14 ⟨rfl,hx,h1⟩
 have H14:=zb h1
 have HX14:=zb ((za HX13).trans hx)
 have HU14:=zb ((za HU13).ext hx fun j hj=>by omega)
 clear hx h1 c0
 go_wp2_with fail
 go_ret
 refine⟨nb,rfl,za HX14,?_,?_⟩
 ·show At _ pb (zg (zr L S))
  rw[za HS,aaz (R:=fun S1=>bnd (zj zt S1) fun _ S2=>bnd (zj abj S2) fun _ S3=>.inr (nd 29 S.tl [],S3)) fun _ _=>rfl,bdc (f:=fun _=>nd 29 S.tl [])]
  exact za H14
 ·intro a T e
  rw[show run (zr L) (.inr S)=zr L S from rfl,za HS] at e
  obtain⟨_,_,_,e⟩:=ze e
  obtain⟨_,_,_,e⟩:=ze e
  obtain⟨_,_,_,e⟩:=ze e
  cases e
  exact(za HU14).node
theorem atn {w:World} {pb n c d:Nat} {S:LS} (h:At w pb (.inr S)) (hd:S.dp=n) (hn:n≤25) {L:Low} (hL:RLow n L) (hc:CapD c d pb n w) (hcl:Clean S) (hi:S.is zt=true):Calls prog 208 #[.pointer (some ⟨pb,0,none⟩),.int .i64 (n:Int),.func (.func 206) #[] #[.pointer (some ⟨c,0,none⟩),.pointer (some ⟨d,0,none⟩)]] w fun e w'=>RN (run (zr L) (.inr S)) pb w e w':=by
 have hk:=(ae8 hi).1
 obtain⟨k,hk12,ht⟩:=aev hk
 have b1:((k:Int)==110)=false:=by rcases hk12 with rfl | rfl <;> rfl
 have b2:((k:Int)==105)=false:=by rcases hk12 with rfl | rfl <;> rfl
 have b3:((k:Int)==115)=false:=by rcases hk12 with rfl | rfl <;> rfl
 clear hk12
 have fwTrue:S.is aaw=false:=zh hi (by decide)
 have fwFalse:S.is aar=false:=zh hi (by decide)
 have fwNil:S.is ab6=false:=zh hi (by decide)
 have fwThis:S.is abn=false:=zh hi (by decide)
 have fwNew:S.is ab7=false:=zh hi (by decide)
 have fwSuper:S.is aa8=false:=zh hi (by decide)
 have ftSquare:S.is z8=false:=zh hi (by decide)
 have fwFn:S.is wFn=false:=zh hi (by decide)
 have fwInput:S.is aca=false:=zh hi (by decide)
 have fwLen:S.is aed=false:=zh hi (by decide)
 have HS:=zb (show zr L S=aa7 L S by rw[adu hk,show aas S=0 by rw[aas,if_neg (show ¬S.is aaw=true by rw[zh hi (show (zt.data.toList==aaw.data.toList)=false by decide)];decide),if_neg (show ¬S.is aar=true by rw[zh hi (show (zt.data.toList==aar.data.toList)=false by decide)];decide),if_neg (show ¬S.is ab6=true by rw[zh hi (show (zt.data.toList==ab6.data.toList)=false by decide)];decide),if_neg (show ¬S.is abn=true by rw[zh hi (show (zt.data.toList==abn.data.toList)=false by decide)];decide)],if_pos rfl,abm,if_pos hi])
 clear hcl
 have hpl:=h.lt
 have HK:=zb hk
 clear hk
 have hcw:=hc.p.lt
 have hdw:=hc.lt
 have hent:=qJ c d
 have HD:Hid (Dp n (.inr S)):=fun T e=>by cases e;exact hd
 have HL:=zb hL
 have hxa:=qK w pb n
 have H0:=zb (h.add hxa)
 have HX0:=zb (hxa.ext pb)
 have HE0:=zb (hc.ext (hxa.ext pb))
 have HC0:=qH w pb n
 clear h hd hL hc hxa
 go_enter func208,ntmps208
 go_wp2_with fail
 refine(aav (za H0) 0).mono ?_
 rintro e w1 ⟨nb,ln,rfl,hnb,hsz,hb,ha,hln⟩
 obtain rfl:=hln S rfl
 have H1:=zb ((za H0).add ha)
 have HX1:=zb ((za HX0).trans (ha.ext pb))
 have HC1:=zb ((za HC0).ext (ha.ext pb))
 have HE1:=zb ((za HE0).ext (ha.ext pb))
 have hnb':w.heap.size+1<nb:=Nat.lt_of_lt_of_le (by simp) hnb
 have HU1:Hid (Und (fun j=>w.heap.size≤j) w1 nb 0 zc zc 0 S.tl [] (.slice none 0 0) []):=⟨by omega,⟨_,hb⟩,Or.inl ⟨rfl,rfl⟩,rfl,fun i h=>absurd h (Nat.not_lt_zero i)⟩
 have c0:=(za HC1).p.cell
 clear ha hb hln hsz hnb H0 HX0 HC0 HE0
 go_wp2_with fail
 refine(abg (za H1)).mono ?_
 rintro e w2 ⟨x,rfl,ha,hx⟩
 obtain rfl:=(hx S rfl).trans ht
 have hxt:=ha.alloc (.cells #[.int .u8 (k:Int),.string S.mrk,.int .i64 0,.int .i64 (S.tp:Int),.int .i64 (S.tl:Int)] 75)
 have H2:=zb ((za H1).add hxt)
 have HX2:=zb ((za HX1).trans (hxt.ext pb))
 have HC2:=zb ((za HC1).ext (hxt.ext pb))
 have HE2:=zb ((za HE1).ext (hxt.ext pb))
 have HU2:=zb ((za HU1).ext (hxt.ext pb) fun j hj=>by omega)
 have ht2:=aaq w2 (.cells #[.int .u8 (k:Int),.string S.mrk,.int .i64 0,.int .i64 (S.tp:Int),.int .i64 (S.tl:Int)] 75)
 clear ha hx hxt H1 HX1 HC1 HE1 HU1 c0 ht
 unfold acx
 dsimp only
 have d0:=zd ht2 0
 simp only[List.getElem?_toArray,List.getElem?_cons_zero,List.getElem?_cons_succ] at d0
 have c0:=(za HC2).p.cell
 have c1:=(za HC2).cell
 clear ht2
 go_wp2_with fail
 refine(zk (za H2) aaw).mono ?_
 rintro e v3 ⟨rfl,hx,h1⟩
 rw[show zq (.inr S) aaw=false from fwTrue]
 rw[zw fwTrue] at h1
 have H3:=zb h1
 have HX3:=zb ((za HX2).trans hx)
 have HC3:=zb ((za HC2).ext hx)
 have HE3:=zb ((za HE2).ext hx)
 have HU3:=zb ((za HU2).ext hx fun j hj=>by omega)
 clear hx h1 c0 c1 HX2 HC2 HE2 HU2
 have c0:=(za HC3).p.cell
 have c1:=(za HC3).cell
 go_wp2_with fail
 clear d0
 refine(zk (za H3) aar).mono ?_
 rintro e v4 ⟨rfl,hx,h1⟩
 rw[show zq (.inr S) aar=false from fwFalse]
 rw[zw fwFalse] at h1
 have H4:=zb h1
 have HX4:=zb ((za HX3).trans hx)
 have HC4:=zb ((za HC3).ext hx)
 have HE4:=zb ((za HE3).ext hx)
 have HU4:=zb ((za HU3).ext hx fun j hj=>by omega)
 clear hx h1 c0 c1 HX3 HC3 HE3 HU3
 have c0:=(za HC4).p.cell
 have c1:=(za HC4).cell
 go_wp2_with fail
 refine(zk (za H4) ab6).mono ?_
 rintro e v5 ⟨rfl,hx,h1⟩
 rw[show zq (.inr S) ab6=false from fwNil]
 rw[zw fwNil] at h1
 have H5:=zb h1
 have HX5:=zb ((za HX4).trans hx)
 have HC5:=zb ((za HC4).ext hx)
 have HE5:=zb ((za HE4).ext hx)
 have HU5:=zb ((za HU4).ext hx fun j hj=>by omega)
 clear hx h1 c0 c1 HX4 HC4 HE4 HU4
 have c0:=(za HC5).p.cell
 have c1:=(za HC5).cell
 go_wp2_with fail
 refine(zk (za H5) abn).mono ?_
 rintro e v6 ⟨rfl,hx,h1⟩
 rw[show zq (.inr S) abn=false from fwThis]
 rw[zw fwThis] at h1
 have H6:=zb h1
 have HX6:=zb ((za HX5).trans hx)
 have HC6:=zb ((za HC5).ext hx)
 have HE6:=zb ((za HE5).ext hx)
 have HU6:=zb ((za HU5).ext hx fun j hj=>by omega)
 clear hx h1 c0 c1 HX5 HC5 HE5 HU5
 have c0:=(za HC6).p.cell
 have c1:=(za HC6).cell
 go_wp2_with fail
 refine(zk (za H6) ab7).mono ?_
 rintro e v7 ⟨rfl,hx,h1⟩
 rw[show zq (.inr S) ab7=false from fwNew]
 rw[zw fwNew] at h1
 have H7:=zb h1
 have HX7:=zb ((za HX6).trans hx)
 have HC7:=zb ((za HC6).ext hx)
 have HE7:=zb ((za HE6).ext hx)
 have HU7:=zb ((za HU6).ext hx fun j hj=>by omega)
 clear hx h1 c0 c1 HX6 HC6 HE6 HU6
 have c0:=(za HC7).p.cell
 have c1:=(za HC7).cell
 go_wp2_with fail
 refine(zk (za H7) aa8).mono ?_
 rintro e v8 ⟨rfl,hx,h1⟩
 rw[show zq (.inr S) aa8=false from fwSuper]
 rw[zw fwSuper] at h1
 have H8:=zb h1
 have HX8:=zb ((za HX7).trans hx)
 have HC8:=zb ((za HC7).ext hx)
 have HE8:=zb ((za HE7).ext hx)
 have HU8:=zb ((za HU7).ext hx fun j hj=>by omega)
 clear hx h1 c0 c1 HX7 HC7 HE7 HU7
 have c0:=(za HC8).p.cell
 have c1:=(za HC8).cell
 go_wp2_with fail
 refine(zk (za H8) z8).mono ?_
 rintro e v9 ⟨rfl,hx,h1⟩
 rw[show zq (.inr S) z8=false from ftSquare]
 rw[zw ftSquare] at h1
 have H9:=zb h1
 have HX9:=zb ((za HX8).trans hx)
 have HC9:=zb ((za HC8).ext hx)
 have HE9:=zb ((za HE8).ext hx)
 have HU9:=zb ((za HU8).ext hx fun j hj=>by omega)
 clear hx h1 c0 c1 HX8 HC8 HE8 HU8
 have c0:=(za HC9).p.cell
 have c1:=(za HC9).cell
 go_wp2_with fail
 refine(zk (za H9) wFn).mono ?_
 rintro e v10 ⟨rfl,hx,h1⟩
 rw[show zq (.inr S) wFn=false from fwFn]
 rw[zw fwFn] at h1
 have H10:=zb h1
 have HX10:=zb ((za HX9).trans hx)
 have HC10:=zb ((za HC9).ext hx)
 have HE10:=zb ((za HE9).ext hx)
 have HU10:=zb ((za HU9).ext hx fun j hj=>by omega)
 clear hx h1 c0 c1 HX9 HC9 HE9 HU9
 have c0:=(za HC10).p.cell
 have c1:=(za HC10).cell
 go_wp2_with fail
 refine(zk (za H10) aca).mono ?_
 rintro e v11 ⟨rfl,hx,h1⟩
 rw[show zq (.inr S) aca=false from fwInput]
 rw[zw fwInput] at h1
 have H11:=zb h1
 have HX11:=zb ((za HX10).trans hx)
 have HC11:=zb ((za HC10).ext hx)
 have HE11:=zb ((za HE10).ext hx)
 have HU11:=zb ((za HU10).ext hx fun j hj=>by omega)
 clear hx h1 c0 c1 HX10 HC10 HE10 HU10
 have c0:=(za HC11).p.cell
 have c1:=(za HC11).cell
 go_wp2_with fail
 refine(zk (za H11) aed).mono ?_
 rintro e v12 ⟨rfl,hx,h1⟩
 rw[show zq (.inr S) aed=false from fwLen]
 rw[zw fwLen] at h1
 have H12:=zb h1
 have HX12:=zb ((za HX11).trans hx)
 have HC12:=zb ((za HC11).ext hx)
 have HE12:=zb ((za HE11).ext hx)
 have HU12:=zb ((za HU11).ext hx fun j hj=>by omega)
 clear hx h1 c0 c1 HX11 HC11 HE11 HU11
 have c0:=(za HC12).p.cell
 have c1:=(za HC12).cell
 go_wp2_with fail
 refine(abu (za H12) zt).mono ?_
 rintro e v13 ⟨rfl,ha⟩
 rw[show zq (.inr S) zt=true from hi]
 have hx:=ha.ext pb
 have h1:=(za H12).add ha
 clear ha
 have H13:=zb h1
 have HX13:=zb ((za HX12).trans hx)
 have HC13:=zb ((za HC12).ext hx)
 have HE13:=zb ((za HE12).ext hx)
 have HU13:=zb ((za HU12).ext hx fun j hj=>by omega)
 clear hx h1 c0 c1 HX12 HC12 HE12 HU12
 have c0:=(za HC13).p.cell
 have c1:=(za HC13).cell
 go_wp2_with fail
 refine(ah0 (za H13) (za HD) hn (za HL)).mono ?_
 rintro e v14 ⟨b,rfl,hx,h2,hv⟩
 have HX9:=zb ((za HX13).trans hx)
 have H9:=zb h2
 have HV9:=zb hv
 have hsz:=(za HX13).size
 clear hx h2 hv c0 c1
 go_wp2_with fail
 go_ret
 refine⟨b,rfl,za HX9,?_,?_⟩
 ·show At _ pb (zg (zr L S))
  rw[za HS]
  exact za H9
 ·intro a T e
  rw[show run (zr L) (.inr S)=zr L S from rfl,za HS] at e
  exact NodeAt.mono (za HV9 a T e) fun j hj=>by omega
theorem axp {w:World} {pb n c d:Nat} {S:LS} (h:At w pb (.inr S)) (hd:S.dp=n) (hn:n≤25) {L:Low} (hL:RLow n L) (hc:CapD c d pb n w) (hcl:Clean S) (hi:S.is ab7=true):Calls prog 208 #[.pointer (some ⟨pb,0,none⟩),.int .i64 (n:Int),.func (.func 206) #[] #[.pointer (some ⟨c,0,none⟩),.pointer (some ⟨d,0,none⟩)]] w fun e w'=>RN (run (zr L) (.inr S)) pb w e w':=by
 have hk:=(ae8 hi).1
 obtain⟨k,hk12,ht⟩:=aev hk
 have b1:((k:Int)==110)=false:=by rcases hk12 with rfl | rfl <;> rfl
 have b2:((k:Int)==105)=false:=by rcases hk12 with rfl | rfl <;> rfl
 have b3:((k:Int)==115)=false:=by rcases hk12 with rfl | rfl <;> rfl
 clear hk12
 have fwTrue:S.is aaw=false:=zh hi (by decide)
 have fwFalse:S.is aar=false:=zh hi (by decide)
 have fwNil:S.is ab6=false:=zh hi (by decide)
 have fwThis:S.is abn=false:=zh hi (by decide)
 have HS:=zb (show zr L S=bnd (zi S) fun _ S1=>adh L 25 S.tl S1 by rw[adu hk,show aas S=0 by rw[aas,if_neg (show ¬S.is aaw=true by rw[zh hi (show (ab7.data.toList==aaw.data.toList)=false by decide)];decide),if_neg (show ¬S.is aar=true by rw[zh hi (show (ab7.data.toList==aar.data.toList)=false by decide)];decide),if_neg (show ¬S.is ab6=true by rw[zh hi (show (ab7.data.toList==ab6.data.toList)=false by decide)];decide),if_neg (show ¬S.is abn=true by rw[zh hi (show (ab7.data.toList==abn.data.toList)=false by decide)];decide)],if_pos rfl,abm,if_neg (show ¬S.is zt=true by rw[zh hi (show (ab7.data.toList==zt.data.toList)=false by decide)];decide),if_neg (show ¬S.is z8=true by rw[zh hi (show (ab7.data.toList==z8.data.toList)=false by decide)];decide),if_neg (show ¬S.is wFn=true by rw[zh hi (show (ab7.data.toList==wFn.data.toList)=false by decide)];decide),if_pos hi])
 clear hcl
 have hpl:=h.lt
 have HK:=zb hk
 clear hk
 have hcw:=hc.p.lt
 have hdw:=hc.lt
 have hent:=qJ c d
 have HD:Hid (Dp n (.inr S)):=fun T e=>by cases e;exact hd
 have HL:=zb hL
 have hxa:=qK w pb n
 have H0:=zb (h.add hxa)
 have HX0:=zb (hxa.ext pb)
 have HE0:=zb (hc.ext (hxa.ext pb))
 have HC0:=qH w pb n
 clear h hd hL hc hxa
 go_enter func208,ntmps208
 go_wp2_with fail
 refine(aav (za H0) 0).mono ?_
 rintro e w1 ⟨nb,ln,rfl,hnb,hsz,hb,ha,hln⟩
 obtain rfl:=hln S rfl
 have H1:=zb ((za H0).add ha)
 have HX1:=zb ((za HX0).trans (ha.ext pb))
 have HC1:=zb ((za HC0).ext (ha.ext pb))
 have HE1:=zb ((za HE0).ext (ha.ext pb))
 have hnb':w.heap.size+1<nb:=Nat.lt_of_lt_of_le (by simp) hnb
 have HU1:Hid (Und (fun j=>w.heap.size≤j) w1 nb 0 zc zc 0 S.tl [] (.slice none 0 0) []):=⟨by omega,⟨_,hb⟩,Or.inl ⟨rfl,rfl⟩,rfl,fun i h=>absurd h (Nat.not_lt_zero i)⟩
 have c0:=(za HC1).p.cell
 clear ha hb hln hsz hnb H0 HX0 HC0 HE0
 go_wp2_with fail
 refine(abg (za H1)).mono ?_
 rintro e w2 ⟨x,rfl,ha,hx⟩
 obtain rfl:=(hx S rfl).trans ht
 have hxt:=ha.alloc (.cells #[.int .u8 (k:Int),.string S.mrk,.int .i64 0,.int .i64 (S.tp:Int),.int .i64 (S.tl:Int)] 75)
 have H2:=zb ((za H1).add hxt)
 have HX2:=zb ((za HX1).trans (hxt.ext pb))
 have HC2:=zb ((za HC1).ext (hxt.ext pb))
 have HE2:=zb ((za HE1).ext (hxt.ext pb))
 have HU2:=zb ((za HU1).ext (hxt.ext pb) fun j hj=>by omega)
 have ht2:=aaq w2 (.cells #[.int .u8 (k:Int),.string S.mrk,.int .i64 0,.int .i64 (S.tp:Int),.int .i64 (S.tl:Int)] 75)
 clear ha hx hxt H1 HX1 HC1 HE1 HU1 c0 ht
 unfold acx
 dsimp only
 have d0:=zd ht2 0
 simp only[List.getElem?_toArray,List.getElem?_cons_zero,List.getElem?_cons_succ] at d0
 have c0:=(za HC2).p.cell
 have c1:=(za HC2).cell
 clear ht2
 go_wp2_with fail
 refine(zk (za H2) aaw).mono ?_
 rintro e v3 ⟨rfl,hx,h1⟩
 rw[show zq (.inr S) aaw=false from fwTrue]
 rw[zw fwTrue] at h1
 have H3:=zb h1
 have HX3:=zb ((za HX2).trans hx)
 have HC3:=zb ((za HC2).ext hx)
 have HE3:=zb ((za HE2).ext hx)
 have HU3:=zb ((za HU2).ext hx fun j hj=>by omega)
 clear hx h1 c0 c1 HX2 HC2 HE2 HU2
 have c0:=(za HC3).p.cell
 have c1:=(za HC3).cell
 go_wp2_with fail
 clear d0
 refine(zk (za H3) aar).mono ?_
 rintro e v4 ⟨rfl,hx,h1⟩
 rw[show zq (.inr S) aar=false from fwFalse]
 rw[zw fwFalse] at h1
 have H4:=zb h1
 have HX4:=zb ((za HX3).trans hx)
 have HC4:=zb ((za HC3).ext hx)
 have HE4:=zb ((za HE3).ext hx)
 have HU4:=zb ((za HU3).ext hx fun j hj=>by omega)
 clear hx h1 c0 c1 HX3 HC3 HE3 HU3
 have c0:=(za HC4).p.cell
 have c1:=(za HC4).cell
 go_wp2_with fail
 refine(zk (za H4) ab6).mono ?_
 rintro e v5 ⟨rfl,hx,h1⟩
 rw[show zq (.inr S) ab6=false from fwNil]
 rw[zw fwNil] at h1
 have H5:=zb h1
 have HX5:=zb ((za HX4).trans hx)
 have HC5:=zb ((za HC4).ext hx)
 have HE5:=zb ((za HE4).ext hx)
 have HU5:=zb ((za HU4).ext hx fun j hj=>by omega)
 clear hx h1 c0 c1 HX4 HC4 HE4 HU4
 have c0:=(za HC5).p.cell
 have c1:=(za HC5).cell
 go_wp2_with fail
 refine(zk (za H5) abn).mono ?_
 rintro e v6 ⟨rfl,hx,h1⟩
 rw[show zq (.inr S) abn=false from fwThis]
 rw[zw fwThis] at h1
 have H6:=zb h1
 have HX6:=zb ((za HX5).trans hx)
 have HC6:=zb ((za HC5).ext hx)
 have HE6:=zb ((za HE5).ext hx)
 have HU6:=zb ((za HU5).ext hx fun j hj=>by omega)
 clear hx h1 c0 c1 HX5 HC5 HE5 HU5
 have c0:=(za HC6).p.cell
 have c1:=(za HC6).cell
 go_wp2_with fail
 refine(zk (za H6) ab7).mono ?_
 rintro e v7 ⟨rfl,hx,h1⟩
 rw[show zq (.inr S) ab7=true from hi]
 rw[aa6 hi] at h1
 have H7:=zb h1
 have HX7:=zb ((za HX6).trans hx)
 have HC7:=zb ((za HC6).ext hx)
 have HE7:=zb ((za HE6).ext hx)
 have HU7:=zb ((za HU6).ext hx fun j hj=>by omega)
 clear hx h1 c0 c1 HX6 HC6 HE6 HU6
 have c0:=(za HC7).p.cell
 have c1:=(za HC7).cell
 have HD1:Hid (Dp n (zg (zi S))):=aa6 hi ▸ (za HD).eat ab7 (za H6)
 go_wp2_with fail
 refine(aep (za H7)).mono ?_
 rintro e v8 ⟨tx,rfl,hx,h1,htx⟩
 have HT:=zb htx
 have HD3:=zb ((za HD1).name (za H7))
 clear htx
 have H8:=zb h1
 have HX8:=zb ((za HX7).trans hx)
 have HC8:=zb ((za HC7).ext hx)
 have HE8:=zb ((za HE7).ext hx)
 have HU8:=zb ((za HU7).ext hx fun j hj=>by omega)
 clear hx h1 c0 c1 HX7 HC7 HE7 HU7
 have c0:=(za HC8).p.cell
 have c1:=(za HC8).cell
 obtain⟨t0,hb⟩:=(za HU8).cells
 have q0:v8.cell? ⟨nb,0,none⟩=some (.int .i64 0):=zd hb 0
 have q1:v8.cell? ⟨nb,1,none⟩=some (.string zc):=zd hb 1
 have gz:=zp hb
 have hnv:=(gtE hb).1
 clear hb
 go_wp2_with fail
 have H9:Hid (At ((v8.setCell ⟨nb,0,none⟩ (.int .i64 25)).setCell ⟨nb,1,none⟩ (.string tx)) pb (zg (run z6 (zg (zi S))))):=((za H8).putNew (by omega) 0 _).putNew (by omega) 1 _
 have HX9:Hid (Ext pb w ((v8.setCell ⟨nb,0,none⟩ (.int .i64 25)).setCell ⟨nb,1,none⟩ (.string tx))):=((za HX8).setNew ⟨nb,0,none⟩ (show w.heap.size≤nb by omega) _).setNew ⟨nb,1,none⟩ (show w.heap.size≤nb by omega) _
 have hcc:=(za HE8).p.lt
 have hdd:=(za HE8).lt
 have HE9:Hid (CapD c d pb n ((v8.setCell ⟨nb,0,none⟩ (.int .i64 25)).setCell ⟨nb,1,none⟩ (.string tx))):=((za HE8).put (by omega) (by omega) 0 _).put (by omega) (by omega) 1 _
 have HU9:Hid (Und (fun j=>w.heap.size≤j) ((v8.setCell ⟨nb,0,none⟩ (.int .i64 25)).setCell ⟨nb,1,none⟩ (.string tx)) nb 25 tx zc 0 S.tl [] (.slice none 0 0) []):=((za HU8).put 0 (.int .i64 25) (k':=25) rfl).put 1 (.string tx) (tx':=tx) rfl
 have hnj:nb<((v8.setCell ⟨nb,0,none⟩ (.int .i64 25)).setCell ⟨nb,1,none⟩ (.string tx)).heap.size:=by simpa [World.setCell] using hnv
 clear c0 c1 q0 q1 gz hnv hcc hdd HE8 HX8 HC8 HU8 H8
 generalize ((v8.setCell ⟨nb,0,none⟩ (.int .i64 25)).setCell ⟨nb,1,none⟩ (.string tx))=v9 at *
 refine(ai3 (za HE9) (za H9) (za HD3) hn (za HL)).mono ?_
 rintro e v10 ⟨kv,kvs,rfl,hr,hl,hx,h1,hv⟩
 obtain⟨la,lcap,rfl⟩:=hr.form
 have H10:=zb h1
 have HX10:=zb ((za HX9).trans hx)
 have HU10:=zb ((za HU9).ext hx fun j hj=>by omega)
 have HV:=zb hv
 clear hr hx h1 hv
 obtain⟨t0,hb⟩:=(za HU10).cells
 have q5:v10.cell? ⟨nb,5,none⟩=some (.slice none 0 0):=zd hb 5
 have gz:=zp hb
 have hnv:=(gtE hb).1
 clear hb
 go_wp2_with fail
 go_ret
 refine⟨nb,rfl,(za HX10).setNew ⟨nb,5,none⟩ (show w.heap.size≤nb by omega) _,?_,?_⟩
 ·show At _ pb (zg (zr L S))
  rw[za HS,aaz (R:=adh L 25 S.tl) fun _ _=>rfl,atk]
  exact(za H10).putNew (by omega) 5 _
 ·intro a T e
  rw[show run (zr L) (.inr S)=zr L S from rfl,za HS] at e
  obtain⟨_,S1,e1,e⟩:=ze e
  have q:zg (zi S)=.inr S1:=by rw[e1];rfl
  obtain⟨tx1,S3,us,e2,e3,rfl⟩:=an5 (s:=zg (zi S)) (L:=L) (k:=25) (ln:=S.tl) (by rw[q];exact e)
  obtain rfl:=za HT tx1 S3 e2
  obtain⟨uvs,hl2,_⟩:=za HV us T e3
  exact((za HU10).setKids hl2 hnj).node
theorem ato {w:World} {pb n c d:Nat} {S:LS} (h:At w pb (.inr S)) (hd:S.dp=n) (hn:n≤25) {L:Low} (hL:RLow n L) (hc:CapD c d pb n w) (hcl:Clean S) (hi:S.is aa8=true):Calls prog 208 #[.pointer (some ⟨pb,0,none⟩),.int .i64 (n:Int),.func (.func 206) #[] #[.pointer (some ⟨c,0,none⟩),.pointer (some ⟨d,0,none⟩)]] w fun e w'=>RN (run (zr L) (.inr S)) pb w e w':=by
 have hk:=(ae8 hi).1
 obtain⟨k,hk12,ht⟩:=aev hk
 have b1:((k:Int)==110)=false:=by rcases hk12 with rfl | rfl <;> rfl
 have b2:((k:Int)==105)=false:=by rcases hk12 with rfl | rfl <;> rfl
 have b3:((k:Int)==115)=false:=by rcases hk12 with rfl | rfl <;> rfl
 clear hk12
 have fwTrue:S.is aaw=false:=zh hi (by decide)
 have fwFalse:S.is aar=false:=zh hi (by decide)
 have fwNil:S.is ab6=false:=zh hi (by decide)
 have fwThis:S.is abn=false:=zh hi (by decide)
 have fwNew:S.is ab7=false:=zh hi (by decide)
 have HS:=zb (show zr L S=bnd (zi S) fun _ S1=>bnd (zj ad6 S1) fun _ S2=>adh L 26 S.tl S2 by rw[adu hk,show aas S=0 by rw[aas,if_neg (show ¬S.is aaw=true by rw[zh hi (show (aa8.data.toList==aaw.data.toList)=false by decide)];decide),if_neg (show ¬S.is aar=true by rw[zh hi (show (aa8.data.toList==aar.data.toList)=false by decide)];decide),if_neg (show ¬S.is ab6=true by rw[zh hi (show (aa8.data.toList==ab6.data.toList)=false by decide)];decide),if_neg (show ¬S.is abn=true by rw[zh hi (show (aa8.data.toList==abn.data.toList)=false by decide)];decide)],if_pos rfl,abm,if_neg (show ¬S.is zt=true by rw[zh hi (show (aa8.data.toList==zt.data.toList)=false by decide)];decide),if_neg (show ¬S.is z8=true by rw[zh hi (show (aa8.data.toList==z8.data.toList)=false by decide)];decide),if_neg (show ¬S.is wFn=true by rw[zh hi (show (aa8.data.toList==wFn.data.toList)=false by decide)];decide),if_neg (show ¬S.is ab7=true by rw[zh hi (show (aa8.data.toList==ab7.data.toList)=false by decide)];decide),if_pos hi])
 clear hcl
 have hpl:=h.lt
 have HK:=zb hk
 clear hk
 have hcw:=hc.p.lt
 have hdw:=hc.lt
 have hent:=qJ c d
 have HD:Hid (Dp n (.inr S)):=fun T e=>by cases e;exact hd
 have HL:=zb hL
 have hxa:=qK w pb n
 have H0:=zb (h.add hxa)
 have HX0:=zb (hxa.ext pb)
 have HE0:=zb (hc.ext (hxa.ext pb))
 have HC0:=qH w pb n
 clear h hd hL hc hxa
 go_enter func208,ntmps208
 go_wp2_with fail
 refine(aav (za H0) 0).mono ?_
 rintro e w1 ⟨nb,ln,rfl,hnb,hsz,hb,ha,hln⟩
 obtain rfl:=hln S rfl
 have H1:=zb ((za H0).add ha)
 have HX1:=zb ((za HX0).trans (ha.ext pb))
 have HC1:=zb ((za HC0).ext (ha.ext pb))
 have HE1:=zb ((za HE0).ext (ha.ext pb))
 have hnb':w.heap.size+1<nb:=Nat.lt_of_lt_of_le (by simp) hnb
 have HU1:Hid (Und (fun j=>w.heap.size≤j) w1 nb 0 zc zc 0 S.tl [] (.slice none 0 0) []):=⟨by omega,⟨_,hb⟩,Or.inl ⟨rfl,rfl⟩,rfl,fun i h=>absurd h (Nat.not_lt_zero i)⟩
 have c0:=(za HC1).p.cell
 clear ha hb hln hsz hnb H0 HX0 HC0 HE0
 go_wp2_with fail
 refine(abg (za H1)).mono ?_
 rintro e w2 ⟨x,rfl,ha,hx⟩
 obtain rfl:=(hx S rfl).trans ht
 have hxt:=ha.alloc (.cells #[.int .u8 (k:Int),.string S.mrk,.int .i64 0,.int .i64 (S.tp:Int),.int .i64 (S.tl:Int)] 75)
 have H2:=zb ((za H1).add hxt)
 have HX2:=zb ((za HX1).trans (hxt.ext pb))
 have HC2:=zb ((za HC1).ext (hxt.ext pb))
 have HE2:=zb ((za HE1).ext (hxt.ext pb))
 have HU2:=zb ((za HU1).ext (hxt.ext pb) fun j hj=>by omega)
 have ht2:=aaq w2 (.cells #[.int .u8 (k:Int),.string S.mrk,.int .i64 0,.int .i64 (S.tp:Int),.int .i64 (S.tl:Int)] 75)
 clear ha hx hxt H1 HX1 HC1 HE1 HU1 c0 ht
 unfold acx
 dsimp only
 have d0:=zd ht2 0
 simp only[List.getElem?_toArray,List.getElem?_cons_zero,List.getElem?_cons_succ] at d0
 have c0:=(za HC2).p.cell
 have c1:=(za HC2).cell
 clear ht2
 go_wp2_with fail
 refine(zk (za H2) aaw).mono ?_
 rintro e v3 ⟨rfl,hx,h1⟩
 rw[show zq (.inr S) aaw=false from fwTrue]
 rw[zw fwTrue] at h1
 have H3:=zb h1
 have HX3:=zb ((za HX2).trans hx)
 have HC3:=zb ((za HC2).ext hx)
 have HE3:=zb ((za HE2).ext hx)
 have HU3:=zb ((za HU2).ext hx fun j hj=>by omega)
 clear hx h1 c0 c1 HX2 HC2 HE2 HU2
 have c0:=(za HC3).p.cell
 have c1:=(za HC3).cell
 go_wp2_with fail
 clear d0
 refine(zk (za H3) aar).mono ?_
 rintro e v4 ⟨rfl,hx,h1⟩
 rw[show zq (.inr S) aar=false from fwFalse]
 rw[zw fwFalse] at h1
 have H4:=zb h1
 have HX4:=zb ((za HX3).trans hx)
 have HC4:=zb ((za HC3).ext hx)
 have HE4:=zb ((za HE3).ext hx)
 have HU4:=zb ((za HU3).ext hx fun j hj=>by omega)
 clear hx h1 c0 c1 HX3 HC3 HE3 HU3
 have c0:=(za HC4).p.cell
 have c1:=(za HC4).cell
 go_wp2_with fail
 refine(zk (za H4) ab6).mono ?_
 rintro e v5 ⟨rfl,hx,h1⟩
 rw[show zq (.inr S) ab6=false from fwNil]
 rw[zw fwNil] at h1
 have H5:=zb h1
 have HX5:=zb ((za HX4).trans hx)
 have HC5:=zb ((za HC4).ext hx)
 have HE5:=zb ((za HE4).ext hx)
 have HU5:=zb ((za HU4).ext hx fun j hj=>by omega)
 clear hx h1 c0 c1 HX4 HC4 HE4 HU4
 have c0:=(za HC5).p.cell
 have c1:=(za HC5).cell
 go_wp2_with fail
 refine(zk (za H5) abn).mono ?_
 rintro e v6 ⟨rfl,hx,h1⟩
 rw[show zq (.inr S) abn=false from fwThis]
 rw[zw fwThis] at h1
 have H6:=zb h1
 have HX6:=zb ((za HX5).trans hx)
 have HC6:=zb ((za HC5).ext hx)
 have HE6:=zb ((za HE5).ext hx)
 have HU6:=zb ((za HU5).ext hx fun j hj=>by omega)
 clear hx h1 c0 c1 HX5 HC5 HE5 HU5
 have c0:=(za HC6).p.cell
 have c1:=(za HC6).cell
 go_wp2_with fail
 refine(zk (za H6) ab7).mono ?_
 rintro e v7 ⟨rfl,hx,h1⟩
 rw[show zq (.inr S) ab7=false from fwNew]
 rw[zw fwNew] at h1
 have H7:=zb h1
 have HX7:=zb ((za HX6).trans hx)
 have HC7:=zb ((za HC6).ext hx)
 have HE7:=zb ((za HE6).ext hx)
 have HU7:=zb ((za HU6).ext hx fun j hj=>by omega)
 clear hx h1 c0 c1 HX6 HC6 HE6 HU6
 have c0:=(za HC7).p.cell
 have c1:=(za HC7).cell
 go_wp2_with fail
 refine(zk (za H7) aa8).mono ?_
 rintro e v8 ⟨rfl,hx,h1⟩
 rw[show zq (.inr S) aa8=true from hi]
 rw[aa6 hi] at h1
 have H8:=zb h1
 have HX8:=zb ((za HX7).trans hx)
 have HC8:=zb ((za HC7).ext hx)
 have HE8:=zb ((za HE7).ext hx)
 have HU8:=zb ((za HU7).ext hx fun j hj=>by omega)
 clear hx h1 c0 c1 HX7 HC7 HE7 HU7
 have c0:=(za HC8).p.cell
 have c1:=(za HC8).cell
 have HD1:Hid (Dp n (zg (zi S))):=aa6 hi ▸ (za HD).eat aa8 (za H7)
 go_wp2_with fail
 refine(aa1 (za H8) ad6).mono ?_
 rintro e v9 ⟨rfl,hx,h1⟩
 have HD2:=zb ((za HD1).want ad6 (za H8))
 have H9:=zb h1
 have HX9:=zb ((za HX8).trans hx)
 have HC9:=zb ((za HC8).ext hx)
 have HE9:=zb ((za HE8).ext hx)
 have HU9:=zb ((za HU8).ext hx fun j hj=>by omega)
 clear hx h1 c0 c1 HX8 HC8 HE8 HU8
 have c0:=(za HC9).p.cell
 have c1:=(za HC9).cell
 go_wp2_with fail
 refine(aep (za H9)).mono ?_
 rintro e v10 ⟨tx,rfl,hx,h1,htx⟩
 have HT:=zb htx
 have HD3:=zb ((za HD2).name (za H9))
 clear htx
 have H10:=zb h1
 have HX10:=zb ((za HX9).trans hx)
 have HC10:=zb ((za HC9).ext hx)
 have HE10:=zb ((za HE9).ext hx)
 have HU10:=zb ((za HU9).ext hx fun j hj=>by omega)
 clear hx h1 c0 c1 HX9 HC9 HE9 HU9
 have c0:=(za HC10).p.cell
 have c1:=(za HC10).cell
 obtain⟨t0,hb⟩:=(za HU10).cells
 have q0:v10.cell? ⟨nb,0,none⟩=some (.int .i64 0):=zd hb 0
 have q1:v10.cell? ⟨nb,1,none⟩=some (.string zc):=zd hb 1
 have gz:=zp hb
 have hnv:=(gtE hb).1
 clear hb
 go_wp2_with fail
 have H11:Hid (At ((v10.setCell ⟨nb,0,none⟩ (.int .i64 26)).setCell ⟨nb,1,none⟩ (.string tx)) pb (zg (run z6 (zg (run (zj ad6) (zg (zi S))))))):=((za H10).putNew (by omega) 0 _).putNew (by omega) 1 _
 have HX11:Hid (Ext pb w ((v10.setCell ⟨nb,0,none⟩ (.int .i64 26)).setCell ⟨nb,1,none⟩ (.string tx))):=((za HX10).setNew ⟨nb,0,none⟩ (show w.heap.size≤nb by omega) _).setNew ⟨nb,1,none⟩ (show w.heap.size≤nb by omega) _
 have hcc:=(za HE10).p.lt
 have hdd:=(za HE10).lt
 have HE11:Hid (CapD c d pb n ((v10.setCell ⟨nb,0,none⟩ (.int .i64 26)).setCell ⟨nb,1,none⟩ (.string tx))):=((za HE10).put (by omega) (by omega) 0 _).put (by omega) (by omega) 1 _
 have HU11:Hid (Und (fun j=>w.heap.size≤j) ((v10.setCell ⟨nb,0,none⟩ (.int .i64 26)).setCell ⟨nb,1,none⟩ (.string tx)) nb 26 tx zc 0 S.tl [] (.slice none 0 0) []):=((za HU10).put 0 (.int .i64 26) (k':=26) rfl).put 1 (.string tx) (tx':=tx) rfl
 have hnj:nb<((v10.setCell ⟨nb,0,none⟩ (.int .i64 26)).setCell ⟨nb,1,none⟩ (.string tx)).heap.size:=by simpa [World.setCell] using hnv
 clear c0 c1 q0 q1 gz hnv hcc hdd HE10 HX10 HC10 HU10 H10
 generalize ((v10.setCell ⟨nb,0,none⟩ (.int .i64 26)).setCell ⟨nb,1,none⟩ (.string tx))=v11 at *
 refine(ai3 (za HE11) (za H11) (za HD3) hn (za HL)).mono ?_
 rintro e v12 ⟨kv,kvs,rfl,hr,hl,hx,h1,hv⟩
 obtain⟨la,lcap,rfl⟩:=hr.form
 have H12:=zb h1
 have HX12:=zb ((za HX11).trans hx)
 have HU12:=zb ((za HU11).ext hx fun j hj=>by omega)
 have HV:=zb hv
 clear hr hx h1 hv
 obtain⟨t0,hb⟩:=(za HU12).cells
 have q5:v12.cell? ⟨nb,5,none⟩=some (.slice none 0 0):=zd hb 5
 have gz:=zp hb
 have hnv:=(gtE hb).1
 clear hb
 go_wp2_with fail
 go_ret
 refine⟨nb,rfl,(za HX12).setNew ⟨nb,5,none⟩ (show w.heap.size≤nb by omega) _,?_,?_⟩
 ·show At _ pb (zg (zr L S))
  rw[za HS,aaz (R:=fun S1=>bnd (zj ad6 S1) fun _ S2=>adh L 26 S.tl S2) fun _ _=>rfl,ae0,aaz (R:=adh L 26 S.tl) fun _ _=>rfl,atk]
  exact(za H12).putNew (by omega) 5 _
 ·intro a T e
  rw[show run (zr L) (.inr S)=zr L S from rfl,za HS] at e
  obtain⟨_,S1,e1,e⟩:=ze e
  have q:zg (zi S)=.inr S1:=by rw[e1];rfl
  obtain⟨_,S2,e4,e⟩:=ze e
  have q2:zg (run (zj ad6) (zg (zi S)))=.inr S2:=by rw[q,show run (zj ad6) (.inr S1)=zj ad6 S1 from rfl,e4];rfl
  obtain⟨tx1,S3,us,e2,e3,rfl⟩:=an5 (s:=zg (run (zj ad6) (zg (zi S)))) (L:=L) (k:=26) (ln:=S.tl) (by rw[q2];exact e)
  obtain rfl:=za HT tx1 S3 e2
  obtain⟨uvs,hl2,_⟩:=za HV us T e3
  exact((za HU12).setKids hl2 hnj).node
end Go.Proofs.YtndgajlidckcdaaGreatDoor
