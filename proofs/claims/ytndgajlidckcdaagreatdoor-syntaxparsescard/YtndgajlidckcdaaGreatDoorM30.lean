/- A part. -/
import Derived.Test.YtndgajlidckcdaaGreatDoorM29
open Go.Proofs.Tryz
namespace Go.Proofs.YtndgajlidckcdaaGreatDoor
open Go.RowKit
set_option linter.unusedVariables false
set_option linter.unusedSimpArgs false
set_option maxRecDepth 100000
set_option maxHeartbeats 8000000
theorem auv {w:World} {pb n c d:Nat} {S:LS} (h:At w pb (.inr S)) (hd:S.dp=n) (hn:n≤25) {L:Low} (hL:RLow n L) (hc:CapD c d pb n w) (hk:S.kd=2) (hcl:Clean S):Calls prog 208 #[.pointer (some ⟨pb,0,none⟩),.int .i64 (n:Int),.func (.func 206) #[] #[.pointer (some ⟨c,0,none⟩),.pointer (some ⟨d,0,none⟩)]] w fun e w'=>RN (run (zr L) (.inr S)) pb w e w':=by
 have ht:zv S=⟨110,S.tx,0,S.tp,S.tl⟩:=by unfold zv;rw[if_neg (by omega),if_pos hk]
 have HK:=zb (show S.kd≠0 by omega)
 have HS:=zb (show zr L S=bnd (zi S) fun _ S1=>.inr (⟨24,S.tx,zc,0,S.tl,[]⟩,S1) by rw[zr,if_pos hk,ad5,hcl.name hk])
 clear hk hcl
 have hpl:=h.lt
 have hcw:=hc.p.lt
 have hdw:=hc.lt
 have hent:=qJ c d
 have HD:Hid (Dp n (.inr S)):=fun T e=>by cases e;exact hd
 have HL:=zb hL
 have hxa:=qK w pb n
 have H0:=zb (h.add hxa)
 have HX0:=zb (hxa.ext pb)
 have HE0:=zb (hc.ext (hxa.ext pb))
 have HC0:=qH w pb n
 clear h hd hL hc hxa
 go_enter func208,ntmps208
 go_wp2_with fail
 refine(aav (za H0) 0).mono ?_
 rintro e w1 ⟨nb,ln,rfl,hnb,hsz,hb,ha,hln⟩
 obtain rfl:=hln S rfl
 have H1:=zb ((za H0).add ha)
 have HX1:=zb ((za HX0).trans (ha.ext pb))
 have HC1:=zb ((za HC0).ext (ha.ext pb))
 have HE1:=zb ((za HE0).ext (ha.ext pb))
 have hnb':w.heap.size+1<nb:=Nat.lt_of_lt_of_le (by simp) hnb
 have HU1:Hid (Und (fun j=>w.heap.size≤j) w1 nb 0 zc zc 0 S.tl [] (.slice none 0 0) []):=⟨by omega,⟨_,hb⟩,Or.inl ⟨rfl,rfl⟩,rfl,fun i h=>absurd h (Nat.not_lt_zero i)⟩
 have c0:=(za HC1).p.cell
 clear ha hb hln hsz hnb H0 HX0 HC0 HE0
 go_wp2_with fail
 refine(abg (za H1)).mono ?_
 rintro e w2 ⟨x,rfl,ha,hx⟩
 obtain rfl:=(hx S rfl).trans ht
 have hxt:=ha.alloc (.cells #[.int .u8 110,.string S.tx,.int .i64 0,.int .i64 (S.tp:Int),.int .i64 (S.tl:Int)] 75)
 have H2:=zb ((za H1).add hxt)
 have HX2:=zb ((za HX1).trans (hxt.ext pb))
 have HC2:=zb ((za HC1).ext (hxt.ext pb))
 have HE2:=zb ((za HE1).ext (hxt.ext pb))
 have HU2:=zb ((za HU1).ext (hxt.ext pb) fun j hj=>by omega)
 have ht2:=aaq w2 (.cells #[.int .u8 110,.string S.tx,.int .i64 0,.int .i64 (S.tp:Int),.int .i64 (S.tl:Int)] 75)
 clear ha hx hxt H1 HX1 HC1 HE1 HU1 c0 ht
 unfold acx
 dsimp only
 generalize hWW:w2.alloc (.cells #[.int .u8 110,.string S.tx,.int .i64 0,.int .i64 (S.tp:Int),.int .i64 (S.tl:Int)] 75)=W at *
 obtain⟨t0,hb⟩:=(za HU2).cells
 have q0:W.cell? ⟨nb,0,none⟩=some (.int .i64 0):=zd hb 0
 have q1:W.cell? ⟨nb,1,none⟩=some (.string zc):=zd hb 1
 have gz:=zp hb
 have d0:=zd ht2 0
 have d1:=zd ht2 1
 simp only[List.getElem?_toArray,List.getElem?_cons_zero,List.getElem?_cons_succ] at d0 d1
 have c0:=(za HC2).p.cell
 have hnw:nb<W.heap.size:=(gtE hb).1
 clear hb ht2
 subst hWW
 go_wp2_with fail
 go_region
 have H3:Hid (At (((((w2.alloc (.cells #[.int .u8 110,.string S.tx,.int .i64 0,.int .i64 (S.tp:Int),.int .i64 (S.tl:Int)] 75)).setCell ⟨nb,0,none⟩ (.int .i64 24)).setCell ⟨nb,1,none⟩ (.string S.tx)).drew)) pb (.inr S)):=(((za H2).putNew (by omega) 0 _).putNew (by omega) 1 _).drew
 have HX3:Hid (Ext pb w (((((w2.alloc (.cells #[.int .u8 110,.string S.tx,.int .i64 0,.int .i64 (S.tp:Int),.int .i64 (S.tl:Int)] 75)).setCell ⟨nb,0,none⟩ (.int .i64 24)).setCell ⟨nb,1,none⟩ (.string S.tx)).drew))):=(((za HX2).setNew ⟨nb,0,none⟩ (show w.heap.size≤nb by omega) _).setNew ⟨nb,1,none⟩ (show w.heap.size≤nb by omega) _).drew
 have HC3:Hid (CapD w.heap.size (w.heap.size+1) pb n (((((w2.alloc (.cells #[.int .u8 110,.string S.tx,.int .i64 0,.int .i64 (S.tp:Int),.int .i64 (S.tl:Int)] 75)).setCell ⟨nb,0,none⟩ (.int .i64 24)).setCell ⟨nb,1,none⟩ (.string S.tx)).drew))):=(((za HC2).put (by omega) (by omega) 0 _).put (by omega) (by omega) 1 _).drew
 have HU3:Hid (Und (fun j=>w.heap.size≤j) (((((w2.alloc (.cells #[.int .u8 110,.string S.tx,.int .i64 0,.int .i64 (S.tp:Int),.int .i64 (S.tl:Int)] 75)).setCell ⟨nb,0,none⟩ (.int .i64 24)).setCell ⟨nb,1,none⟩ (.string S.tx)).drew)) nb 24 S.tx zc 0 S.tl [] (.slice none 0 0) []):=(((za HU2).put 0 (.int .i64 24) (k':=24) rfl).put 1 (.string S.tx) rfl).drew
 clear c0 q0 q1 gz d0 d1 H2 HX2 HC2 HU2 HE2 hnw
 generalize ((((w2.alloc (.cells #[.int .u8 110,.string S.tx,.int .i64 0,.int .i64 (S.tp:Int),.int .i64 (S.tl:Int)] 75)).setCell ⟨nb,0,none⟩ (.int .i64 24)).setCell ⟨nb,1,none⟩ (.string S.tx)).drew)=w3 at *
 have c0:=(za HC3).p.cell
 go_wp2_with fail
 refine(aeo (za H3) (za HK)).mono ?_
 rintro e w4 ⟨rfl,hx,h4⟩
 have H4:=zb h4
 have HX4:=zb ((za HX3).trans hx)
 have HU4:=zb ((za HU3).ext hx fun j hj=>by omega)
 clear hx h4 c0
 go_wp2_with fail
 go_ret
 refine⟨nb,rfl,za HX4,?_,?_⟩
 ·show At w4 pb (zg (zr L S))
  rw[za HS,abw]
  exact za H4
 ·intro a T e
  rw[show run (zr L) (.inr S)=zr L S from rfl,za HS] at e
  obtain⟨_,_,_,e⟩:=ze e
  cases e
  exact(za HU4).node
theorem axm {w:World} {pb n c d:Nat} {S:LS} (h:At w pb (.inr S)) (hd:S.dp=n) (hn:n≤25) {L:Low} (hL:RLow n L) (hc:CapD c d pb n w) (hk:S.kd=3) (hcl:Clean S):Calls prog 208 #[.pointer (some ⟨pb,0,none⟩),.int .i64 (n:Int),.func (.func 206) #[] #[.pointer (some ⟨c,0,none⟩),.pointer (some ⟨d,0,none⟩)]] w fun e w'=>RN (run (zr L) (.inr S)) pb w e w':=by
 have ht:zv S=⟨105,⟨#[]⟩,S.nn,S.tp,S.tl⟩:=by unfold zv;rw[if_neg (by omega),if_neg (by omega),if_pos hk]
 have HK:=zb (show S.kd≠0 by omega)
 have HS:=zb (show zr L S=bnd (zi S) fun _ S1=>.inr (⟨18,⟨#[]⟩,zc,S.nn,S.tl,[]⟩,S1) by rw[zr,if_neg (by omega),if_pos hk,ad5,hcl.num hk])
 clear hk hcl
 have hpl:=h.lt
 have hcw:=hc.p.lt
 have hdw:=hc.lt
 have hent:=qJ c d
 have HD:Hid (Dp n (.inr S)):=fun T e=>by cases e;exact hd
 have HL:=zb hL
 have hxa:=qK w pb n
 have H0:=zb (h.add hxa)
 have HX0:=zb (hxa.ext pb)
 have HE0:=zb (hc.ext (hxa.ext pb))
 have HC0:=qH w pb n
 clear h hd hL hc hxa
 go_enter func208,ntmps208
 go_wp2_with fail
 refine(aav (za H0) 0).mono ?_
 rintro e w1 ⟨nb,ln,rfl,hnb,hsz,hb,ha,hln⟩
 obtain rfl:=hln S rfl
 have H1:=zb ((za H0).add ha)
 have HX1:=zb ((za HX0).trans (ha.ext pb))
 have HC1:=zb ((za HC0).ext (ha.ext pb))
 have HE1:=zb ((za HE0).ext (ha.ext pb))
 have hnb':w.heap.size+1<nb:=Nat.lt_of_lt_of_le (by simp) hnb
 have HU1:Hid (Und (fun j=>w.heap.size≤j) w1 nb 0 zc zc 0 S.tl [] (.slice none 0 0) []):=⟨by omega,⟨_,hb⟩,Or.inl ⟨rfl,rfl⟩,rfl,fun i h=>absurd h (Nat.not_lt_zero i)⟩
 have c0:=(za HC1).p.cell
 clear ha hb hln hsz hnb H0 HX0 HC0 HE0
 go_wp2_with fail
 refine(abg (za H1)).mono ?_
 rintro e w2 ⟨x,rfl,ha,hx⟩
 obtain rfl:=(hx S rfl).trans ht
 have hxt:=ha.alloc (.cells #[.int .u8 105,.string ⟨#[]⟩,.int .i64 S.nn,.int .i64 (S.tp:Int),.int .i64 (S.tl:Int)] 75)
 have H2:=zb ((za H1).add hxt)
 have HX2:=zb ((za HX1).trans (hxt.ext pb))
 have HC2:=zb ((za HC1).ext (hxt.ext pb))
 have HE2:=zb ((za HE1).ext (hxt.ext pb))
 have HU2:=zb ((za HU1).ext (hxt.ext pb) fun j hj=>by omega)
 have ht2:=aaq w2 (.cells #[.int .u8 105,.string ⟨#[]⟩,.int .i64 S.nn,.int .i64 (S.tp:Int),.int .i64 (S.tl:Int)] 75)
 clear ha hx hxt H1 HX1 HC1 HE1 HU1 c0 ht
 unfold acx
 dsimp only
 generalize hWW:w2.alloc (.cells #[.int .u8 105,.string ⟨#[]⟩,.int .i64 S.nn,.int .i64 (S.tp:Int),.int .i64 (S.tl:Int)] 75)=W at *
 obtain⟨t0,hb⟩:=(za HU2).cells
 have q0:W.cell? ⟨nb,0,none⟩=some (.int .i64 0):=zd hb 0
 have q1:W.cell? ⟨nb,3,none⟩=some (.int .i64 0):=zd hb 3
 have gz:=zp hb
 have d0:=zd ht2 0
 have d1:=zd ht2 2
 simp only[List.getElem?_toArray,List.getElem?_cons_zero,List.getElem?_cons_succ] at d0 d1
 have c0:=(za HC2).p.cell
 have hnw:nb<W.heap.size:=(gtE hb).1
 clear hb ht2
 subst hWW
 go_wp2_with fail
 go_region
 have H3:Hid (At (((((w2.alloc (.cells #[.int .u8 105,.string ⟨#[]⟩,.int .i64 S.nn,.int .i64 (S.tp:Int),.int .i64 (S.tl:Int)] 75)).setCell ⟨nb,0,none⟩ (.int .i64 18)).setCell ⟨nb,3,none⟩ (.int .i64 S.nn)).drew)) pb (.inr S)):=(((za H2).putNew (by omega) 0 _).putNew (by omega) 3 _).drew
 have HX3:Hid (Ext pb w (((((w2.alloc (.cells #[.int .u8 105,.string ⟨#[]⟩,.int .i64 S.nn,.int .i64 (S.tp:Int),.int .i64 (S.tl:Int)] 75)).setCell ⟨nb,0,none⟩ (.int .i64 18)).setCell ⟨nb,3,none⟩ (.int .i64 S.nn)).drew))):=(((za HX2).setNew ⟨nb,0,none⟩ (show w.heap.size≤nb by omega) _).setNew ⟨nb,3,none⟩ (show w.heap.size≤nb by omega) _).drew
 have HC3:Hid (CapD w.heap.size (w.heap.size+1) pb n (((((w2.alloc (.cells #[.int .u8 105,.string ⟨#[]⟩,.int .i64 S.nn,.int .i64 (S.tp:Int),.int .i64 (S.tl:Int)] 75)).setCell ⟨nb,0,none⟩ (.int .i64 18)).setCell ⟨nb,3,none⟩ (.int .i64 S.nn)).drew))):=(((za HC2).put (by omega) (by omega) 0 _).put (by omega) (by omega) 3 _).drew
 have HU3:Hid (Und (fun j=>w.heap.size≤j) (((((w2.alloc (.cells #[.int .u8 105,.string ⟨#[]⟩,.int .i64 S.nn,.int .i64 (S.tp:Int),.int .i64 (S.tl:Int)] 75)).setCell ⟨nb,0,none⟩ (.int .i64 18)).setCell ⟨nb,3,none⟩ (.int .i64 S.nn)).drew)) nb 18 ⟨#[]⟩ zc S.nn S.tl [] (.slice none 0 0) []):=(((za HU2).put 0 (.int .i64 18) (k':=18) rfl).put 3 (.int .i64 S.nn) rfl).drew
 clear c0 q0 q1 gz d0 d1 H2 HX2 HC2 HU2 HE2 hnw
 generalize ((((w2.alloc (.cells #[.int .u8 105,.string ⟨#[]⟩,.int .i64 S.nn,.int .i64 (S.tp:Int),.int .i64 (S.tl:Int)] 75)).setCell ⟨nb,0,none⟩ (.int .i64 18)).setCell ⟨nb,3,none⟩ (.int .i64 S.nn)).drew)=w3 at *
 have c0:=(za HC3).p.cell
 go_wp2_with fail
 refine(aeo (za H3) (za HK)).mono ?_
 rintro e w4 ⟨rfl,hx,h4⟩
 have H4:=zb h4
 have HX4:=zb ((za HX3).trans hx)
 have HU4:=zb ((za HU3).ext hx fun j hj=>by omega)
 clear hx h4 c0
 go_wp2_with fail
 go_ret
 refine⟨nb,rfl,za HX4,?_,?_⟩
 ·show At w4 pb (zg (zr L S))
  rw[za HS,abw]
  exact za H4
 ·intro a T e
  rw[show run (zr L) (.inr S)=zr L S from rfl,za HS] at e
  obtain⟨_,_,_,e⟩:=ze e
  cases e
  exact(za HU4).node
theorem axn {w:World} {pb n c d:Nat} {S:LS} (h:At w pb (.inr S)) (hd:S.dp=n) (hn:n≤25) {L:Low} (hL:RLow n L) (hc:CapD c d pb n w) (hk:S.kd=4) (hcl:Clean S):Calls prog 208 #[.pointer (some ⟨pb,0,none⟩),.int .i64 (n:Int),.func (.func 206) #[] #[.pointer (some ⟨c,0,none⟩),.pointer (some ⟨d,0,none⟩)]] w fun e w'=>RN (run (zr L) (.inr S)) pb w e w':=by
 have ht:zv S=⟨115,S.tx,0,S.tp,S.tl⟩:=by unfold zv;rw[if_neg (by omega),if_neg (by omega),if_neg (by omega),if_pos hk]
 have HK:=zb (show S.kd≠0 by omega)
 have HS:=zb (show zr L S=bnd (zi S) fun _ S1=>.inr (⟨19,S.tx,zc,0,S.tl,[]⟩,S1) by rw[zr,if_neg (by omega),if_neg (by omega),if_pos hk,ad5,hcl.str hk])
 clear hk hcl
 have hpl:=h.lt
 have hcw:=hc.p.lt
 have hdw:=hc.lt
 have hent:=qJ c d
 have HD:Hid (Dp n (.inr S)):=fun T e=>by cases e;exact hd
 have HL:=zb hL
 have hxa:=qK w pb n
 have H0:=zb (h.add hxa)
 have HX0:=zb (hxa.ext pb)
 have HE0:=zb (hc.ext (hxa.ext pb))
 have HC0:=qH w pb n
 clear h hd hL hc hxa
 go_enter func208,ntmps208
 go_wp2_with fail
 refine(aav (za H0) 0).mono ?_
 rintro e w1 ⟨nb,ln,rfl,hnb,hsz,hb,ha,hln⟩
 obtain rfl:=hln S rfl
 have H1:=zb ((za H0).add ha)
 have HX1:=zb ((za HX0).trans (ha.ext pb))
 have HC1:=zb ((za HC0).ext (ha.ext pb))
 have HE1:=zb ((za HE0).ext (ha.ext pb))
 have hnb':w.heap.size+1<nb:=Nat.lt_of_lt_of_le (by simp) hnb
 have HU1:Hid (Und (fun j=>w.heap.size≤j) w1 nb 0 zc zc 0 S.tl [] (.slice none 0 0) []):=⟨by omega,⟨_,hb⟩,Or.inl ⟨rfl,rfl⟩,rfl,fun i h=>absurd h (Nat.not_lt_zero i)⟩
 have c0:=(za HC1).p.cell
 clear ha hb hln hsz hnb H0 HX0 HC0 HE0
 go_wp2_with fail
 refine(abg (za H1)).mono ?_
 rintro e w2 ⟨x,rfl,ha,hx⟩
 obtain rfl:=(hx S rfl).trans ht
 have hxt:=ha.alloc (.cells #[.int .u8 115,.string S.tx,.int .i64 0,.int .i64 (S.tp:Int),.int .i64 (S.tl:Int)] 75)
 have H2:=zb ((za H1).add hxt)
 have HX2:=zb ((za HX1).trans (hxt.ext pb))
 have HC2:=zb ((za HC1).ext (hxt.ext pb))
 have HE2:=zb ((za HE1).ext (hxt.ext pb))
 have HU2:=zb ((za HU1).ext (hxt.ext pb) fun j hj=>by omega)
 have ht2:=aaq w2 (.cells #[.int .u8 115,.string S.tx,.int .i64 0,.int .i64 (S.tp:Int),.int .i64 (S.tl:Int)] 75)
 clear ha hx hxt H1 HX1 HC1 HE1 HU1 c0 ht
 unfold acx
 dsimp only
 generalize hWW:w2.alloc (.cells #[.int .u8 115,.string S.tx,.int .i64 0,.int .i64 (S.tp:Int),.int .i64 (S.tl:Int)] 75)=W at *
 obtain⟨t0,hb⟩:=(za HU2).cells
 have q0:W.cell? ⟨nb,0,none⟩=some (.int .i64 0):=zd hb 0
 have q1:W.cell? ⟨nb,1,none⟩=some (.string zc):=zd hb 1
 have gz:=zp hb
 have d0:=zd ht2 0
 have d1:=zd ht2 1
 simp only[List.getElem?_toArray,List.getElem?_cons_zero,List.getElem?_cons_succ] at d0 d1
 have c0:=(za HC2).p.cell
 have hnw:nb<W.heap.size:=(gtE hb).1
 clear hb ht2
 subst hWW
 go_wp2_with fail
 go_region
 have H3:Hid (At (((((w2.alloc (.cells #[.int .u8 115,.string S.tx,.int .i64 0,.int .i64 (S.tp:Int),.int .i64 (S.tl:Int)] 75)).setCell ⟨nb,0,none⟩ (.int .i64 19)).setCell ⟨nb,1,none⟩ (.string S.tx)).drew)) pb (.inr S)):=(((za H2).putNew (by omega) 0 _).putNew (by omega) 1 _).drew
 have HX3:Hid (Ext pb w (((((w2.alloc (.cells #[.int .u8 115,.string S.tx,.int .i64 0,.int .i64 (S.tp:Int),.int .i64 (S.tl:Int)] 75)).setCell ⟨nb,0,none⟩ (.int .i64 19)).setCell ⟨nb,1,none⟩ (.string S.tx)).drew))):=(((za HX2).setNew ⟨nb,0,none⟩ (show w.heap.size≤nb by omega) _).setNew ⟨nb,1,none⟩ (show w.heap.size≤nb by omega) _).drew
 have HC3:Hid (CapD w.heap.size (w.heap.size+1) pb n (((((w2.alloc (.cells #[.int .u8 115,.string S.tx,.int .i64 0,.int .i64 (S.tp:Int),.int .i64 (S.tl:Int)] 75)).setCell ⟨nb,0,none⟩ (.int .i64 19)).setCell ⟨nb,1,none⟩ (.string S.tx)).drew))):=(((za HC2).put (by omega) (by omega) 0 _).put (by omega) (by omega) 1 _).drew
 have HU3:Hid (Und (fun j=>w.heap.size≤j) (((((w2.alloc (.cells #[.int .u8 115,.string S.tx,.int .i64 0,.int .i64 (S.tp:Int),.int .i64 (S.tl:Int)] 75)).setCell ⟨nb,0,none⟩ (.int .i64 19)).setCell ⟨nb,1,none⟩ (.string S.tx)).drew)) nb 19 S.tx zc 0 S.tl [] (.slice none 0 0) []):=(((za HU2).put 0 (.int .i64 19) (k':=19) rfl).put 1 (.string S.tx) rfl).drew
 clear c0 q0 q1 gz d0 d1 H2 HX2 HC2 HU2 HE2 hnw
 generalize ((((w2.alloc (.cells #[.int .u8 115,.string S.tx,.int .i64 0,.int .i64 (S.tp:Int),.int .i64 (S.tl:Int)] 75)).setCell ⟨nb,0,none⟩ (.int .i64 19)).setCell ⟨nb,1,none⟩ (.string S.tx)).drew)=w3 at *
 have c0:=(za HC3).p.cell
 go_wp2_with fail
 refine(aeo (za H3) (za HK)).mono ?_
 rintro e w4 ⟨rfl,hx,h4⟩
 have H4:=zb h4
 have HX4:=zb ((za HX3).trans hx)
 have HU4:=zb ((za HU3).ext hx fun j hj=>by omega)
 clear hx h4 c0
 go_wp2_with fail
 go_ret
 refine⟨nb,rfl,za HX4,?_,?_⟩
 ·show At w4 pb (zg (zr L S))
  rw[za HS,abw]
  exact za H4
 ·intro a T e
  rw[show run (zr L) (.inr S)=zr L S from rfl,za HS] at e
  obtain⟨_,_,_,e⟩:=ze e
  cases e
  exact(za HU4).node
theorem Lst.put {lo:Nat} {w:World} {ks:Value} {vs:List Value} {ts:List Tree} (h:Lst lo w ks vs ts) {b:Nat} (hb:b<lo) (i:Nat) (v:Value):Lst lo (w.setCell ⟨b,i,none⟩ v) ks vs ts :=
 ⟨h.row.keep (fun _ h=>h) (fun j hj hl=>aaf v (by omega)),h.len,fun i hi=>(h.kids i hi).keep (fun _ h=>h) (fun j hj hl=>aaf v (by omega)) _ _⟩
theorem Lst.more' {lo lo2:Nat} {w:World} {ks:Value} {vs:List Value} {ts:List Tree} (h:Lst lo2 w ks vs ts) (hl:lo≤lo2):Lst lo w ks vs ts :=
 ⟨h.row.keep (fun j hj=>by omega) (fun _ _ _=>rfl),h.len,fun i hi=>(h.kids i hi).mono fun j hj=>⟨by omega,hj.2⟩⟩
theorem ago {lo:Nat} {w:World} {a:Nat} (hlo:lo≤w.heap.size) {t:Tree} (ht:NodeAt (fun j=>lo≤j) w (.pointer (some ⟨a,0,none⟩)) t):Lst lo (w.alloc (.cells #[.pointer (some ⟨a,0,none⟩)] 22)) (.slice (some ⟨w.heap.size,0,none⟩) 1 1) [.pointer (some ⟨a,0,none⟩)] [t]:=by
 refine⟨Or.inr ⟨w.heap.size,1,_,rfl,hlo,aaq _ _,by simp,by unfold maxLen;omega,rfl,rfl⟩,rfl,?_⟩
 intro i hi
 match i,hi with
 | 0,_=>exact(ht.lt t _).keep (fun j hj=>⟨hj.1,fun e=>by simp only[Value.ownBlock,Option.some.injEq] at e;omega⟩) (fun j hj hl=>aam _ _ hl) t _
theorem bdc {s:St} {f:LS→Tree}:zg (run (fun S=>bnd (zj zt S) fun _ S2=>bnd (zj abj S2) fun _ S3=>(.inr (f S,S3):Res Tree)) s)=zg (run (zj abj) (zg (run (zj zt) s))):=by
 cases s with
 | inl f=>rfl
 | inr S =>
  show zg (bnd (zj zt S) _)=zg (run (zj abj) (zg (zj zt S)))
  exact aaz fun a T=>abw
theorem auw {w:World} {pb n c d:Nat} {S:LS} (h:At w pb (.inr S)) (hd:S.dp=n) (hn:n≤25) {L:Low} (hL:RLow n L) (hc:CapD c d pb n w) (hcl:Clean S) (hi:S.is aaw=true):Calls prog 208 #[.pointer (some ⟨pb,0,none⟩),.int .i64 (n:Int),.func (.func 206) #[] #[.pointer (some ⟨c,0,none⟩),.pointer (some ⟨d,0,none⟩)]] w fun e w'=>RN (run (zr L) (.inr S)) pb w e w':=by
 have hk:=(ae8 hi).1
 obtain⟨k,hk12,ht⟩:=aev hk
 have b1:((k:Int)==110)=false:=by rcases hk12 with rfl | rfl <;> rfl
 have b2:((k:Int)==105)=false:=by rcases hk12 with rfl | rfl <;> rfl
 have b3:((k:Int)==115)=false:=by rcases hk12 with rfl | rfl <;> rfl
 clear hk12
 have HS:=zb (show zr L S=bnd (zi S) fun _ S1=>.inr (⟨20,zc,zc,0,S.tl,[]⟩,S1) by rw[adu hk,show aas S=20 by rw[aas,if_pos hi],if_neg (by decide),ad5,(hcl.word hk).1,(hcl.word hk).2];rfl)
 clear hcl
 have hpl:=h.lt
 have HK:=zb hk
 clear hk
 have hcw:=hc.p.lt
 have hdw:=hc.lt
 have hent:=qJ c d
 have HD:Hid (Dp n (.inr S)):=fun T e=>by cases e;exact hd
 have HL:=zb hL
 have hxa:=qK w pb n
 have H0:=zb (h.add hxa)
 have HX0:=zb (hxa.ext pb)
 have HE0:=zb (hc.ext (hxa.ext pb))
 have HC0:=qH w pb n
 clear h hd hL hc hxa
 go_enter func208,ntmps208
 go_wp2_with fail
 refine(aav (za H0) 0).mono ?_
 rintro e w1 ⟨nb,ln,rfl,hnb,hsz,hb,ha,hln⟩
 obtain rfl:=hln S rfl
 have H1:=zb ((za H0).add ha)
 have HX1:=zb ((za HX0).trans (ha.ext pb))
 have HC1:=zb ((za HC0).ext (ha.ext pb))
 have HE1:=zb ((za HE0).ext (ha.ext pb))
 have hnb':w.heap.size+1<nb:=Nat.lt_of_lt_of_le (by simp) hnb
 have HU1:Hid (Und (fun j=>w.heap.size≤j) w1 nb 0 zc zc 0 S.tl [] (.slice none 0 0) []):=⟨by omega,⟨_,hb⟩,Or.inl ⟨rfl,rfl⟩,rfl,fun i h=>absurd h (Nat.not_lt_zero i)⟩
 have c0:=(za HC1).p.cell
 clear ha hb hln hsz hnb H0 HX0 HC0 HE0
 go_wp2_with fail
 refine(abg (za H1)).mono ?_
 rintro e w2 ⟨x,rfl,ha,hx⟩
 obtain rfl:=(hx S rfl).trans ht
 have hxt:=ha.alloc (.cells #[.int .u8 (k:Int),.string S.mrk,.int .i64 0,.int .i64 (S.tp:Int),.int .i64 (S.tl:Int)] 75)
 have H2:=zb ((za H1).add hxt)
 have HX2:=zb ((za HX1).trans (hxt.ext pb))
 have HC2:=zb ((za HC1).ext (hxt.ext pb))
 have HE2:=zb ((za HE1).ext (hxt.ext pb))
 have HU2:=zb ((za HU1).ext (hxt.ext pb) fun j hj=>by omega)
 have ht2:=aaq w2 (.cells #[.int .u8 (k:Int),.string S.mrk,.int .i64 0,.int .i64 (S.tp:Int),.int .i64 (S.tl:Int)] 75)
 clear ha hx hxt H1 HX1 HC1 HE1 HU1 c0 ht
 unfold acx
 dsimp only
 have d0:=zd ht2 0
 simp only[List.getElem?_toArray,List.getElem?_cons_zero,List.getElem?_cons_succ] at d0
 have c0:=(za HC2).p.cell
 have c1:=(za HC2).cell
 clear ht2
 go_wp2_with fail
 refine(zk (za H2) aaw).mono ?_
 rintro e v3 ⟨rfl,hx,h1⟩
 rw[show zq (.inr S) aaw=true from hi]
 rw[aa6 hi] at h1
 have H3:=zb h1
 have HX3:=zb ((za HX2).trans hx)
 have HC3:=zb ((za HC2).ext hx)
 have HE3:=zb ((za HE2).ext hx)
 have HU3:=zb ((za HU2).ext hx fun j hj=>by omega)
 clear hx h1 c0 c1 HX2 HC2 HE2 HU2
 have c0:=(za HC3).p.cell
 have c1:=(za HC3).cell
 obtain⟨t0,hb⟩:=(za HU3).cells
 have q0:v3.cell? ⟨nb,0,none⟩=some (.int .i64 0):=zd hb 0
 have gz:=zp hb
 have hnv:=(gtE hb).1
 clear hb
 go_wp2_with fail
 go_ret
 refine⟨nb,rfl,(za HX3).setNew ⟨nb,0,none⟩ (show w.heap.size≤nb by omega) _,?_,?_⟩
 ·show At _ pb (zg (zr L S))
  rw[za HS,abw]
  exact(za H3).putNew (by omega) 0 _
 ·intro a T e
  rw[show run (zr L) (.inr S)=zr L S from rfl,za HS] at e
  obtain⟨_,_,_,e⟩:=ze e
  cases e
  exact((za HU3).put 0 (.int .i64 20) (k':=20) rfl).node
theorem atl {w:World} {pb n c d:Nat} {S:LS} (h:At w pb (.inr S)) (hd:S.dp=n) (hn:n≤25) {L:Low} (hL:RLow n L) (hc:CapD c d pb n w) (hcl:Clean S) (hi:S.is aar=true):Calls prog 208 #[.pointer (some ⟨pb,0,none⟩),.int .i64 (n:Int),.func (.func 206) #[] #[.pointer (some ⟨c,0,none⟩),.pointer (some ⟨d,0,none⟩)]] w fun e w'=>RN (run (zr L) (.inr S)) pb w e w':=by
 have hk:=(ae8 hi).1
 obtain⟨k,hk12,ht⟩:=aev hk
 have b1:((k:Int)==110)=false:=by rcases hk12 with rfl | rfl <;> rfl
 have b2:((k:Int)==105)=false:=by rcases hk12 with rfl | rfl <;> rfl
 have b3:((k:Int)==115)=false:=by rcases hk12 with rfl | rfl <;> rfl
 clear hk12
 have fwTrue:S.is aaw=false:=zh hi (by decide)
 have HS:=zb (show zr L S=bnd (zi S) fun _ S1=>.inr (⟨21,zc,zc,0,S.tl,[]⟩,S1) by rw[adu hk,show aas S=21 by rw[aas,if_neg (show ¬S.is aaw=true by rw[fwTrue];decide),if_pos hi],if_neg (by decide),ad5,(hcl.word hk).1,(hcl.word hk).2];rfl)
 clear hcl
 have hpl:=h.lt
 have HK:=zb hk
 clear hk
 have hcw:=hc.p.lt
 have hdw:=hc.lt
 have hent:=qJ c d
 have HD:Hid (Dp n (.inr S)):=fun T e=>by cases e;exact hd
 have HL:=zb hL
 have hxa:=qK w pb n
 have H0:=zb (h.add hxa)
 have HX0:=zb (hxa.ext pb)
 have HE0:=zb (hc.ext (hxa.ext pb))
 have HC0:=qH w pb n
 clear h hd hL hc hxa
 go_enter func208,ntmps208
 go_wp2_with fail
 refine(aav (za H0) 0).mono ?_
 rintro e w1 ⟨nb,ln,rfl,hnb,hsz,hb,ha,hln⟩
 obtain rfl:=hln S rfl
 have H1:=zb ((za H0).add ha)
 have HX1:=zb ((za HX0).trans (ha.ext pb))
 have HC1:=zb ((za HC0).ext (ha.ext pb))
 have HE1:=zb ((za HE0).ext (ha.ext pb))
 have hnb':w.heap.size+1<nb:=Nat.lt_of_lt_of_le (by simp) hnb
 have HU1:Hid (Und (fun j=>w.heap.size≤j) w1 nb 0 zc zc 0 S.tl [] (.slice none 0 0) []):=⟨by omega,⟨_,hb⟩,Or.inl ⟨rfl,rfl⟩,rfl,fun i h=>absurd h (Nat.not_lt_zero i)⟩
 have c0:=(za HC1).p.cell
 clear ha hb hln hsz hnb H0 HX0 HC0 HE0
 go_wp2_with fail
 refine(abg (za H1)).mono ?_
 rintro e w2 ⟨x,rfl,ha,hx⟩
 obtain rfl:=(hx S rfl).trans ht
 have hxt:=ha.alloc (.cells #[.int .u8 (k:Int),.string S.mrk,.int .i64 0,.int .i64 (S.tp:Int),.int .i64 (S.tl:Int)] 75)
 have H2:=zb ((za H1).add hxt)
 have HX2:=zb ((za HX1).trans (hxt.ext pb))
 have HC2:=zb ((za HC1).ext (hxt.ext pb))
 have HE2:=zb ((za HE1).ext (hxt.ext pb))
 have HU2:=zb ((za HU1).ext (hxt.ext pb) fun j hj=>by omega)
 have ht2:=aaq w2 (.cells #[.int .u8 (k:Int),.string S.mrk,.int .i64 0,.int .i64 (S.tp:Int),.int .i64 (S.tl:Int)] 75)
 clear ha hx hxt H1 HX1 HC1 HE1 HU1 c0 ht
 unfold acx
 dsimp only
 have d0:=zd ht2 0
 simp only[List.getElem?_toArray,List.getElem?_cons_zero,List.getElem?_cons_succ] at d0
 have c0:=(za HC2).p.cell
 have c1:=(za HC2).cell
 clear ht2
 go_wp2_with fail
 refine(zk (za H2) aaw).mono ?_
 rintro e v3 ⟨rfl,hx,h1⟩
 rw[show zq (.inr S) aaw=false from fwTrue]
 rw[zw fwTrue] at h1
 have H3:=zb h1
 have HX3:=zb ((za HX2).trans hx)
 have HC3:=zb ((za HC2).ext hx)
 have HE3:=zb ((za HE2).ext hx)
 have HU3:=zb ((za HU2).ext hx fun j hj=>by omega)
 clear hx h1 c0 c1 HX2 HC2 HE2 HU2
 have c0:=(za HC3).p.cell
 have c1:=(za HC3).cell
 go_wp2_with fail
 clear d0
 refine(zk (za H3) aar).mono ?_
 rintro e v4 ⟨rfl,hx,h1⟩
 rw[show zq (.inr S) aar=true from hi]
 rw[aa6 hi] at h1
 have H4:=zb h1
 have HX4:=zb ((za HX3).trans hx)
 have HC4:=zb ((za HC3).ext hx)
 have HE4:=zb ((za HE3).ext hx)
 have HU4:=zb ((za HU3).ext hx fun j hj=>by omega)
 clear hx h1 c0 c1 HX3 HC3 HE3 HU3
 have c0:=(za HC4).p.cell
 have c1:=(za HC4).cell
 obtain⟨t0,hb⟩:=(za HU4).cells
 have q0:v4.cell? ⟨nb,0,none⟩=some (.int .i64 0):=zd hb 0
 have gz:=zp hb
 have hnv:=(gtE hb).1
 clear hb
 go_wp2_with fail
 go_ret
 refine⟨nb,rfl,(za HX4).setNew ⟨nb,0,none⟩ (show w.heap.size≤nb by omega) _,?_,?_⟩
 ·show At _ pb (zg (zr L S))
  rw[za HS,abw]
  exact(za H4).putNew (by omega) 0 _
 ·intro a T e
  rw[show run (zr L) (.inr S)=zr L S from rfl,za HS] at e
  obtain⟨_,_,_,e⟩:=ze e
  cases e
  exact((za HU4).put 0 (.int .i64 21) (k':=21) rfl).node
theorem axo {w:World} {pb n c d:Nat} {S:LS} (h:At w pb (.inr S)) (hd:S.dp=n) (hn:n≤25) {L:Low} (hL:RLow n L) (hc:CapD c d pb n w) (hcl:Clean S) (hi:S.is ab6=true):Calls prog 208 #[.pointer (some ⟨pb,0,none⟩),.int .i64 (n:Int),.func (.func 206) #[] #[.pointer (some ⟨c,0,none⟩),.pointer (some ⟨d,0,none⟩)]] w fun e w'=>RN (run (zr L) (.inr S)) pb w e w':=by
 have hk:=(ae8 hi).1
 obtain⟨k,hk12,ht⟩:=aev hk
 have b1:((k:Int)==110)=false:=by rcases hk12 with rfl | rfl <;> rfl
 have b2:((k:Int)==105)=false:=by rcases hk12 with rfl | rfl <;> rfl
 have b3:((k:Int)==115)=false:=by rcases hk12 with rfl | rfl <;> rfl
 clear hk12
 have fwTrue:S.is aaw=false:=zh hi (by decide)
 have fwFalse:S.is aar=false:=zh hi (by decide)
 have HS:=zb (show zr L S=bnd (zi S) fun _ S1=>.inr (⟨22,zc,zc,0,S.tl,[]⟩,S1) by rw[adu hk,show aas S=22 by rw[aas,if_neg (show ¬S.is aaw=true by rw[fwTrue];decide),if_neg (show ¬S.is aar=true by rw[fwFalse];decide),if_pos hi],if_neg (by decide),ad5,(hcl.word hk).1,(hcl.word hk).2];rfl)
 clear hcl
 have hpl:=h.lt
 have HK:=zb hk
 clear hk
 have hcw:=hc.p.lt
 have hdw:=hc.lt
 have hent:=qJ c d
 have HD:Hid (Dp n (.inr S)):=fun T e=>by cases e;exact hd
 have HL:=zb hL
 have hxa:=qK w pb n
 have H0:=zb (h.add hxa)
 have HX0:=zb (hxa.ext pb)
 have HE0:=zb (hc.ext (hxa.ext pb))
 have HC0:=qH w pb n
 clear h hd hL hc hxa
 go_enter func208,ntmps208
 go_wp2_with fail
 refine(aav (za H0) 0).mono ?_
 rintro e w1 ⟨nb,ln,rfl,hnb,hsz,hb,ha,hln⟩
 obtain rfl:=hln S rfl
 have H1:=zb ((za H0).add ha)
 have HX1:=zb ((za HX0).trans (ha.ext pb))
 have HC1:=zb ((za HC0).ext (ha.ext pb))
 have HE1:=zb ((za HE0).ext (ha.ext pb))
 have hnb':w.heap.size+1<nb:=Nat.lt_of_lt_of_le (by simp) hnb
 have HU1:Hid (Und (fun j=>w.heap.size≤j) w1 nb 0 zc zc 0 S.tl [] (.slice none 0 0) []):=⟨by omega,⟨_,hb⟩,Or.inl ⟨rfl,rfl⟩,rfl,fun i h=>absurd h (Nat.not_lt_zero i)⟩
 have c0:=(za HC1).p.cell
 clear ha hb hln hsz hnb H0 HX0 HC0 HE0
 go_wp2_with fail
 refine(abg (za H1)).mono ?_
 rintro e w2 ⟨x,rfl,ha,hx⟩
 obtain rfl:=(hx S rfl).trans ht
 have hxt:=ha.alloc (.cells #[.int .u8 (k:Int),.string S.mrk,.int .i64 0,.int .i64 (S.tp:Int),.int .i64 (S.tl:Int)] 75)
 have H2:=zb ((za H1).add hxt)
 have HX2:=zb ((za HX1).trans (hxt.ext pb))
 have HC2:=zb ((za HC1).ext (hxt.ext pb))
 have HE2:=zb ((za HE1).ext (hxt.ext pb))
 have HU2:=zb ((za HU1).ext (hxt.ext pb) fun j hj=>by omega)
 have ht2:=aaq w2 (.cells #[.int .u8 (k:Int),.string S.mrk,.int .i64 0,.int .i64 (S.tp:Int),.int .i64 (S.tl:Int)] 75)
 clear ha hx hxt H1 HX1 HC1 HE1 HU1 c0 ht
 unfold acx
 dsimp only
 have d0:=zd ht2 0
 simp only[List.getElem?_toArray,List.getElem?_cons_zero,List.getElem?_cons_succ] at d0
 have c0:=(za HC2).p.cell
 have c1:=(za HC2).cell
 clear ht2
 go_wp2_with fail
 refine(zk (za H2) aaw).mono ?_
 rintro e v3 ⟨rfl,hx,h1⟩
 rw[show zq (.inr S) aaw=false from fwTrue]
 rw[zw fwTrue] at h1
 have H3:=zb h1
 have HX3:=zb ((za HX2).trans hx)
 have HC3:=zb ((za HC2).ext hx)
 have HE3:=zb ((za HE2).ext hx)
 have HU3:=zb ((za HU2).ext hx fun j hj=>by omega)
 clear hx h1 c0 c1 HX2 HC2 HE2 HU2
 have c0:=(za HC3).p.cell
 have c1:=(za HC3).cell
 go_wp2_with fail
 clear d0
 refine(zk (za H3) aar).mono ?_
 rintro e v4 ⟨rfl,hx,h1⟩
 rw[show zq (.inr S) aar=false from fwFalse]
 rw[zw fwFalse] at h1
 have H4:=zb h1
 have HX4:=zb ((za HX3).trans hx)
 have HC4:=zb ((za HC3).ext hx)
 have HE4:=zb ((za HE3).ext hx)
 have HU4:=zb ((za HU3).ext hx fun j hj=>by omega)
 clear hx h1 c0 c1 HX3 HC3 HE3 HU3
 have c0:=(za HC4).p.cell
 have c1:=(za HC4).cell
 go_wp2_with fail
 refine(zk (za H4) ab6).mono ?_
 rintro e v5 ⟨rfl,hx,h1⟩
 rw[show zq (.inr S) ab6=true from hi]
 rw[aa6 hi] at h1
 have H5:=zb h1
 have HX5:=zb ((za HX4).trans hx)
 have HC5:=zb ((za HC4).ext hx)
 have HE5:=zb ((za HE4).ext hx)
 have HU5:=zb ((za HU4).ext hx fun j hj=>by omega)
 clear hx h1 c0 c1 HX4 HC4 HE4 HU4
 have c0:=(za HC5).p.cell
 have c1:=(za HC5).cell
 obtain⟨t0,hb⟩:=(za HU5).cells
 have q0:v5.cell? ⟨nb,0,none⟩=some (.int .i64 0):=zd hb 0
 have gz:=zp hb
 have hnv:=(gtE hb).1
 clear hb
 go_wp2_with fail
 go_ret
 refine⟨nb,rfl,(za HX5).setNew ⟨nb,0,none⟩ (show w.heap.size≤nb by omega) _,?_,?_⟩
 ·show At _ pb (zg (zr L S))
  rw[za HS,abw]
  exact(za H5).putNew (by omega) 0 _
 ·intro a T e
  rw[show run (zr L) (.inr S)=zr L S from rfl,za HS] at e
  obtain⟨_,_,_,e⟩:=ze e
  cases e
  exact((za HU5).put 0 (.int .i64 22) (k':=22) rfl).node
theorem aux {w:World} {pb n c d:Nat} {S:LS} (h:At w pb (.inr S)) (hd:S.dp=n) (hn:n≤25) {L:Low} (hL:RLow n L) (hc:CapD c d pb n w) (hcl:Clean S) (hi:S.is abn=true):Calls prog 208 #[.pointer (some ⟨pb,0,none⟩),.int .i64 (n:Int),.func (.func 206) #[] #[.pointer (some ⟨c,0,none⟩),.pointer (some ⟨d,0,none⟩)]] w fun e w'=>RN (run (zr L) (.inr S)) pb w e w':=by
 have hk:=(ae8 hi).1
 obtain⟨k,hk12,ht⟩:=aev hk
 have b1:((k:Int)==110)=false:=by rcases hk12 with rfl | rfl <;> rfl
 have b2:((k:Int)==105)=false:=by rcases hk12 with rfl | rfl <;> rfl
 have b3:((k:Int)==115)=false:=by rcases hk12 with rfl | rfl <;> rfl
 clear hk12
 have fwTrue:S.is aaw=false:=zh hi (by decide)
 have fwFalse:S.is aar=false:=zh hi (by decide)
 have fwNil:S.is ab6=false:=zh hi (by decide)
 have HS:=zb (show zr L S=bnd (zi S) fun _ S1=>.inr (⟨23,zc,zc,0,S.tl,[]⟩,S1) by rw[adu hk,show aas S=23 by rw[aas,if_neg (show ¬S.is aaw=true by rw[fwTrue];decide),if_neg (show ¬S.is aar=true by rw[fwFalse];decide),if_neg (show ¬S.is ab6=true by rw[fwNil];decide),if_pos hi],if_neg (by decide),ad5,(hcl.word hk).1,(hcl.word hk).2];rfl)
 clear hcl
 have hpl:=h.lt
 have HK:=zb hk
 clear hk
 have hcw:=hc.p.lt
 have hdw:=hc.lt
 have hent:=qJ c d
 have HD:Hid (Dp n (.inr S)):=fun T e=>by cases e;exact hd
 have HL:=zb hL
 have hxa:=qK w pb n
 have H0:=zb (h.add hxa)
 have HX0:=zb (hxa.ext pb)
 have HE0:=zb (hc.ext (hxa.ext pb))
 have HC0:=qH w pb n
 clear h hd hL hc hxa
 go_enter func208,ntmps208
 go_wp2_with fail
 refine(aav (za H0) 0).mono ?_
 rintro e w1 ⟨nb,ln,rfl,hnb,hsz,hb,ha,hln⟩
 obtain rfl:=hln S rfl
 have H1:=zb ((za H0).add ha)
 have HX1:=zb ((za HX0).trans (ha.ext pb))
 have HC1:=zb ((za HC0).ext (ha.ext pb))
 have HE1:=zb ((za HE0).ext (ha.ext pb))
 have hnb':w.heap.size+1<nb:=Nat.lt_of_lt_of_le (by simp) hnb
 have HU1:Hid (Und (fun j=>w.heap.size≤j) w1 nb 0 zc zc 0 S.tl [] (.slice none 0 0) []):=⟨by omega,⟨_,hb⟩,Or.inl ⟨rfl,rfl⟩,rfl,fun i h=>absurd h (Nat.not_lt_zero i)⟩
 have c0:=(za HC1).p.cell
 clear ha hb hln hsz hnb H0 HX0 HC0 HE0
 go_wp2_with fail
 refine(abg (za H1)).mono ?_
 rintro e w2 ⟨x,rfl,ha,hx⟩
 obtain rfl:=(hx S rfl).trans ht
 have hxt:=ha.alloc (.cells #[.int .u8 (k:Int),.string S.mrk,.int .i64 0,.int .i64 (S.tp:Int),.int .i64 (S.tl:Int)] 75)
 have H2:=zb ((za H1).add hxt)
 have HX2:=zb ((za HX1).trans (hxt.ext pb))
 have HC2:=zb ((za HC1).ext (hxt.ext pb))
 have HE2:=zb ((za HE1).ext (hxt.ext pb))
 have HU2:=zb ((za HU1).ext (hxt.ext pb) fun j hj=>by omega)
 have ht2:=aaq w2 (.cells #[.int .u8 (k:Int),.string S.mrk,.int .i64 0,.int .i64 (S.tp:Int),.int .i64 (S.tl:Int)] 75)
 clear ha hx hxt H1 HX1 HC1 HE1 HU1 c0 ht
 unfold acx
 dsimp only
 have d0:=zd ht2 0
 simp only[List.getElem?_toArray,List.getElem?_cons_zero,List.getElem?_cons_succ] at d0
 have c0:=(za HC2).p.cell
 have c1:=(za HC2).cell
 clear ht2
 go_wp2_with fail
 refine(zk (za H2) aaw).mono ?_
 rintro e v3 ⟨rfl,hx,h1⟩
 rw[show zq (.inr S) aaw=false from fwTrue]
 rw[zw fwTrue] at h1
 have H3:=zb h1
 have HX3:=zb ((za HX2).trans hx)
 have HC3:=zb ((za HC2).ext hx)
 have HE3:=zb ((za HE2).ext hx)
 have HU3:=zb ((za HU2).ext hx fun j hj=>by omega)
 clear hx h1 c0 c1 HX2 HC2 HE2 HU2
 have c0:=(za HC3).p.cell
 have c1:=(za HC3).cell
 go_wp2_with fail
 clear d0
 refine(zk (za H3) aar).mono ?_
 rintro e v4 ⟨rfl,hx,h1⟩
 rw[show zq (.inr S) aar=false from fwFalse]
 rw[zw fwFalse] at h1
 have H4:=zb h1
 have HX4:=zb ((za HX3).trans hx)
 have HC4:=zb ((za HC3).ext hx)
 have HE4:=zb ((za HE3).ext hx)
 have HU4:=zb ((za HU3).ext hx fun j hj=>by omega)
 clear hx h1 c0 c1 HX3 HC3 HE3 HU3
 have c0:=(za HC4).p.cell
 have c1:=(za HC4).cell
 go_wp2_with fail
 refine(zk (za H4) ab6).mono ?_
 rintro e v5 ⟨rfl,hx,h1⟩
 rw[show zq (.inr S) ab6=false from fwNil]
 rw[zw fwNil] at h1
 have H5:=zb h1
 have HX5:=zb ((za HX4).trans hx)
 have HC5:=zb ((za HC4).ext hx)
 have HE5:=zb ((za HE4).ext hx)
 have HU5:=zb ((za HU4).ext hx fun j hj=>by omega)
 clear hx h1 c0 c1 HX4 HC4 HE4 HU4
 have c0:=(za HC5).p.cell
 have c1:=(za HC5).cell
 go_wp2_with fail
 refine(zk (za H5) abn).mono ?_
 rintro e v6 ⟨rfl,hx,h1⟩
 rw[show zq (.inr S) abn=true from hi]
 rw[aa6 hi] at h1
 have H6:=zb h1
 have HX6:=zb ((za HX5).trans hx)
 have HC6:=zb ((za HC5).ext hx)
 have HE6:=zb ((za HE5).ext hx)
 have HU6:=zb ((za HU5).ext hx fun j hj=>by omega)
 clear hx h1 c0 c1 HX5 HC5 HE5 HU5
 have c0:=(za HC6).p.cell
 have c1:=(za HC6).cell
 obtain⟨t0,hb⟩:=(za HU6).cells
 have q0:v6.cell? ⟨nb,0,none⟩=some (.int .i64 0):=zd hb 0
 have gz:=zp hb
 have hnv:=(gtE hb).1
 clear hb
 go_wp2_with fail
 go_ret
 refine⟨nb,rfl,(za HX6).setNew ⟨nb,0,none⟩ (show w.heap.size≤nb by omega) _,?_,?_⟩
 ·show At _ pb (zg (zr L S))
  rw[za HS,abw]
  exact(za H6).putNew (by omega) 0 _
 ·intro a T e
  rw[show run (zr L) (.inr S)=zr L S from rfl,za HS] at e
  obtain⟨_,_,_,e⟩:=ze e
  cases e
  exact((za HU6).put 0 (.int .i64 23) (k':=23) rfl).node
end Go.Proofs.YtndgajlidckcdaaGreatDoor
