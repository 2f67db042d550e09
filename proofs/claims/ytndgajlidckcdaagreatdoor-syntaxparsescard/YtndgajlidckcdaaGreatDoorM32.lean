/- A part. -/
import Derived.Test.YtndgajlidckcdaaGreatDoorM31
open Go.Proofs.Tryz
namespace Go.Proofs.YtndgajlidckcdaaGreatDoor
open Go.RowKit
set_option linter.unusedVariables false
set_option linter.unusedSimpArgs false
set_option maxRecDepth 100000
set_option maxHeartbeats 8000000
theorem bdd {S:LS} (h2:S.kd≠2) (h3:S.kd≠3) (h4:S.kd≠4):∃k tx0,zv S=⟨k,tx0,0,S.tp,S.tl⟩∧((k:Int)==110)=false∧((k:Int)==105)=false∧((k:Int)==115)=false:=by
 by_cases h1:S.kd=1
 ·obtain⟨k,hk,ht⟩:=aev h1
  exact⟨k,_,ht,by rcases hk with rfl | rfl <;> rfl,by rcases hk with rfl | rfl <;> rfl,by rcases hk with rfl | rfl <;> rfl⟩
 ·exact⟨101,⟨#[]⟩,by rw[zv,if_neg h1,if_neg h2,if_neg h3,if_neg h4],rfl,rfl,rfl⟩
theorem auy {w:World} {pb n c d:Nat} {S:LS} (h:At w pb (.inr S)) (hd:S.dp=n) (hn:n≤25) {L:Low} (hL:RLow n L) (hc:CapD c d pb n w) (hcl:Clean S) (hi:S.is z8=true):Calls prog 208 #[.pointer (some ⟨pb,0,none⟩),.int .i64 (n:Int),.func (.func 206) #[] #[.pointer (some ⟨c,0,none⟩),.pointer (some ⟨d,0,none⟩)]] w fun e w'=>RN (run (zr L) (.inr S)) pb w e w':=by
 have hk:=(ae8 hi).1
 obtain⟨k,hk12,ht⟩:=aev hk
 have b1:((k:Int)==110)=false:=by rcases hk12 with rfl | rfl <;> rfl
 have b2:((k:Int)==105)=false:=by rcases hk12 with rfl | rfl <;> rfl
 have b3:((k:Int)==115)=false:=by rcases hk12 with rfl | rfl <;> rfl
 clear hk12
 have fwTrue:S.is aaw=false:=zh hi (by decide)
 have fwFalse:S.is aar=false:=zh hi (by decide)
 have fwNil:S.is ab6=false:=zh hi (by decide)
 have fwThis:S.is abn=false:=zh hi (by decide)
 have fwNew:S.is ab7=false:=zh hi (by decide)
 have fwSuper:S.is aa8=false:=zh hi (by decide)
 have HS:=zb (show zr L S=bnd (zi S) fun _ S1=>bnd (abp ack L.V S1) fun us S2=>.inr (nd 27 S.tl us,S2) by rw[adu hk,show aas S=0 by rw[aas,if_neg (show ¬S.is aaw=true by rw[zh hi (show (z8.data.toList==aaw.data.toList)=false by decide)];decide),if_neg (show ¬S.is aar=true by rw[zh hi (show (z8.data.toList==aar.data.toList)=false by decide)];decide),if_neg (show ¬S.is ab6=true by rw[zh hi (show (z8.data.toList==ab6.data.toList)=false by decide)];decide),if_neg (show ¬S.is abn=true by rw[zh hi (show (z8.data.toList==abn.data.toList)=false by decide)];decide)],if_pos rfl,abm,if_neg (show ¬S.is zt=true by rw[zh hi (show (z8.data.toList==zt.data.toList)=false by decide)];decide),if_pos hi])
 clear hcl
 have hpl:=h.lt
 have HK:=zb hk
 clear hk
 have hcw:=hc.p.lt
 have hdw:=hc.lt
 have hent:=qJ c d
 have HD:Hid (Dp n (.inr S)):=fun T e=>by cases e;exact hd
 have HL:=zb hL
 have hxa:=qK w pb n
 have H0:=zb (h.add hxa)
 have HX0:=zb (hxa.ext pb)
 have HE0:=zb (hc.ext (hxa.ext pb))
 have HC0:=qH w pb n
 clear h hd hL hc hxa
 go_enter func208,ntmps208
 go_wp2_with fail
 refine(aav (za H0) 0).mono ?_
 rintro e w1 ⟨nb,ln,rfl,hnb,hsz,hb,ha,hln⟩
 obtain rfl:=hln S rfl
 have H1:=zb ((za H0).add ha)
 have HX1:=zb ((za HX0).trans (ha.ext pb))
 have HC1:=zb ((za HC0).ext (ha.ext pb))
 have HE1:=zb ((za HE0).ext (ha.ext pb))
 have hnb':w.heap.size+1<nb:=Nat.lt_of_lt_of_le (by simp) hnb
 have HU1:Hid (Und (fun j=>w.heap.size≤j) w1 nb 0 zc zc 0 S.tl [] (.slice none 0 0) []):=⟨by omega,⟨_,hb⟩,Or.inl ⟨rfl,rfl⟩,rfl,fun i h=>absurd h (Nat.not_lt_zero i)⟩
 have c0:=(za HC1).p.cell
 clear ha hb hln hsz hnb H0 HX0 HC0 HE0
 go_wp2_with fail
 refine(abg (za H1)).mono ?_
 rintro e w2 ⟨x,rfl,ha,hx⟩
 obtain rfl:=(hx S rfl).trans ht
 have hxt:=ha.alloc (.cells #[.int .u8 (k:Int),.string S.mrk,.int .i64 0,.int .i64 (S.tp:Int),.int .i64 (S.tl:Int)] 75)
 have H2:=zb ((za H1).add hxt)
 have HX2:=zb ((za HX1).trans (hxt.ext pb))
 have HC2:=zb ((za HC1).ext (hxt.ext pb))
 have HE2:=zb ((za HE1).ext (hxt.ext pb))
 have HU2:=zb ((za HU1).ext (hxt.ext pb) fun j hj=>by omega)
 have ht2:=aaq w2 (.cells #[.int .u8 (k:Int),.string S.mrk,.int .i64 0,.int .i64 (S.tp:Int),.int .i64 (S.tl:Int)] 75)
 clear ha hx hxt H1 HX1 HC1 HE1 HU1 c0 ht
 unfold acx
 dsimp only
 have d0:=zd ht2 0
 simp only[List.getElem?_toArray,List.getElem?_cons_zero,List.getElem?_cons_succ] at d0
 have c0:=(za HC2).p.cell
 have c1:=(za HC2).cell
 clear ht2
 go_wp2_with fail
 refine(zk (za H2) aaw).mono ?_
 rintro e v3 ⟨rfl,hx,h1⟩
 rw[show zq (.inr S) aaw=false from fwTrue]
 rw[zw fwTrue] at h1
 have H3:=zb h1
 have HX3:=zb ((za HX2).trans hx)
 have HC3:=zb ((za HC2).ext hx)
 have HE3:=zb ((za HE2).ext hx)
 have HU3:=zb ((za HU2).ext hx fun j hj=>by omega)
 clear hx h1 c0 c1 HX2 HC2 HE2 HU2
 have c0:=(za HC3).p.cell
 have c1:=(za HC3).cell
 go_wp2_with fail
 clear d0
 refine(zk (za H3) aar).mono ?_
 rintro e v4 ⟨rfl,hx,h1⟩
 rw[show zq (.inr S) aar=false from fwFalse]
 rw[zw fwFalse] at h1
 have H4:=zb h1
 have HX4:=zb ((za HX3).trans hx)
 have HC4:=zb ((za HC3).ext hx)
 have HE4:=zb ((za HE3).ext hx)
 have HU4:=zb ((za HU3).ext hx fun j hj=>by omega)
 clear hx h1 c0 c1 HX3 HC3 HE3 HU3
 have c0:=(za HC4).p.cell
 have c1:=(za HC4).cell
 go_wp2_with fail
 refine(zk (za H4) ab6).mono ?_
 rintro e v5 ⟨rfl,hx,h1⟩
 rw[show zq (.inr S) ab6=false from fwNil]
 rw[zw fwNil] at h1
 have H5:=zb h1
 have HX5:=zb ((za HX4).trans hx)
 have HC5:=zb ((za HC4).ext hx)
 have HE5:=zb ((za HE4).ext hx)
 have HU5:=zb ((za HU4).ext hx fun j hj=>by omega)
 clear hx h1 c0 c1 HX4 HC4 HE4 HU4
 have c0:=(za HC5).p.cell
 have c1:=(za HC5).cell
 go_wp2_with fail
 refine(zk (za H5) abn).mono ?_
 rintro e v6 ⟨rfl,hx,h1⟩
 rw[show zq (.inr S) abn=false from fwThis]
 rw[zw fwThis] at h1
 have H6:=zb h1
 have HX6:=zb ((za HX5).trans hx)
 have HC6:=zb ((za HC5).ext hx)
 have HE6:=zb ((za HE5).ext hx)
 have HU6:=zb ((za HU5).ext hx fun j hj=>by omega)
 clear hx h1 c0 c1 HX5 HC5 HE5 HU5
 have c0:=(za HC6).p.cell
 have c1:=(za HC6).cell
 go_wp2_with fail
 refine(zk (za H6) ab7).mono ?_
 rintro e v7 ⟨rfl,hx,h1⟩
 rw[show zq (.inr S) ab7=false from fwNew]
 rw[zw fwNew] at h1
 have H7:=zb h1
 have HX7:=zb ((za HX6).trans hx)
 have HC7:=zb ((za HC6).ext hx)
 have HE7:=zb ((za HE6).ext hx)
 have HU7:=zb ((za HU6).ext hx fun j hj=>by omega)
 clear hx h1 c0 c1 HX6 HC6 HE6 HU6
 have c0:=(za HC7).p.cell
 have c1:=(za HC7).cell
 go_wp2_with fail
 refine(zk (za H7) aa8).mono ?_
 rintro e v8 ⟨rfl,hx,h1⟩
 rw[show zq (.inr S) aa8=false from fwSuper]
 rw[zw fwSuper] at h1
 have H8:=zb h1
 have HX8:=zb ((za HX7).trans hx)
 have HC8:=zb ((za HC7).ext hx)
 have HE8:=zb ((za HE7).ext hx)
 have HU8:=zb ((za HU7).ext hx fun j hj=>by omega)
 clear hx h1 c0 c1 HX7 HC7 HE7 HU7
 have c0:=(za HC8).p.cell
 have c1:=(za HC8).cell
 go_wp2_with fail
 refine(zk (za H8) z8).mono ?_
 rintro e v9 ⟨rfl,hx,h1⟩
 rw[show zq (.inr S) z8=true from hi]
 rw[aa6 hi] at h1
 have H9:=zb h1
 have HX9:=zb ((za HX8).trans hx)
 have HC9:=zb ((za HC8).ext hx)
 have HE9:=zb ((za HE8).ext hx)
 have HU9:=zb ((za HU8).ext hx fun j hj=>by omega)
 clear hx h1 c0 c1 HX8 HC8 HE8 HU8
 have c0:=(za HC9).p.cell
 have c1:=(za HC9).cell
 have HD1:Hid (Dp n (zg (zi S))):=aa6 hi ▸ (za HD).eat z8 (za H8)
 go_wp2_with fail
 obtain⟨t0,hb⟩:=(za HU9).cells
 have hnj:=(gtE hb).1
 clear hb
 refine(ak1 (za H9) (za HD1) ack 238 #[.pointer (some ⟨w.heap.size,0,none⟩),.pointer (some ⟨w.heap.size+1,0,none⟩)] (CapD w.heap.size (w.heap.size+1) pb n) L.V (axl hn (za HL)) (za HC9)).mono ?_
 rintro e v10 ⟨kv,kvs,rfl,hr,hl,hx,h1,hv⟩
 obtain⟨la,lcap,rfl⟩:=hr.form
 have HV:=zb hv
 clear hr hv
 have H10:=zb h1
 have HX10:=zb ((za HX9).trans hx)
 have HC10:=zb ((za HC9).ext hx)
 have HE10:=zb ((za HE9).ext hx)
 have HU10:=zb ((za HU9).ext hx fun j hj=>by omega)
 clear hx h1 c0 c1 HX9 HC9 HE9 HU9
 have c0:=(za HC10).p.cell
 have c1:=(za HC10).cell
 obtain⟨t0,hb⟩:=(za HU10).cells
 have q0:v10.cell? ⟨nb,0,none⟩=some (.int .i64 0):=zd hb 0
 have q5:v10.cell? ⟨nb,5,none⟩=some (.slice none 0 0):=zd hb 5
 have gz:=zp hb
 have hnv:=(gtE hb).1
 clear hb
 go_wp2_with fail
 go_ret
 refine⟨nb,rfl,((za HX10).setNew ⟨nb,0,none⟩ (show w.heap.size≤nb by omega) _).setNew ⟨nb,5,none⟩ (show w.heap.size≤nb by omega) _,?_,?_⟩
 ·show At _ pb (zg (zr L S))
  rw[za HS,aaz (R:=abp ack L.V) fun _ _=>abw]
  exact((za H10).putNew (by omega) 0 _).putNew (by omega) 5 _
 ·intro a T e
  rw[show run (zr L) (.inr S)=zr L S from rfl,za HS] at e
  obtain⟨_,S1,e1,e⟩:=ze e
  obtain⟨us,S2,e2,e⟩:=ze e
  cases e
  have q:run (abp ack L.V) (zg (zi S))=.inr (us,T):=by rw[e1];exact e2
  obtain⟨uvs,hl2,_⟩:=za HV us T q
  exact(((za HU10).put 0 (.int .i64 27) (k':=27) rfl).setKids (hl2.put hnj 0 _) hnj).node
theorem ban {w:World} {pb n c d:Nat} {S:LS} (h:At w pb (.inr S)) (hd:S.dp=n) (hn:n≤25) {L:Low} (hL:RLow n L) (hc:CapD c d pb n w) (hcl:Clean S) (hi:S.is wFn=true):Calls prog 208 #[.pointer (some ⟨pb,0,none⟩),.int .i64 (n:Int),.func (.func 206) #[] #[.pointer (some ⟨c,0,none⟩),.pointer (some ⟨d,0,none⟩)]] w fun e w'=>RN (run (zr L) (.inr S)) pb w e w':=by
 have hk:=(ae8 hi).1
 obtain⟨k,hk12,ht⟩:=aev hk
 have b1:((k:Int)==110)=false:=by rcases hk12 with rfl | rfl <;> rfl
 have b2:((k:Int)==105)=false:=by rcases hk12 with rfl | rfl <;> rfl
 have b3:((k:Int)==115)=false:=by rcases hk12 with rfl | rfl <;> rfl
 clear hk12
 have fwTrue:S.is aaw=false:=zh hi (by decide)
 have fwFalse:S.is aar=false:=zh hi (by decide)
 have fwNil:S.is ab6=false:=zh hi (by decide)
 have fwThis:S.is abn=false:=zh hi (by decide)
 have fwNew:S.is ab7=false:=zh hi (by decide)
 have fwSuper:S.is aa8=false:=zh hi (by decide)
 have ftSquare:S.is z8=false:=zh hi (by decide)
 have HS:=zb (show zr L S=bnd (zi S) fun _ S1=>bnd (adn L S1) fun pb S2=>.inr (nd 28 S.tl [pb.1,pb.2],S2) by rw[adu hk,show aas S=0 by rw[aas,if_neg (show ¬S.is aaw=true by rw[zh hi (show (wFn.data.toList==aaw.data.toList)=false by decide)];decide),if_neg (show ¬S.is aar=true by rw[zh hi (show (wFn.data.toList==aar.data.toList)=false by decide)];decide),if_neg (show ¬S.is ab6=true by rw[zh hi (show (wFn.data.toList==ab6.data.toList)=false by decide)];decide),if_neg (show ¬S.is abn=true by rw[zh hi (show (wFn.data.toList==abn.data.toList)=false by decide)];decide)],if_pos rfl,abm,if_neg (show ¬S.is zt=true by rw[zh hi (show (wFn.data.toList==zt.data.toList)=false by decide)];decide),if_neg (show ¬S.is z8=true by rw[zh hi (show (wFn.data.toList==z8.data.toList)=false by decide)];decide),if_pos hi];rfl)
 clear hcl
 have hpl:=h.lt
 have HK:=zb hk
 clear hk
 have hcw:=hc.p.lt
 have hdw:=hc.lt
 have hent:=qJ c d
 have HD:Hid (Dp n (.inr S)):=fun T e=>by cases e;exact hd
 have HL:=zb hL
 have hxa:=qK w pb n
 have H0:=zb (h.add hxa)
 have HX0:=zb (hxa.ext pb)
 have HE0:=zb (hc.ext (hxa.ext pb))
 have HC0:=qH w pb n
 clear h hd hL hc hxa
 go_enter func208,ntmps208
 go_wp2_with fail
 refine(aav (za H0) 0).mono ?_
 rintro e w1 ⟨nb,ln,rfl,hnb,hsz,hb,ha,hln⟩
 obtain rfl:=hln S rfl
 have H1:=zb ((za H0).add ha)
 have HX1:=zb ((za HX0).trans (ha.ext pb))
 have HC1:=zb ((za HC0).ext (ha.ext pb))
 have HE1:=zb ((za HE0).ext (ha.ext pb))
 have hnb':w.heap.size+1<nb:=Nat.lt_of_lt_of_le (by simp) hnb
 have HU1:Hid (Und (fun j=>w.heap.size≤j) w1 nb 0 zc zc 0 S.tl [] (.slice none 0 0) []):=⟨by omega,⟨_,hb⟩,Or.inl ⟨rfl,rfl⟩,rfl,fun i h=>absurd h (Nat.not_lt_zero i)⟩
 have c0:=(za HC1).p.cell
 clear ha hb hln hsz hnb H0 HX0 HC0 HE0
 go_wp2_with fail
 refine(abg (za H1)).mono ?_
 rintro e w2 ⟨x,rfl,ha,hx⟩
 obtain rfl:=(hx S rfl).trans ht
 have hxt:=ha.alloc (.cells #[.int .u8 (k:Int),.string S.mrk,.int .i64 0,.int .i64 (S.tp:Int),.int .i64 (S.tl:Int)] 75)
 have H2:=zb ((za H1).add hxt)
 have HX2:=zb ((za HX1).trans (hxt.ext pb))
 have HC2:=zb ((za HC1).ext (hxt.ext pb))
 have HE2:=zb ((za HE1).ext (hxt.ext pb))
 have HU2:=zb ((za HU1).ext (hxt.ext pb) fun j hj=>by omega)
 have ht2:=aaq w2 (.cells #[.int .u8 (k:Int),.string S.mrk,.int .i64 0,.int .i64 (S.tp:Int),.int .i64 (S.tl:Int)] 75)
 clear ha hx hxt H1 HX1 HC1 HE1 HU1 c0 ht
 unfold acx
 dsimp only
 have d0:=zd ht2 0
 simp only[List.getElem?_toArray,List.getElem?_cons_zero,List.getElem?_cons_succ] at d0
 have c0:=(za HC2).p.cell
 have c1:=(za HC2).cell
 clear ht2
 go_wp2_with fail
 refine(zk (za H2) aaw).mono ?_
 rintro e v3 ⟨rfl,hx,h1⟩
 rw[show zq (.inr S) aaw=false from fwTrue]
 rw[zw fwTrue] at h1
 have H3:=zb h1
 have HX3:=zb ((za HX2).trans hx)
 have HC3:=zb ((za HC2).ext hx)
 have HE3:=zb ((za HE2).ext hx)
 have HU3:=zb ((za HU2).ext hx fun j hj=>by omega)
 clear hx h1 c0 c1 HX2 HC2 HE2 HU2
 have c0:=(za HC3).p.cell
 have c1:=(za HC3).cell
 go_wp2_with fail
 clear d0
 refine(zk (za H3) aar).mono ?_
 rintro e v4 ⟨rfl,hx,h1⟩
 rw[show zq (.inr S) aar=false from fwFalse]
 rw[zw fwFalse] at h1
 have H4:=zb h1
 have HX4:=zb ((za HX3).trans hx)
 have HC4:=zb ((za HC3).ext hx)
 have HE4:=zb ((za HE3).ext hx)
 have HU4:=zb ((za HU3).ext hx fun j hj=>by omega)
 clear hx h1 c0 c1 HX3 HC3 HE3 HU3
 have c0:=(za HC4).p.cell
 have c1:=(za HC4).cell
 go_wp2_with fail
 refine(zk (za H4) ab6).mono ?_
 rintro e v5 ⟨rfl,hx,h1⟩
 rw[show zq (.inr S) ab6=false from fwNil]
 rw[zw fwNil] at h1
 have H5:=zb h1
 have HX5:=zb ((za HX4).trans hx)
 have HC5:=zb ((za HC4).ext hx)
 have HE5:=zb ((za HE4).ext hx)
 have HU5:=zb ((za HU4).ext hx fun j hj=>by omega)
 clear hx h1 c0 c1 HX4 HC4 HE4 HU4
 have c0:=(za HC5).p.cell
 have c1:=(za HC5).cell
 go_wp2_with fail
 refine(zk (za H5) abn).mono ?_
 rintro e v6 ⟨rfl,hx,h1⟩
 rw[show zq (.inr S) abn=false from fwThis]
 rw[zw fwThis] at h1
 have H6:=zb h1
 have HX6:=zb ((za HX5).trans hx)
 have HC6:=zb ((za HC5).ext hx)
 have HE6:=zb ((za HE5).ext hx)
 have HU6:=zb ((za HU5).ext hx fun j hj=>by omega)
 clear hx h1 c0 c1 HX5 HC5 HE5 HU5
 have c0:=(za HC6).p.cell
 have c1:=(za HC6).cell
 go_wp2_with fail
 refine(zk (za H6) ab7).mono ?_
 rintro e v7 ⟨rfl,hx,h1⟩
 rw[show zq (.inr S) ab7=false from fwNew]
 rw[zw fwNew] at h1
 have H7:=zb h1
 have HX7:=zb ((za HX6).trans hx)
 have HC7:=zb ((za HC6).ext hx)
 have HE7:=zb ((za HE6).ext hx)
 have HU7:=zb ((za HU6).ext hx fun j hj=>by omega)
 clear hx h1 c0 c1 HX6 HC6 HE6 HU6
 have c0:=(za HC7).p.cell
 have c1:=(za HC7).cell
 go_wp2_with fail
 refine(zk (za H7) aa8).mono ?_
 rintro e v8 ⟨rfl,hx,h1⟩
 rw[show zq (.inr S) aa8=false from fwSuper]
 rw[zw fwSuper] at h1
 have H8:=zb h1
 have HX8:=zb ((za HX7).trans hx)
 have HC8:=zb ((za HC7).ext hx)
 have HE8:=zb ((za HE7).ext hx)
 have HU8:=zb ((za HU7).ext hx fun j hj=>by omega)
 clear hx h1 c0 c1 HX7 HC7 HE7 HU7
 have c0:=(za HC8).p.cell
 have c1:=(za HC8).cell
 go_wp2_with fail
 refine(zk (za H8) z8).mono ?_
 rintro e v9 ⟨rfl,hx,h1⟩
 rw[show zq (.inr S) z8=false from ftSquare]
 rw[zw ftSquare] at h1
 have H9:=zb h1
 have HX9:=zb ((za HX8).trans hx)
 have HC9:=zb ((za HC8).ext hx)
 have HE9:=zb ((za HE8).ext hx)
 have HU9:=zb ((za HU8).ext hx fun j hj=>by omega)
 clear hx h1 c0 c1 HX8 HC8 HE8 HU8
 have c0:=(za HC9).p.cell
 have c1:=(za HC9).cell
 go_wp2_with fail
 refine(zk (za H9) wFn).mono ?_
 rintro e v10 ⟨rfl,hx,h1⟩
 rw[show zq (.inr S) wFn=true from hi]
 rw[aa6 hi] at h1
 have H10:=zb h1
 have HX10:=zb ((za HX9).trans hx)
 have HC10:=zb ((za HC9).ext hx)
 have HE10:=zb ((za HE9).ext hx)
 have HU10:=zb ((za HU9).ext hx fun j hj=>by omega)
 clear hx h1 c0 c1 HX9 HC9 HE9 HU9
 have c0:=(za HC10).p.cell
 have c1:=(za HC10).cell
 have HD1:Hid (Dp n (zg (zi S))):=aa6 hi ▸ (za HD).eat wFn (za H9)
 go_wp2_with fail
 obtain⟨t0,hb⟩:=(za HU10).cells
 have hnj:=(gtE hb).1
 clear hb
 refine(ak2 (za H10) (za HD1) hn (za HL)).mono ?_
 rintro e v11 ⟨kv,kvs,rfl,hr,hl,hx,h1,hv⟩
 obtain⟨la,lcap,rfl⟩:=hr.form
 have HV:=zb hv
 clear hr hv
 have H11:=zb h1
 have HX11:=zb ((za HX10).trans hx)
 have HC11:=zb ((za HC10).ext hx)
 have HE11:=zb ((za HE10).ext hx)
 have HU11:=zb ((za HU10).ext hx fun j hj=>by omega)
 clear hx h1 c0 c1 HX10 HC10 HE10 HU10
 have c0:=(za HC11).p.cell
 have c1:=(za HC11).cell
 obtain⟨t0,hb⟩:=(za HU11).cells
 have q0:v11.cell? ⟨nb,0,none⟩=some (.int .i64 0):=zd hb 0
 have q5:v11.cell? ⟨nb,5,none⟩=some (.slice none 0 0):=zd hb 5
 have gz:=zp hb
 have hnv:=(gtE hb).1
 clear hb
 go_wp2_with fail
 go_ret
 refine⟨nb,rfl,((za HX11).setNew ⟨nb,0,none⟩ (show w.heap.size≤nb by omega) _).setNew ⟨nb,5,none⟩ (show w.heap.size≤nb by omega) _,?_,?_⟩
 ·show At _ pb (zg (zr L S))
  rw[za HS,aaz (R:=adn L) fun _ _=>abw]
  exact((za H11).putNew (by omega) 0 _).putNew (by omega) 5 _
 ·intro a T e
  rw[show run (zr L) (.inr S)=zr L S from rfl,za HS] at e
  obtain⟨_,S1,e1,e⟩:=ze e
  obtain⟨us,S2,e2,e⟩:=ze e
  cases e
  have q:run (adn L) (zg (zi S))=.inr (us,T):=by rw[e1];exact e2
  have hl2:=za HV us T q
  have hfin:=(((za HU11).put 0 (.int .i64 28) (k':=28) rfl).setKids (hl2.put hnj 0 _) hnj).node
  rw[hl] at hfin
  exact hfin
theorem axq {w:World} {pb n c d:Nat} {S:LS} (h:At w pb (.inr S)) (hd:S.dp=n) (hn:n≤25) {L:Low} (hL:RLow n L) (hc:CapD c d pb n w) (hcl:Clean S) (hi:S.is aed=true):Calls prog 208 #[.pointer (some ⟨pb,0,none⟩),.int .i64 (n:Int),.func (.func 206) #[] #[.pointer (some ⟨c,0,none⟩),.pointer (some ⟨d,0,none⟩)]] w fun e w'=>RN (run (zr L) (.inr S)) pb w e w':=by
 have hk:=(ae8 hi).1
 obtain⟨k,hk12,ht⟩:=aev hk
 have b1:((k:Int)==110)=false:=by rcases hk12 with rfl | rfl <;> rfl
 have b2:((k:Int)==105)=false:=by rcases hk12 with rfl | rfl <;> rfl
 have b3:((k:Int)==115)=false:=by rcases hk12 with rfl | rfl <;> rfl
 clear hk12
 have fwTrue:S.is aaw=false:=zh hi (by decide)
 have fwFalse:S.is aar=false:=zh hi (by decide)
 have fwNil:S.is ab6=false:=zh hi (by decide)
 have fwThis:S.is abn=false:=zh hi (by decide)
 have fwNew:S.is ab7=false:=zh hi (by decide)
 have fwSuper:S.is aa8=false:=zh hi (by decide)
 have ftSquare:S.is z8=false:=zh hi (by decide)
 have fwFn:S.is wFn=false:=zh hi (by decide)
 have fwInput:S.is aca=false:=zh hi (by decide)
 have HS:=zb (show zr L S=bnd (zi S) fun _ S1=>bnd (aa7 L S1) fun t S2=>.inr (nd 30 S.tl [t],S2) by rw[adu hk,show aas S=0 by rw[aas,if_neg (show ¬S.is aaw=true by rw[zh hi (show (aed.data.toList==aaw.data.toList)=false by decide)];decide),if_neg (show ¬S.is aar=true by rw[zh hi (show (aed.data.toList==aar.data.toList)=false by decide)];decide),if_neg (show ¬S.is ab6=true by rw[zh hi (show (aed.data.toList==ab6.data.toList)=false by decide)];decide),if_neg (show ¬S.is abn=true by rw[zh hi (show (aed.data.toList==abn.data.toList)=false by decide)];decide)],if_pos rfl,abm,if_neg (show ¬S.is zt=true by rw[zh hi (show (aed.data.toList==zt.data.toList)=false by decide)];decide),if_neg (show ¬S.is z8=true by rw[zh hi (show (aed.data.toList==z8.data.toList)=false by decide)];decide),if_neg (show ¬S.is wFn=true by rw[zh hi (show (aed.data.toList==wFn.data.toList)=false by decide)];decide),if_neg (show ¬S.is ab7=true by rw[zh hi (show (aed.data.toList==ab7.data.toList)=false by decide)];decide),if_neg (show ¬S.is aa8=true by rw[zh hi (show (aed.data.toList==aa8.data.toList)=false by decide)];decide),if_neg (show ¬S.is aca=true by rw[zh hi (show (aed.data.toList==aca.data.toList)=false by decide)];decide),if_pos hi])
 clear hcl
 have hpl:=h.lt
 have HK:=zb hk
 clear hk
 have hcw:=hc.p.lt
 have hdw:=hc.lt
 have hent:=qJ c d
 have HD:Hid (Dp n (.inr S)):=fun T e=>by cases e;exact hd
 have HL:=zb hL
 have hxa:=qK w pb n
 have H0:=zb (h.add hxa)
 have HX0:=zb (hxa.ext pb)
 have HE0:=zb (hc.ext (hxa.ext pb))
 have HC0:=qH w pb n
 clear h hd hL hc hxa
 go_enter func208,ntmps208
 go_wp2_with fail
 refine(aav (za H0) 0).mono ?_
 rintro e w1 ⟨nb,ln,rfl,hnb,hsz,hb,ha,hln⟩
 obtain rfl:=hln S rfl
 have H1:=zb ((za H0).add ha)
 have HX1:=zb ((za HX0).trans (ha.ext pb))
 have HC1:=zb ((za HC0).ext (ha.ext pb))
 have HE1:=zb ((za HE0).ext (ha.ext pb))
 have hnb':w.heap.size+1<nb:=Nat.lt_of_lt_of_le (by simp) hnb
 have HU1:Hid (Und (fun j=>w.heap.size≤j) w1 nb 0 zc zc 0 S.tl [] (.slice none 0 0) []):=⟨by omega,⟨_,hb⟩,Or.inl ⟨rfl,rfl⟩,rfl,fun i h=>absurd h (Nat.not_lt_zero i)⟩
 have c0:=(za HC1).p.cell
 clear ha hb hln hsz hnb H0 HX0 HC0 HE0
 go_wp2_with fail
 refine(abg (za H1)).mono ?_
 rintro e w2 ⟨x,rfl,ha,hx⟩
 obtain rfl:=(hx S rfl).trans ht
 have hxt:=ha.alloc (.cells #[.int .u8 (k:Int),.string S.mrk,.int .i64 0,.int .i64 (S.tp:Int),.int .i64 (S.tl:Int)] 75)
 have H2:=zb ((za H1).add hxt)
 have HX2:=zb ((za HX1).trans (hxt.ext pb))
 have HC2:=zb ((za HC1).ext (hxt.ext pb))
 have HE2:=zb ((za HE1).ext (hxt.ext pb))
 have HU2:=zb ((za HU1).ext (hxt.ext pb) fun j hj=>by omega)
 have ht2:=aaq w2 (.cells #[.int .u8 (k:Int),.string S.mrk,.int .i64 0,.int .i64 (S.tp:Int),.int .i64 (S.tl:Int)] 75)
 clear ha hx hxt H1 HX1 HC1 HE1 HU1 c0 ht
 unfold acx
 dsimp only
 have d0:=zd ht2 0
 simp only[List.getElem?_toArray,List.getElem?_cons_zero,List.getElem?_cons_succ] at d0
 have c0:=(za HC2).p.cell
 have c1:=(za HC2).cell
 clear ht2
 go_wp2_with fail
 refine(zk (za H2) aaw).mono ?_
 rintro e v3 ⟨rfl,hx,h1⟩
 rw[show zq (.inr S) aaw=false from fwTrue]
 rw[zw fwTrue] at h1
 have H3:=zb h1
 have HX3:=zb ((za HX2).trans hx)
 have HC3:=zb ((za HC2).ext hx)
 have HE3:=zb ((za HE2).ext hx)
 have HU3:=zb ((za HU2).ext hx fun j hj=>by omega)
 clear hx h1 c0 c1 HX2 HC2 HE2 HU2
 have c0:=(za HC3).p.cell
 have c1:=(za HC3).cell
 go_wp2_with fail
 clear d0
 refine(zk (za H3) aar).mono ?_
 rintro e v4 ⟨rfl,hx,h1⟩
 rw[show zq (.inr S) aar=false from fwFalse]
 rw[zw fwFalse] at h1
 have H4:=zb h1
 have HX4:=zb ((za HX3).trans hx)
 have HC4:=zb ((za HC3).ext hx)
 have HE4:=zb ((za HE3).ext hx)
 have HU4:=zb ((za HU3).ext hx fun j hj=>by omega)
 clear hx h1 c0 c1 HX3 HC3 HE3 HU3
 have c0:=(za HC4).p.cell
 have c1:=(za HC4).cell
 go_wp2_with fail
 refine(zk (za H4) ab6).mono ?_
 rintro e v5 ⟨rfl,hx,h1⟩
 rw[show zq (.inr S) ab6=false from fwNil]
 rw[zw fwNil] at h1
 have H5:=zb h1
 have HX5:=zb ((za HX4).trans hx)
 have HC5:=zb ((za HC4).ext hx)
 have HE5:=zb ((za HE4).ext hx)
 have HU5:=zb ((za HU4).ext hx fun j hj=>by omega)
 clear hx h1 c0 c1 HX4 HC4 HE4 HU4
 have c0:=(za HC5).p.cell
 have c1:=(za HC5).cell
 go_wp2_with fail
 refine(zk (za H5) abn).mono ?_
 rintro e v6 ⟨rfl,hx,h1⟩
 rw[show zq (.inr S) abn=false from fwThis]
 rw[zw fwThis] at h1
 have H6:=zb h1
 have HX6:=zb ((za HX5).trans hx)
 have HC6:=zb ((za HC5).ext hx)
 have HE6:=zb ((za HE5).ext hx)
 have HU6:=zb ((za HU5).ext hx fun j hj=>by omega)
 clear hx h1 c0 c1 HX5 HC5 HE5 HU5
 have c0:=(za HC6).p.cell
 have c1:=(za HC6).cell
 go_wp2_with fail
 refine(zk (za H6) ab7).mono ?_
 rintro e v7 ⟨rfl,hx,h1⟩
 rw[show zq (.inr S) ab7=false from fwNew]
 rw[zw fwNew] at h1
 have H7:=zb h1
 have HX7:=zb ((za HX6).trans hx)
 have HC7:=zb ((za HC6).ext hx)
 have HE7:=zb ((za HE6).ext hx)
 have HU7:=zb ((za HU6).ext hx fun j hj=>by omega)
 clear hx h1 c0 c1 HX6 HC6 HE6 HU6
 have c0:=(za HC7).p.cell
 have c1:=(za HC7).cell
 go_wp2_with fail
 refine(zk (za H7) aa8).mono ?_
 rintro e v8 ⟨rfl,hx,h1⟩
 rw[show zq (.inr S) aa8=false from fwSuper]
 rw[zw fwSuper] at h1
 have H8:=zb h1
 have HX8:=zb ((za HX7).trans hx)
 have HC8:=zb ((za HC7).ext hx)
 have HE8:=zb ((za HE7).ext hx)
 have HU8:=zb ((za HU7).ext hx fun j hj=>by omega)
 clear hx h1 c0 c1 HX7 HC7 HE7 HU7
 have c0:=(za HC8).p.cell
 have c1:=(za HC8).cell
 go_wp2_with fail
 refine(zk (za H8) z8).mono ?_
 rintro e v9 ⟨rfl,hx,h1⟩
 rw[show zq (.inr S) z8=false from ftSquare]
 rw[zw ftSquare] at h1
 have H9:=zb h1
 have HX9:=zb ((za HX8).trans hx)
 have HC9:=zb ((za HC8).ext hx)
 have HE9:=zb ((za HE8).ext hx)
 have HU9:=zb ((za HU8).ext hx fun j hj=>by omega)
 clear hx h1 c0 c1 HX8 HC8 HE8 HU8
 have c0:=(za HC9).p.cell
 have c1:=(za HC9).cell
 go_wp2_with fail
 refine(zk (za H9) wFn).mono ?_
 rintro e v10 ⟨rfl,hx,h1⟩
 rw[show zq (.inr S) wFn=false from fwFn]
 rw[zw fwFn] at h1
 have H10:=zb h1
 have HX10:=zb ((za HX9).trans hx)
 have HC10:=zb ((za HC9).ext hx)
 have HE10:=zb ((za HE9).ext hx)
 have HU10:=zb ((za HU9).ext hx fun j hj=>by omega)
 clear hx h1 c0 c1 HX9 HC9 HE9 HU9
 have c0:=(za HC10).p.cell
 have c1:=(za HC10).cell
 go_wp2_with fail
 refine(zk (za H10) aca).mono ?_
 rintro e v11 ⟨rfl,hx,h1⟩
 rw[show zq (.inr S) aca=false from fwInput]
 rw[zw fwInput] at h1
 have H11:=zb h1
 have HX11:=zb ((za HX10).trans hx)
 have HC11:=zb ((za HC10).ext hx)
 have HE11:=zb ((za HE10).ext hx)
 have HU11:=zb ((za HU10).ext hx fun j hj=>by omega)
 clear hx h1 c0 c1 HX10 HC10 HE10 HU10
 have c0:=(za HC11).p.cell
 have c1:=(za HC11).cell
 go_wp2_with fail
 refine(zk (za H11) aed).mono ?_
 rintro e v12 ⟨rfl,hx,h1⟩
 rw[show zq (.inr S) aed=true from hi]
 rw[aa6 hi] at h1
 have H12:=zb h1
 have HX12:=zb ((za HX11).trans hx)
 have HC12:=zb ((za HC11).ext hx)
 have HE12:=zb ((za HE11).ext hx)
 have HU12:=zb ((za HU11).ext hx fun j hj=>by omega)
 clear hx h1 c0 c1 HX11 HC11 HE11 HU11
 have c0:=(za HC12).p.cell
 have c1:=(za HC12).cell
 have HD1:Hid (Dp n (zg (zi S))):=aa6 hi ▸ (za HD).eat aed (za H11)
 go_wp2_with fail
 refine(ah0 (za H12) (za HD1) hn (za HL)).mono ?_
 obtain⟨t0,hb⟩:=(za HU12).cells
 have hnj:=(gtE hb).1
 have hxs:=(za HX12).size
 clear hb
 rintro e v13 ⟨kb,rfl,hx,h1,hv⟩
 have HV:=zb hv
 have hsx:=hx.size
 clear hv
 have H13:=zb h1
 have HX13:=zb ((za HX12).trans hx)
 have HC13:=zb ((za HC12).ext hx)
 have HE13:=zb ((za HE12).ext hx)
 have HU13:=zb ((za HU12).ext hx fun j hj=>by omega)
 clear hx h1 c0 c1 HX12 HC12 HE12 HU12
 have c0:=(za HC13).p.cell
 have c1:=(za HC13).cell
 obtain⟨t0,hb⟩:=(za HU13).cells
 have hba:=(aam v13 (.cells #[.pointer (some ⟨kb,0,none⟩)] 22) (gtE hb).1).trans hb
 have q0:(v13.alloc (.cells #[.pointer (some ⟨kb,0,none⟩)] 22)).cell? ⟨nb,0,none⟩=some (.int .i64 0):=zd hba 0
 have q5:(v13.alloc (.cells #[.pointer (some ⟨kb,0,none⟩)] 22)).cell? ⟨nb,5,none⟩=some (.slice none 0 0):=zd hba 5
 have gz:=zp hba
 clear hb hba
 go_wp2_with fail
 go_ret
 refine⟨nb,rfl,(((za HX13).alloc _).setNew ⟨nb,0,none⟩ (show w.heap.size≤nb by omega) _).setNew ⟨nb,5,none⟩ (show w.heap.size≤nb by omega) _,?_,?_⟩
 ·show At _ pb (zg (zr L S))
  rw[za HS,aaz (R:=aa7 L) fun _ _=>abw]
  exact(((za H13).add ((Add.refl v13).alloc _)).putNew (by omega) 0 _).putNew (by omega) 5 _
 ·intro a T e
  rw[show run (zr L) (.inr S)=zr L S from rfl,za HS] at e
  obtain⟨_,S1,e1,e⟩:=ze e
  obtain⟨u,S2,e2,e⟩:=ze e
  cases e
  have q:run (aa7 L) (zg (zi S))=.inr (u,T):=by rw[e1];exact e2
  have hl2:=ago (by omega) (za HV u T q)
  exact((((za HU13).ext ((Ext.refl pb v13).alloc _) fun j hj=>by omega).put 0 (.int .i64 30) (k':=30) rfl).setKids (hl2.put hnj 0 _) hnj).node
theorem auz {w:World} {pb n c d:Nat} {S:LS} (h:At w pb (.inr S)) (hd:S.dp=n) (hn:n≤25) {L:Low} (hL:RLow n L) (hc:CapD c d pb n w) (hcl:Clean S) (h2:S.kd≠2) (h3:S.kd≠3) (h4:S.kd≠4) (fwTrue:S.is aaw=false) (fwFalse:S.is aar=false) (fwNil:S.is ab6=false) (fwThis:S.is abn=false) (fwNew:S.is ab7=false) (fwSuper:S.is aa8=false) (ftSquare:S.is z8=false) (fwFn:S.is wFn=false) (fwInput:S.is aca=false) (fwLen:S.is aed=false) (ftOpen:S.is zt=false):Calls prog 208 #[.pointer (some ⟨pb,0,none⟩),.int .i64 (n:Int),.func (.func 206) #[] #[.pointer (some ⟨c,0,none⟩),.pointer (some ⟨d,0,none⟩)]] w fun e w'=>RN (run (zr L) (.inr S)) pb w e w':=by
 obtain⟨k,tx0,ht,b1,b2,b3⟩:=bdd h2 h3 h4
 have hk:=h2
 have HS:=zb (show zr L S=.inl (3,S.tp) by rw[zr,if_neg h2,if_neg h3,if_neg h4,show aas S=0 by rw[aas,if_neg (show ¬S.is aaw=true by rw[fwTrue];decide),if_neg (show ¬S.is aar=true by rw[fwFalse];decide),if_neg (show ¬S.is ab6=true by rw[fwNil];decide),if_neg (show ¬S.is abn=true by rw[fwThis];decide)],if_pos rfl,abm,if_neg (show ¬S.is zt=true by rw[ftOpen];decide),if_neg (show ¬S.is z8=true by rw[ftSquare];decide),if_neg (show ¬S.is wFn=true by rw[fwFn];decide),if_neg (show ¬S.is ab7=true by rw[fwNew];decide),if_neg (show ¬S.is aa8=true by rw[fwSuper];decide),if_neg (show ¬S.is aca=true by rw[fwInput];decide),if_neg (show ¬S.is aed=true by rw[fwLen];decide)])
 clear hcl h2 h3 h4
 have hpl:=h.lt
 have HK:=zb hk
 clear hk
 have hcw:=hc.p.lt
 have hdw:=hc.lt
 have hent:=qJ c d
 have HD:Hid (Dp n (.inr S)):=fun T e=>by cases e;exact hd
 have HL:=zb hL
 have hxa:=qK w pb n
 have H0:=zb (h.add hxa)
 have HX0:=zb (hxa.ext pb)
 have HE0:=zb (hc.ext (hxa.ext pb))
 have HC0:=qH w pb n
 clear h hd hL hc hxa
 go_enter func208,ntmps208
 go_wp2_with fail
 refine(aav (za H0) 0).mono ?_
 rintro e w1 ⟨nb,ln,rfl,hnb,hsz,hb,ha,hln⟩
 obtain rfl:=hln S rfl
 have H1:=zb ((za H0).add ha)
 have HX1:=zb ((za HX0).trans (ha.ext pb))
 have HC1:=zb ((za HC0).ext (ha.ext pb))
 have HE1:=zb ((za HE0).ext (ha.ext pb))
 have hnb':w.heap.size+1<nb:=Nat.lt_of_lt_of_le (by simp) hnb
 have HU1:Hid (Und (fun j=>w.heap.size≤j) w1 nb 0 zc zc 0 S.tl [] (.slice none 0 0) []):=⟨by omega,⟨_,hb⟩,Or.inl ⟨rfl,rfl⟩,rfl,fun i h=>absurd h (Nat.not_lt_zero i)⟩
 have c0:=(za HC1).p.cell
 clear ha hb hln hsz hnb H0 HX0 HC0 HE0
 go_wp2_with fail
 refine(abg (za H1)).mono ?_
 rintro e w2 ⟨x,rfl,ha,hx⟩
 obtain rfl:=(hx S rfl).trans ht
 have hxt:=ha.alloc (.cells #[.int .u8 (k:Int),.string tx0,.int .i64 0,.int .i64 (S.tp:Int),.int .i64 (S.tl:Int)] 75)
 have H2:=zb ((za H1).add hxt)
 have HX2:=zb ((za HX1).trans (hxt.ext pb))
 have HC2:=zb ((za HC1).ext (hxt.ext pb))
 have HE2:=zb ((za HE1).ext (hxt.ext pb))
 have HU2:=zb ((za HU1).ext (hxt.ext pb) fun j hj=>by omega)
 have ht2:=aaq w2 (.cells #[.int .u8 (k:Int),.string tx0,.int .i64 0,.int .i64 (S.tp:Int),.int .i64 (S.tl:Int)] 75)
 clear ha hx hxt H1 HX1 HC1 HE1 HU1 c0 ht
 unfold acx
 dsimp only
 have d0:=zd ht2 0
 simp only[List.getElem?_toArray,List.getElem?_cons_zero,List.getElem?_cons_succ] at d0
 have c0:=(za HC2).p.cell
 have c1:=(za HC2).cell
 clear ht2
 go_wp2_with fail
 refine(zk (za H2) aaw).mono ?_
 rintro e v3 ⟨rfl,hx,h1⟩
 rw[show zq (.inr S) aaw=false from fwTrue]
 rw[zw fwTrue] at h1
 have H3:=zb h1
 have HX3:=zb ((za HX2).trans hx)
 have HC3:=zb ((za HC2).ext hx)
 have HE3:=zb ((za HE2).ext hx)
 have HU3:=zb ((za HU2).ext hx fun j hj=>by omega)
 clear hx h1 c0 c1 HX2 HC2 HE2 HU2
 have c0:=(za HC3).p.cell
 have c1:=(za HC3).cell
 go_wp2_with fail
 clear d0
 refine(zk (za H3) aar).mono ?_
 rintro e v4 ⟨rfl,hx,h1⟩
 rw[show zq (.inr S) aar=false from fwFalse]
 rw[zw fwFalse] at h1
 have H4:=zb h1
 have HX4:=zb ((za HX3).trans hx)
 have HC4:=zb ((za HC3).ext hx)
 have HE4:=zb ((za HE3).ext hx)
 have HU4:=zb ((za HU3).ext hx fun j hj=>by omega)
 clear hx h1 c0 c1 HX3 HC3 HE3 HU3
 have c0:=(za HC4).p.cell
 have c1:=(za HC4).cell
 go_wp2_with fail
 refine(zk (za H4) ab6).mono ?_
 rintro e v5 ⟨rfl,hx,h1⟩
 rw[show zq (.inr S) ab6=false from fwNil]
 rw[zw fwNil] at h1
 have H5:=zb h1
 have HX5:=zb ((za HX4).trans hx)
 have HC5:=zb ((za HC4).ext hx)
 have HE5:=zb ((za HE4).ext hx)
 have HU5:=zb ((za HU4).ext hx fun j hj=>by omega)
 clear hx h1 c0 c1 HX4 HC4 HE4 HU4
 have c0:=(za HC5).p.cell
 have c1:=(za HC5).cell
 go_wp2_with fail
 refine(zk (za H5) abn).mono ?_
 rintro e v6 ⟨rfl,hx,h1⟩
 rw[show zq (.inr S) abn=false from fwThis]
 rw[zw fwThis] at h1
 have H6:=zb h1
 have HX6:=zb ((za HX5).trans hx)
 have HC6:=zb ((za HC5).ext hx)
 have HE6:=zb ((za HE5).ext hx)
 have HU6:=zb ((za HU5).ext hx fun j hj=>by omega)
 clear hx h1 c0 c1 HX5 HC5 HE5 HU5
 have c0:=(za HC6).p.cell
 have c1:=(za HC6).cell
 go_wp2_with fail
 refine(zk (za H6) ab7).mono ?_
 rintro e v7 ⟨rfl,hx,h1⟩
 rw[show zq (.inr S) ab7=false from fwNew]
 rw[zw fwNew] at h1
 have H7:=zb h1
 have HX7:=zb ((za HX6).trans hx)
 have HC7:=zb ((za HC6).ext hx)
 have HE7:=zb ((za HE6).ext hx)
 have HU7:=zb ((za HU6).ext hx fun j hj=>by omega)
 clear hx h1 c0 c1 HX6 HC6 HE6 HU6
 have c0:=(za HC7).p.cell
 have c1:=(za HC7).cell
 go_wp2_with fail
 refine(zk (za H7) aa8).mono ?_
 rintro e v8 ⟨rfl,hx,h1⟩
 rw[show zq (.inr S) aa8=false from fwSuper]
 rw[zw fwSuper] at h1
 have H8:=zb h1
 have HX8:=zb ((za HX7).trans hx)
 have HC8:=zb ((za HC7).ext hx)
 have HE8:=zb ((za HE7).ext hx)
 have HU8:=zb ((za HU7).ext hx fun j hj=>by omega)
 clear hx h1 c0 c1 HX7 HC7 HE7 HU7
 have c0:=(za HC8).p.cell
 have c1:=(za HC8).cell
 go_wp2_with fail
 refine(zk (za H8) z8).mono ?_
 rintro e v9 ⟨rfl,hx,h1⟩
 rw[show zq (.inr S) z8=false from ftSquare]
 rw[zw ftSquare] at h1
 have H9:=zb h1
 have HX9:=zb ((za HX8).trans hx)
 have HC9:=zb ((za HC8).ext hx)
 have HE9:=zb ((za HE8).ext hx)
 have HU9:=zb ((za HU8).ext hx fun j hj=>by omega)
 clear hx h1 c0 c1 HX8 HC8 HE8 HU8
 have c0:=(za HC9).p.cell
 have c1:=(za HC9).cell
 go_wp2_with fail
 refine(zk (za H9) wFn).mono ?_
 rintro e v10 ⟨rfl,hx,h1⟩
 rw[show zq (.inr S) wFn=false from fwFn]
 rw[zw fwFn] at h1
 have H10:=zb h1
 have HX10:=zb ((za HX9).trans hx)
 have HC10:=zb ((za HC9).ext hx)
 have HE10:=zb ((za HE9).ext hx)
 have HU10:=zb ((za HU9).ext hx fun j hj=>by omega)
 clear hx h1 c0 c1 HX9 HC9 HE9 HU9
 have c0:=(za HC10).p.cell
 have c1:=(za HC10).cell
 go_wp2_with fail
 refine(zk (za H10) aca).mono ?_
 rintro e v11 ⟨rfl,hx,h1⟩
 rw[show zq (.inr S) aca=false from fwInput]
 rw[zw fwInput] at h1
 have H11:=zb h1
 have HX11:=zb ((za HX10).trans hx)
 have HC11:=zb ((za HC10).ext hx)
 have HE11:=zb ((za HE10).ext hx)
 have HU11:=zb ((za HU10).ext hx fun j hj=>by omega)
 clear hx h1 c0 c1 HX10 HC10 HE10 HU10
 have c0:=(za HC11).p.cell
 have c1:=(za HC11).cell
 go_wp2_with fail
 refine(zk (za H11) aed).mono ?_
 rintro e v12 ⟨rfl,hx,h1⟩
 rw[show zq (.inr S) aed=false from fwLen]
 rw[zw fwLen] at h1
 have H12:=zb h1
 have HX12:=zb ((za HX11).trans hx)
 have HC12:=zb ((za HC11).ext hx)
 have HE12:=zb ((za HE11).ext hx)
 have HU12:=zb ((za HU11).ext hx fun j hj=>by omega)
 clear hx h1 c0 c1 HX11 HC11 HE11 HU11
 have c0:=(za HC12).p.cell
 have c1:=(za HC12).cell
 go_wp2_with fail
 refine(abu (za H12) zt).mono ?_
 rintro e v13 ⟨rfl,ha⟩
 rw[show zq (.inr S) zt=false from ftOpen]
 have hx:=ha.ext pb
 have h1:=(za H12).add ha
 clear ha
 have H13:=zb h1
 have HX13:=zb ((za HX12).trans hx)
 have HC13:=zb ((za HC12).ext hx)
 have HE13:=zb ((za HE12).ext hx)
 have HU13:=zb ((za HU12).ext hx fun j hj=>by omega)
 clear hx h1 c0 c1 HX12 HC12 HE12 HU12
 have c0:=(za HC13).p.cell
 have c1:=(za HC13).cell
 go_wp2_with fail
 refine(agb (za H13) (by decide)).mono ?_
 rintro e v14 ⟨rfl,hx,h1⟩
 have H14:=zb h1
 have HX14:=zb ((za HX13).trans hx)
 clear hx h1 c0 c1
 go_wp2_with fail
 go_ret
 refine⟨nb,rfl,za HX14,?_,?_⟩
 ·show At _ pb (zg (zr L S))
  rw[za HS]
  exact za H14
 ·intro a T e
  rw[show run (zr L) (.inr S)=zr L S from rfl,za HS] at e
  cases e
theorem axr {w:World} {pb n c d:Nat} {S:LS} (h:At w pb (.inr S)) (hd:S.dp=n) (hn:n≤25) {L:Low} (hL:RLow n L) (hc:CapD c d pb n w):Calls prog 208 #[.pointer (some ⟨pb,0,none⟩),.int .i64 (n:Int),.func (.func 206) #[] #[.pointer (some ⟨c,0,none⟩),.pointer (some ⟨d,0,none⟩)]] w fun e w'=>RN (run (zr L) (.inr S)) pb w e w':=by
 have hcl:Clean S:=by
  obtain⟨_,_,_,_,_,_,_,h⟩:=h
  exact h
 by_cases h2:S.kd=2
 ·exact auv h hd hn hL hc h2 hcl
 by_cases h3:S.kd=3
 ·exact axm h hd hn hL hc h3 hcl
 by_cases h4:S.kd=4
 ·exact axn h hd hn hL hc h4 hcl
 cases f1:S.is aaw with
 | true=>exact auw h hd hn hL hc hcl f1
 | false =>
 cases f2:S.is aar with
 | true=>exact atl h hd hn hL hc hcl f2
 | false =>
 cases f3:S.is ab6 with
 | true=>exact axo h hd hn hL hc hcl f3
 | false =>
 cases f4:S.is abn with
 | true=>exact aux h hd hn hL hc hcl f4
 | false =>
 cases f5:S.is ab7 with
 | true=>exact axp h hd hn hL hc hcl f5
 | false =>
 cases f6:S.is aa8 with
 | true=>exact ato h hd hn hL hc hcl f6
 | false =>
 cases f7:S.is z8 with
 | true=>exact auy h hd hn hL hc hcl f7
 | false =>
 cases f8:S.is wFn with
 | true=>exact ban h hd hn hL hc hcl f8
 | false =>
 cases f9:S.is aca with
 | true=>exact atm h hd hn hL hc hcl f9
 | false =>
 cases fa:S.is aed with
 | true=>exact axq h hd hn hL hc hcl fa
 | false =>
 cases fb:S.is zt with
 | true=>exact atn h hd hn hL hc hcl fb
 | false=>exact auz h hd hn hL hc hcl h2 h3 h4 f1 f2 f3 f4 f5 f6 f7 f8 f9 fa fb
end Go.Proofs.YtndgajlidckcdaaGreatDoor
