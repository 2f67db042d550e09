/- A part. -/
import Derived.Test.YtndgajlidckcdaaGreatDoorM32
open Go.Proofs.Tryz
namespace Go.Proofs.YtndgajlidckcdaaGreatDoor
open Go.RowKit
set_option linter.unusedVariables false
set_option linter.unusedSimpArgs false
set_option maxRecDepth 100000
set_option maxHeartbeats 8000000
theorem aka {P:LS→Res Tree} {s:St}:zg (run (adl P) s)=zg (run (zj acg) (zg (run P s))):=by
 rw[show run (adl P) s=bnd (run P s) fun t S1=>bnd (zj acg S1) fun _ S2=>.inr (t,S2) from ae0]
 exact aaz fun a S=>abw
theorem au0 {w:World} {pb m:Nat} {S:LS} (h:At w pb (.inr S)) (hd:S.dp=m) (hm:m≤25) {L:Low} (hL:RLow m L) (hi:S.is abb=true):Calls prog 40 #[.pointer (some ⟨pb,0,none⟩),.int .i64 (m:Int)] w fun e w'=>RN (run (aal L) (.inr S)) pb w e w':=by
 have fwVar:S.is abt=false:=zh hi (by decide)
 have fwIf:S.is wIf=false:=zh hi (by decide)
 have HS:=zb (show aal L S=bnd (zi S) fun _ S1=>bnd (aa7 L S1) fun c S2=>bnd (aaj L S2) fun b S3=>.inr (nd 11 S.tl [c,b],S3) by rw[aal,if_neg (show ¬S.is abt=true by rw[zh hi (show (abb.data.toList==abt.data.toList)=false by decide)];decide),if_neg (show ¬S.is wIf=true by rw[zh hi (show (abb.data.toList==wIf.data.toList)=false by decide)];decide),if_pos hi];rfl)
 have hwr:IntKind.i64.wrap ((m:Int)+1)=(m:Int)+1:=ac3 (by omega) (by omega)
 have hpl:=h.lt
 have HD:Hid (Dp m (.inr S)):=fun T e=>by cases e;exact hd
 have HL:=zb hL
 have H:=zb h
 clear h hd hL
 go_enter func40,ntmps40
 go_wp2_with fail
 refine(aav (za H) 0).mono ?_
 rintro e v1 ⟨nb,ln,rfl,hnb,hsz,hb,ha,hln⟩
 obtain rfl:=hln S rfl
 have H1:=zb ((za H).add ha)
 have HX1:=zb (ha.ext pb)
 have HU1:Hid (Und (fun j=>w.heap.size≤j) v1 nb 0 zc zc 0 S.tl [] (.slice none 0 0) []):=⟨hnb,⟨_,hb⟩,Or.inl ⟨rfl,rfl⟩,rfl,fun i h=>absurd h (Nat.not_lt_zero i)⟩
 clear ha hb hln hsz H
 go_wp2_with fail
 refine(ad1 (za H1) m).mono ?_
 rintro e v2 ⟨rfl,hx,h1⟩
 rw[show acj m (.inr S)=.inr S by rw[acj,if_neg (by omega)]] at h1 ⊢
 dsimp only [okB]
 have H2:=zb h1
 have HX2:=zb ((za HX1).trans hx)
 have HU2:=zb ((za HU1).ext hx fun j hj=>by omega)
 clear hx h1 HX1 HU1
 go_wp2_with fail
 refine(zk (za H2) abt).mono ?_
 rintro e v3 ⟨rfl,hx,h1⟩
 rw[show zq (.inr S) abt=false from fwVar]
 rw[zw fwVar] at h1
 have H3:=zb h1
 have HX3:=zb ((za HX2).trans hx)
 have HU3:=zb ((za HU2).ext hx fun j hj=>by omega)
 clear hx h1 HX2 HU2
 go_wp2_with fail
 refine(zk (za H3) wIf).mono ?_
 rintro e v4 ⟨rfl,hx,h1⟩
 rw[show zq (.inr S) wIf=false from fwIf]
 rw[zw fwIf] at h1
 have H4:=zb h1
 have HX4:=zb ((za HX3).trans hx)
 have HU4:=zb ((za HU3).ext hx fun j hj=>by omega)
 clear hx h1 HX3 HU3
 go_wp2_with fail
 refine(zk (za H4) abb).mono ?_
 rintro e v5 ⟨rfl,hx,h1⟩
 rw[show zq (.inr S) abb=true from hi]
 rw[aa6 hi] at h1
 have H5:=zb h1
 have HX5:=zb ((za HX4).trans hx)
 have HU5:=zb ((za HU4).ext hx fun j hj=>by omega)
 clear hx h1 HX4 HU4
 have HD1:Hid (Dp m (zg (zi S))):=aa6 hi ▸ (za HD).eat abb (za H4)
 go_wp2_with fail
 obtain⟨t0,hb⟩:=(za HU5).cells
 have hnj:=(gtE hb).1
 have hsz1:=(za HX5).size
 clear hb
 refine(ah0 (za H5) (za HD1) hm (za HL)).mono ?_
 rintro e v6 ⟨ka,rfl,hx,h1,hv⟩
 have HV1:=zb hv
 have HD2:=zb (Dp.run (aej (za HL).good).weak (za H5) (za HD1))
 have hs1:=hx.size
 clear hv
 have H6:=zb h1
 have HX6:=zb ((za HX5).trans hx)
 have HU6:=zb ((za HU5).ext hx fun j hj=>by omega)
 clear hx h1 HX5 HU5
 go_wp2_with fail
 refine(agn (za H6) (za HD2) hm (za HL)).mono ?_
 rintro e v7 ⟨kb,rfl,hx,h1,hv⟩
 have HV2:=zb hv
 have HXB:=zb hx
 have hs2:=hx.size
 clear hv
 have H7:=zb h1
 have HX7:=zb ((za HX6).trans hx)
 have HU7:=zb ((za HU6).ext hx fun j hj=>by omega)
 clear hx h1 HX6 HU6
 obtain⟨t0,hb0⟩:=(za HU7).cells
 have hb:=(aam v7 (.cells #[.pointer (some ⟨ka,0,none⟩),.pointer (some ⟨kb,0,none⟩)] 22) (gtE hb0).1).trans hb0
 clear hb0
 have q0:(v7.alloc (.cells #[.pointer (some ⟨ka,0,none⟩),.pointer (some ⟨kb,0,none⟩)] 22)).cell? ⟨nb,0,none⟩=some (.int .i64 0):=zd hb 0
 have q5:(v7.alloc (.cells #[.pointer (some ⟨ka,0,none⟩),.pointer (some ⟨kb,0,none⟩)] 22)).cell? ⟨nb,5,none⟩=some (.slice none 0 0):=zd hb 5
 have gz:=zp hb
 have hnv:=(gtE hb).1
 clear hb
 go_wp2_with fail
 go_ret
 refine⟨nb,rfl,(((za HX7).alloc _).setNew ⟨nb,0,none⟩ (show w.heap.size≤nb by omega) _).setNew ⟨nb,5,none⟩ (show w.heap.size≤nb by omega) _,?_,?_⟩
 ·show At _ pb (zg (aal L S))
  rw[za HS,aaz (R:=fun S1=>bnd (aa7 L S1) fun c S2=>bnd (aaj L S2) fun b S3=>.inr (nd 11 S.tl [c,b],S3)) fun _ _=>rfl,ae0,aaz (R:=aaj L) fun _ _=>abw]
  exact(((za H7).add ((Add.refl v7).alloc _)).putNew (by omega) 0 _).putNew (by omega) 5 _
 ·intro a T e
  rw[show run (aal L) (.inr S)=aal L S from rfl,za HS] at e
  obtain⟨_,S1,e1,e⟩:=ze e
  obtain⟨x,S2,e2,e⟩:=ze e
  obtain⟨y,S3,e3,e⟩:=ze e
  cases e
  have q1:run (aa7 L) (zg (zi S))=.inr (x,S2):=by rw[e1];exact e2
  have q2:run (aaj L) (zg (run (aa7 L) (zg (zi S))))=.inr (y,T):=by rw[q1];exact e3
  have n1:=NodeAt.ext (za HV1 x S2 q1) (za HXB) fun j hj=>by omega
  have hl2:=(alh (lo:=v5.heap.size) (w:=v7) (a:=ka) (b:=kb) (by omega)).2 x y n1 (NodeAt.mono (za HV2 y T q2) fun j hj=>by omega)
  exact((((za HU7).ext ((Ext.refl pb v7).alloc _) fun j hj=>by omega).put 0 (.int .i64 11) (k':=11) rfl).setKids (hl2.put hnj 0 _) hnj).node
theorem au1 {w:World} {pb m:Nat} {S:LS} (h:At w pb (.inr S)) (hd:S.dp=m) (hm:m≤25) {L:Low} (hL:RLow m L) (hi:S.is ach=true):Calls prog 40 #[.pointer (some ⟨pb,0,none⟩),.int .i64 (m:Int)] w fun e w'=>RN (run (aal L) (.inr S)) pb w e w':=by
 have fwVar:S.is abt=false:=zh hi (by decide)
 have fwIf:S.is wIf=false:=zh hi (by decide)
 have fwWhile:S.is abb=false:=zh hi (by decide)
 have fwTry:S.is ad4=false:=zh hi (by decide)
 have fwReturn:S.is abk=false:=zh hi (by decide)
 have HS:=zb (show aal L S=bnd (zi S) fun _ S1=>bnd (adl L.V S1) fun t S2=>.inr (nd 13 S.tl [t],S2) by rw[aal,if_neg (show ¬S.is abt=true by rw[zh hi (show (ach.data.toList==abt.data.toList)=false by decide)];decide),if_neg (show ¬S.is wIf=true by rw[zh hi (show (ach.data.toList==wIf.data.toList)=false by decide)];decide),if_neg (show ¬S.is abb=true by rw[zh hi (show (ach.data.toList==abb.data.toList)=false by decide)];decide),if_neg (show ¬S.is abk=true by rw[zh hi (show (ach.data.toList==abk.data.toList)=false by decide)];decide),if_pos hi];rfl)
 have hwr:IntKind.i64.wrap ((m:Int)+1)=(m:Int)+1:=ac3 (by omega) (by omega)
 have hpl:=h.lt
 have HD:Hid (Dp m (.inr S)):=fun T e=>by cases e;exact hd
 have HL:=zb hL
 have H:=zb h
 clear h hd hL
 go_enter func40,ntmps40
 go_wp2_with fail
 refine(aav (za H) 0).mono ?_
 rintro e v1 ⟨nb,ln,rfl,hnb,hsz,hb,ha,hln⟩
 obtain rfl:=hln S rfl
 have H1:=zb ((za H).add ha)
 have HX1:=zb (ha.ext pb)
 have HU1:Hid (Und (fun j=>w.heap.size≤j) v1 nb 0 zc zc 0 S.tl [] (.slice none 0 0) []):=⟨hnb,⟨_,hb⟩,Or.inl ⟨rfl,rfl⟩,rfl,fun i h=>absurd h (Nat.not_lt_zero i)⟩
 clear ha hb hln hsz H
 go_wp2_with fail
 refine(ad1 (za H1) m).mono ?_
 rintro e v2 ⟨rfl,hx,h1⟩
 rw[show acj m (.inr S)=.inr S by rw[acj,if_neg (by omega)]] at h1 ⊢
 dsimp only [okB]
 have H2:=zb h1
 have HX2:=zb ((za HX1).trans hx)
 have HU2:=zb ((za HU1).ext hx fun j hj=>by omega)
 clear hx h1 HX1 HU1
 go_wp2_with fail
 refine(zk (za H2) abt).mono ?_
 rintro e v3 ⟨rfl,hx,h1⟩
 rw[show zq (.inr S) abt=false from fwVar]
 rw[zw fwVar] at h1
 have H3:=zb h1
 have HX3:=zb ((za HX2).trans hx)
 have HU3:=zb ((za HU2).ext hx fun j hj=>by omega)
 clear hx h1 HX2 HU2
 go_wp2_with fail
 refine(zk (za H3) wIf).mono ?_
 rintro e v4 ⟨rfl,hx,h1⟩
 rw[show zq (.inr S) wIf=false from fwIf]
 rw[zw fwIf] at h1
 have H4:=zb h1
 have HX4:=zb ((za HX3).trans hx)
 have HU4:=zb ((za HU3).ext hx fun j hj=>by omega)
 clear hx h1 HX3 HU3
 go_wp2_with fail
 refine(zk (za H4) abb).mono ?_
 rintro e v5 ⟨rfl,hx,h1⟩
 rw[show zq (.inr S) abb=false from fwWhile]
 rw[zw fwWhile] at h1
 have H5:=zb h1
 have HX5:=zb ((za HX4).trans hx)
 have HU5:=zb ((za HU4).ext hx fun j hj=>by omega)
 clear hx h1 HX4 HU4
 go_wp2_with fail
 refine(zk (za H5) ad4).mono ?_
 rintro e v6 ⟨rfl,hx,h1⟩
 rw[show zq (.inr S) ad4=false from fwTry]
 rw[zw fwTry] at h1
 have H6:=zb h1
 have HX6:=zb ((za HX5).trans hx)
 have HU6:=zb ((za HU5).ext hx fun j hj=>by omega)
 clear hx h1 HX5 HU5
 go_wp2_with fail
 refine(zk (za H6) abk).mono ?_
 rintro e v7 ⟨rfl,hx,h1⟩
 rw[show zq (.inr S) abk=false from fwReturn]
 rw[zw fwReturn] at h1
 have H7:=zb h1
 have HX7:=zb ((za HX6).trans hx)
 have HU7:=zb ((za HU6).ext hx fun j hj=>by omega)
 clear hx h1 HX6 HU6
 go_wp2_with fail
 refine(zk (za H7) ach).mono ?_
 rintro e v8 ⟨rfl,hx,h1⟩
 rw[show zq (.inr S) ach=true from hi]
 rw[aa6 hi] at h1
 have H8:=zb h1
 have HX8:=zb ((za HX7).trans hx)
 have HU8:=zb ((za HU7).ext hx fun j hj=>by omega)
 clear hx h1 HX7 HU7
 have HD1:Hid (Dp m (zg (zi S))):=aa6 hi ▸ (za HD).eat ach (za H7)
 go_wp2_with fail
 obtain⟨t0,hb⟩:=(za HU8).cells
 have hnj:=(gtE hb).1
 have hsz1:=(za HX8).size
 clear hb
 refine((za HL).v _ pb _ (za H8) (za HD1)).mono ?_
 rintro e v9 ⟨ka,rfl,hx,h1,hv⟩
 have HV1:=zb hv
 have hs1:=hx.size
 clear hv
 have H9:=zb h1
 have HX9:=zb ((za HX8).trans hx)
 have HU9:=zb ((za HU8).ext hx fun j hj=>by omega)
 clear hx h1 HX8 HU8
 obtain⟨t0,hb0⟩:=(za HU9).cells
 have hb:=(aam v9 (.cells #[.pointer (some ⟨ka,0,none⟩)] 22) (gtE hb0).1).trans hb0
 clear hb0
 have q0:(v9.alloc (.cells #[.pointer (some ⟨ka,0,none⟩)] 22)).cell? ⟨nb,0,none⟩=some (.int .i64 0):=zd hb 0
 have q5:(v9.alloc (.cells #[.pointer (some ⟨ka,0,none⟩)] 22)).cell? ⟨nb,5,none⟩=some (.slice none 0 0):=zd hb 5
 have gz:=zp hb
 have hnv:=(gtE hb).1
 clear hb
 go_wp2_with fail
 have H10:Hid (At (((v9.alloc (.cells #[.pointer (some ⟨ka,0,none⟩)] 22)).setCell ⟨nb,0,none⟩ (.int .i64 13)).setCell ⟨nb,5,none⟩ (.slice (some ⟨v9.heap.size,0,none⟩) 1 1)) pb (zg (run (L.V) (zg (zi S))))):=(((za H9).add ((Add.refl v9).alloc _)).putNew (by omega) 0 _).putNew (by omega) 5 _
 have HX10:Hid (Ext pb w (((v9.alloc (.cells #[.pointer (some ⟨ka,0,none⟩)] 22)).setCell ⟨nb,0,none⟩ (.int .i64 13)).setCell ⟨nb,5,none⟩ (.slice (some ⟨v9.heap.size,0,none⟩) 1 1))):=(((za HX9).alloc _).setNew ⟨nb,0,none⟩ (show w.heap.size≤nb by omega) _).setNew ⟨nb,5,none⟩ (show w.heap.size≤nb by omega) _
 have HN10:Hid (∀t T,run (L.V) (zg (zi S))=.inr (t,T)→NodeAt (fun j=>w.heap.size≤j) (((v9.alloc (.cells #[.pointer (some ⟨ka,0,none⟩)] 22)).setCell ⟨nb,0,none⟩ (.int .i64 13)).setCell ⟨nb,5,none⟩ (.slice (some ⟨v9.heap.size,0,none⟩) 1 1)) (.pointer (some ⟨nb,0,none⟩)) (nd 13 S.tl [t])):=fun t T e=>by
  have hl2:=ago (lo:=v8.heap.size) (w:=v9) (by omega) (za HV1 t T e)
  exact((((za HU9).ext ((Ext.refl pb v9).alloc _) fun j hj=>by omega).put 0 (.int .i64 13) (k':=13) rfl).setKids (hl2.put hnj 0 _) hnj).node
 clear q0 q5 gz hnv H9 HX9 HU9 HV1
 generalize (((v9.alloc (.cells #[.pointer (some ⟨ka,0,none⟩)] 22)).setCell ⟨nb,0,none⟩ (.int .i64 13)).setCell ⟨nb,5,none⟩ (.slice (some ⟨v9.heap.size,0,none⟩) 1 1))=v10 at *
 refine(aa1 (za H10) acg).mono ?_
 rintro e v11 ⟨rfl,hx,h1⟩
 have H9:=zb h1
 have HX:=zb hx
 have HX9:=zb ((za HX10).trans hx)
 clear hx h1
 go_wp2_with fail
 go_ret
 refine⟨nb,rfl,za HX9,?_,?_⟩
 ·show At _ pb (zg (aal L S))
  rw[za HS,aaz (R:=adl L.V) fun _ _=>abw,aka]
  exact za H9
 ·intro a T e
  rw[show run (aal L) (.inr S)=aal L S from rfl,za HS] at e
  obtain⟨_,S1,e1,e⟩:=ze e
  obtain⟨t,S2,e2,e⟩:=ze e
  cases e
  obtain⟨t',S3,e3,e4⟩:=ze e2
  obtain⟨_,S4,e5,e6⟩:=ze e4
  cases e6
  have q1:run (L.V) (zg (zi S))=.inr (t,S3):=by rw[e1];exact e3
  exact NodeAt.ext (za HN10 t S3 q1) (za HX) fun j hj=>by omega
theorem au2 {w:World} {pb m:Nat} {S:LS} (h:At w pb (.inr S)) (hd:S.dp=m) (hm:m≤25) {L:Low} (hL:RLow m L) (hi:S.is ac7=true):Calls prog 40 #[.pointer (some ⟨pb,0,none⟩),.int .i64 (m:Int)] w fun e w'=>RN (run (aal L) (.inr S)) pb w e w':=by
 have fwVar:S.is abt=false:=zh hi (by decide)
 have fwIf:S.is wIf=false:=zh hi (by decide)
 have fwWhile:S.is abb=false:=zh hi (by decide)
 have fwTry:S.is ad4=false:=zh hi (by decide)
 have fwReturn:S.is abk=false:=zh hi (by decide)
 have fwThrow:S.is ach=false:=zh hi (by decide)
 have HS:=zb (show aal L S=bnd (zi S) fun _ S1=>bnd (adl (aa7 L) S1) fun t S2=>.inr (nd 16 S.tl [t],S2) by rw[aal,if_neg (show ¬S.is abt=true by rw[zh hi (show (ac7.data.toList==abt.data.toList)=false by decide)];decide),if_neg (show ¬S.is wIf=true by rw[zh hi (show (ac7.data.toList==wIf.data.toList)=false by decide)];decide),if_neg (show ¬S.is abb=true by rw[zh hi (show (ac7.data.toList==abb.data.toList)=false by decide)];decide),if_neg (show ¬S.is abk=true by rw[zh hi (show (ac7.data.toList==abk.data.toList)=false by decide)];decide),if_neg (show ¬S.is ach=true by rw[zh hi (show (ac7.data.toList==ach.data.toList)=false by decide)];decide),if_pos hi];rfl)
 have hwr:IntKind.i64.wrap ((m:Int)+1)=(m:Int)+1:=ac3 (by omega) (by omega)
 have hpl:=h.lt
 have HD:Hid (Dp m (.inr S)):=fun T e=>by cases e;exact hd
 have HL:=zb hL
 have H:=zb h
 clear h hd hL
 go_enter func40,ntmps40
 go_wp2_with fail
 refine(aav (za H) 0).mono ?_
 rintro e v1 ⟨nb,ln,rfl,hnb,hsz,hb,ha,hln⟩
 obtain rfl:=hln S rfl
 have H1:=zb ((za H).add ha)
 have HX1:=zb (ha.ext pb)
 have HU1:Hid (Und (fun j=>w.heap.size≤j) v1 nb 0 zc zc 0 S.tl [] (.slice none 0 0) []):=⟨hnb,⟨_,hb⟩,Or.inl ⟨rfl,rfl⟩,rfl,fun i h=>absurd h (Nat.not_lt_zero i)⟩
 clear ha hb hln hsz H
 go_wp2_with fail
 refine(ad1 (za H1) m).mono ?_
 rintro e v2 ⟨rfl,hx,h1⟩
 rw[show acj m (.inr S)=.inr S by rw[acj,if_neg (by omega)]] at h1 ⊢
 dsimp only [okB]
 have H2:=zb h1
 have HX2:=zb ((za HX1).trans hx)
 have HU2:=zb ((za HU1).ext hx fun j hj=>by omega)
 clear hx h1 HX1 HU1
 go_wp2_with fail
 refine(zk (za H2) abt).mono ?_
 rintro e v3 ⟨rfl,hx,h1⟩
 rw[show zq (.inr S) abt=false from fwVar]
 rw[zw fwVar] at h1
 have H3:=zb h1
 have HX3:=zb ((za HX2).trans hx)
 have HU3:=zb ((za HU2).ext hx fun j hj=>by omega)
 clear hx h1 HX2 HU2
 go_wp2_with fail
 refine(zk (za H3) wIf).mono ?_
 rintro e v4 ⟨rfl,hx,h1⟩
 rw[show zq (.inr S) wIf=false from fwIf]
 rw[zw fwIf] at h1
 have H4:=zb h1
 have HX4:=zb ((za HX3).trans hx)
 have HU4:=zb ((za HU3).ext hx fun j hj=>by omega)
 clear hx h1 HX3 HU3
 go_wp2_with fail
 refine(zk (za H4) abb).mono ?_
 rintro e v5 ⟨rfl,hx,h1⟩
 rw[show zq (.inr S) abb=false from fwWhile]
 rw[zw fwWhile] at h1
 have H5:=zb h1
 have HX5:=zb ((za HX4).trans hx)
 have HU5:=zb ((za HU4).ext hx fun j hj=>by omega)
 clear hx h1 HX4 HU4
 go_wp2_with fail
 refine(zk (za H5) ad4).mono ?_
 rintro e v6 ⟨rfl,hx,h1⟩
 rw[show zq (.inr S) ad4=false from fwTry]
 rw[zw fwTry] at h1
 have H6:=zb h1
 have HX6:=zb ((za HX5).trans hx)
 have HU6:=zb ((za HU5).ext hx fun j hj=>by omega)
 clear hx h1 HX5 HU5
 go_wp2_with fail
 refine(zk (za H6) abk).mono ?_
 rintro e v7 ⟨rfl,hx,h1⟩
 rw[show zq (.inr S) abk=false from fwReturn]
 rw[zw fwReturn] at h1
 have H7:=zb h1
 have HX7:=zb ((za HX6).trans hx)
 have HU7:=zb ((za HU6).ext hx fun j hj=>by omega)
 clear hx h1 HX6 HU6
 go_wp2_with fail
 refine(zk (za H7) ach).mono ?_
 rintro e v8 ⟨rfl,hx,h1⟩
 rw[show zq (.inr S) ach=false from fwThrow]
 rw[zw fwThrow] at h1
 have H8:=zb h1
 have HX8:=zb ((za HX7).trans hx)
 have HU8:=zb ((za HU7).ext hx fun j hj=>by omega)
 clear hx h1 HX7 HU7
 go_wp2_with fail
 refine(zk (za H8) ac7).mono ?_
 rintro e v9 ⟨rfl,hx,h1⟩
 rw[show zq (.inr S) ac7=true from hi]
 rw[aa6 hi] at h1
 have H9:=zb h1
 have HX9:=zb ((za HX8).trans hx)
 have HU9:=zb ((za HU8).ext hx fun j hj=>by omega)
 clear hx h1 HX8 HU8
 have HD1:Hid (Dp m (zg (zi S))):=aa6 hi ▸ (za HD).eat ac7 (za H8)
 go_wp2_with fail
 obtain⟨t0,hb⟩:=(za HU9).cells
 have hnj:=(gtE hb).1
 have hsz1:=(za HX9).size
 clear hb
 refine(ah0 (za H9) (za HD1) hm (za HL)).mono ?_
 rintro e v10 ⟨ka,rfl,hx,h1,hv⟩
 have HV1:=zb hv
 have hs1:=hx.size
 clear hv
 have H10:=zb h1
 have HX10:=zb ((za HX9).trans hx)
 have HU10:=zb ((za HU9).ext hx fun j hj=>by omega)
 clear hx h1 HX9 HU9
 obtain⟨t0,hb0⟩:=(za HU10).cells
 have hb:=(aam v10 (.cells #[.pointer (some ⟨ka,0,none⟩)] 22) (gtE hb0).1).trans hb0
 clear hb0
 have q0:(v10.alloc (.cells #[.pointer (some ⟨ka,0,none⟩)] 22)).cell? ⟨nb,0,none⟩=some (.int .i64 0):=zd hb 0
 have q5:(v10.alloc (.cells #[.pointer (some ⟨ka,0,none⟩)] 22)).cell? ⟨nb,5,none⟩=some (.slice none 0 0):=zd hb 5
 have gz:=zp hb
 have hnv:=(gtE hb).1
 clear hb
 go_wp2_with fail
 have H11:Hid (At (((v10.alloc (.cells #[.pointer (some ⟨ka,0,none⟩)] 22)).setCell ⟨nb,0,none⟩ (.int .i64 16)).setCell ⟨nb,5,none⟩ (.slice (some ⟨v10.heap.size,0,none⟩) 1 1)) pb (zg (run (aa7 L) (zg (zi S))))):=(((za H10).add ((Add.refl v10).alloc _)).putNew (by omega) 0 _).putNew (by omega) 5 _
 have HX11:Hid (Ext pb w (((v10.alloc (.cells #[.pointer (some ⟨ka,0,none⟩)] 22)).setCell ⟨nb,0,none⟩ (.int .i64 16)).setCell ⟨nb,5,none⟩ (.slice (some ⟨v10.heap.size,0,none⟩) 1 1))):=(((za HX10).alloc _).setNew ⟨nb,0,none⟩ (show w.heap.size≤nb by omega) _).setNew ⟨nb,5,none⟩ (show w.heap.size≤nb by omega) _
 have HN11:Hid (∀t T,run (aa7 L) (zg (zi S))=.inr (t,T)→NodeAt (fun j=>w.heap.size≤j) (((v10.alloc (.cells #[.pointer (some ⟨ka,0,none⟩)] 22)).setCell ⟨nb,0,none⟩ (.int .i64 16)).setCell ⟨nb,5,none⟩ (.slice (some ⟨v10.heap.size,0,none⟩) 1 1)) (.pointer (some ⟨nb,0,none⟩)) (nd 16 S.tl [t])):=fun t T e=>by
  have hl2:=ago (lo:=v9.heap.size) (w:=v10) (by omega) (za HV1 t T e)
  exact((((za HU10).ext ((Ext.refl pb v10).alloc _) fun j hj=>by omega).put 0 (.int .i64 16) (k':=16) rfl).setKids (hl2.put hnj 0 _) hnj).node
 clear q0 q5 gz hnv H10 HX10 HU10 HV1
 generalize (((v10.alloc (.cells #[.pointer (some ⟨ka,0,none⟩)] 22)).setCell ⟨nb,0,none⟩ (.int .i64 16)).setCell ⟨nb,5,none⟩ (.slice (some ⟨v10.heap.size,0,none⟩) 1 1))=v11 at *
 refine(aa1 (za H11) acg).mono ?_
 rintro e v12 ⟨rfl,hx,h1⟩
 have H9:=zb h1
 have HX:=zb hx
 have HX9:=zb ((za HX11).trans hx)
 clear hx h1
 go_wp2_with fail
 go_ret
 refine⟨nb,rfl,za HX9,?_,?_⟩
 ·show At _ pb (zg (aal L S))
  rw[za HS,aaz (R:=adl (aa7 L)) fun _ _=>abw,aka]
  exact za H9
 ·intro a T e
  rw[show run (aal L) (.inr S)=aal L S from rfl,za HS] at e
  obtain⟨_,S1,e1,e⟩:=ze e
  obtain⟨t,S2,e2,e⟩:=ze e
  cases e
  obtain⟨t',S3,e3,e4⟩:=ze e2
  obtain⟨_,S4,e5,e6⟩:=ze e4
  cases e6
  have q1:run (aa7 L) (zg (zi S))=.inr (t,S3):=by rw[e1];exact e3
  exact NodeAt.ext (za HN11 t S3 q1) (za HX) fun j hj=>by omega
theorem bao {w:World} {pb m:Nat} {S:LS} (h:At w pb (.inr S)) (hd:S.dp=m) (hm:m≤25) {L:Low} (hL:RLow m L) (hi:S.is abt=true):Calls prog 40 #[.pointer (some ⟨pb,0,none⟩),.int .i64 (m:Int)] w fun e w'=>RN (run (aal L) (.inr S)) pb w e w':=by
 have HS:=zb (show aal L S=bnd (zi S) fun _ S1=>bnd (z6 S1) fun s S2=>bnd (zj acz S2) fun _ S3=>bnd (adl L.V S3) fun t S4=>.inr (ndT 8 s S.tl [t],S4) by rw[aal,if_pos hi];rfl)
 have hwr:IntKind.i64.wrap ((m:Int)+1)=(m:Int)+1:=ac3 (by omega) (by omega)
 have hpl:=h.lt
 have HD:Hid (Dp m (.inr S)):=fun T e=>by cases e;exact hd
 have HL:=zb hL
 have H:=zb h
 clear h hd hL
 go_enter func40,ntmps40
 go_wp2_with fail
 refine(aav (za H) 0).mono ?_
 rintro e v1 ⟨nb,ln,rfl,hnb,hsz,hb,ha,hln⟩
 obtain rfl:=hln S rfl
 have H1:=zb ((za H).add ha)
 have HX1:=zb (ha.ext pb)
 have HU1:Hid (Und (fun j=>w.heap.size≤j) v1 nb 0 zc zc 0 S.tl [] (.slice none 0 0) []):=⟨hnb,⟨_,hb⟩,Or.inl ⟨rfl,rfl⟩,rfl,fun i h=>absurd h (Nat.not_lt_zero i)⟩
 clear ha hb hln hsz H
 go_wp2_with fail
 refine(ad1 (za H1) m).mono ?_
 rintro e v2 ⟨rfl,hx,h1⟩
 rw[show acj m (.inr S)=.inr S by rw[acj,if_neg (by omega)]] at h1 ⊢
 dsimp only [okB]
 have H2:=zb h1
 have HX2:=zb ((za HX1).trans hx)
 have HU2:=zb ((za HU1).ext hx fun j hj=>by omega)
 clear hx h1 HX1 HU1
 go_wp2_with fail
 refine(zk (za H2) abt).mono ?_
 rintro e v3 ⟨rfl,hx,h1⟩
 rw[show zq (.inr S) abt=true from hi]
 rw[aa6 hi] at h1
 have H3:=zb h1
 have HX3:=zb ((za HX2).trans hx)
 have HU3:=zb ((za HU2).ext hx fun j hj=>by omega)
 clear hx h1 HX2 HU2
 have HD1:Hid (Dp m (zg (zi S))):=aa6 hi ▸ (za HD).eat abt (za H2)
 go_wp2_with fail
 refine(aep (za H3)).mono ?_
 rintro e v4 ⟨tx,rfl,hx,h1,htx⟩
 have HT:=zb htx
 have HD2:=zb ((za HD1).name (za H3))
 clear htx
 have H4:=zb h1
 have HX4:=zb ((za HX3).trans hx)
 have HU4:=zb ((za HU3).ext hx fun j hj=>by omega)
 clear hx h1 HX3 HU3
 obtain⟨t0,hb⟩:=(za HU4).cells
 have q0:v4.cell? ⟨nb,0,none⟩=some (.int .i64 0):=zd hb 0
 have q1:v4.cell? ⟨nb,1,none⟩=some (.string zc):=zd hb 1
 have gz:=zp hb
 have hnv:=(gtE hb).1
 clear hb
 go_wp2_with fail
 have H5:Hid (At ((v4.setCell ⟨nb,0,none⟩ (.int .i64 8)).setCell ⟨nb,1,none⟩ (.string tx)) pb (zg (run z6 (zg (zi S))))):=((za H4).putNew (by omega) 0 _).putNew (by omega) 1 _
 have HX5:Hid (Ext pb w ((v4.setCell ⟨nb,0,none⟩ (.int .i64 8)).setCell ⟨nb,1,none⟩ (.string tx))):=((za HX4).setNew ⟨nb,0,none⟩ (show w.heap.size≤nb by omega) _).setNew ⟨nb,1,none⟩ (show w.heap.size≤nb by omega) _
 have HU5:Hid (Und (fun j=>w.heap.size≤j) ((v4.setCell ⟨nb,0,none⟩ (.int .i64 8)).setCell ⟨nb,1,none⟩ (.string tx)) nb 8 tx zc 0 S.tl [] (.slice none 0 0) []):=((za HU4).put 0 (.int .i64 8) (k':=8) rfl).put 1 (.string tx) (tx':=tx) rfl
 clear q0 q1 gz hnv HX4 HU4 H4
 generalize ((v4.setCell ⟨nb,0,none⟩ (.int .i64 8)).setCell ⟨nb,1,none⟩ (.string tx))=v5 at *
 have HD3:=zb ((za HD2).want acz (za H5))
 refine(aa1 (za H5) acz).mono ?_
 rintro e v6 ⟨rfl,hx,h1⟩
 have H6:=zb h1
 have HX6:=zb ((za HX5).trans hx)
 have HU6:=zb ((za HU5).ext hx fun j hj=>by omega)
 clear hx h1 HX5 HU5
 obtain⟨ks,hks⟩:∃ks,ks=Value.slice none 0 0:=⟨_,rfl⟩
 obtain⟨vs,hvs0⟩:∃vs:List Value,vs=[]:=⟨_,rfl⟩
 have HU:Hid (Und (fun j=>w.heap.size≤j) v6 nb 8 tx zc 0 S.tl [] ks vs):=by rw[hks,hvs0];exact za HU6
 have hvs:vs.length≤10:=by rw[hvs0];simp
 clear hks hvs0
 obtain⟨t0,hb⟩:=(za HU).cells
 have d5:v6.cell? ⟨nb,5,none⟩=some ks:=zd hb 5
 have g5:=zp hb 5
 have HX0:=HX6
 have HA:=H6
 obtain⟨i0,hi0,hz0,hz1,hz2⟩:=info_parts zz
 have hent:=aib pb ((m:Int)+1)
 clear hb HU6 HX6 H6
 go_wp2_with fail
 go_region_law ((first | (refine step_append_lies _ (by rfl) _ _ _ (by rfl) 0 22 i0 (.pointer none) 1 8 underlying51 hi0 hz0 hz1 hz2 rfl (by decide) ks vs.length vs (by rfl) ((za HO2).alloc _) ⟨w2.heap.size,0,none⟩ 1 1 [.pointer (some ⟨kb,0,none⟩)] (by rfl) rfl (cell_one_new _ _ _) (fun u hu=>by simp at hu;subst hu;rfl) (by decide) (by unfold maxLen;omega) (by omega) (Nat.zero_le _) (w2.heap.size+1) (by simp) ?_;intro g cap w3 hown hgrow hat hlt;obtain⟨e6,f6,HU3,HX3,HA3⟩:=aeq (q:=run L.V (zg (run (zj acz) (zg (run z6 (zg (zi S))))))) rfl (za HU).drew (za HU2) hpl (za HA2) (za HX2) (za HV2) _ hown hgrow hat;clear hown hgrow hat hlt) | (refine aba rfl (by simp[Act.eval,hent,go_sem]) (((za HL).v _ pb _ (za HA).drew (za HD3)).mono ?_);rintro e w2 ⟨kb,rfl,hx,h2,hv⟩;obtain⟨e5,e5a,HO2,HU2⟩:=abl (za HU).drew hx (by omega);have HV2:=zb hv;have HA2:=zb h2;have HX2:=zb (((za HX0).drew).trans hx);clear hv h2 hx)))
 all_goals
  clear d5 g5 HU HX0 HA e5 e5a e6 f6
  go_wp2_with fail
  refine(aa1 (za HA3) acg).mono ?_
  rintro e v99 ⟨rfl,hx,h1⟩
  have H9:=zb h1
  have HX:=zb hx
  have HX9:=zb ((za HX3).trans hx)
  clear hx h1
  go_wp2_with fail
  go_ret
  refine⟨nb,rfl,za HX9,?_,?_⟩
  ·show At _ pb (zg (aal L S))
   rw[za HS,aaz (R:=fun S1=>bnd (z6 S1) fun s S2=>bnd (zj acz S2) fun _ S3=>bnd (adl L.V S3) fun t S4=>.inr (ndT 8 s S.tl [t],S4)) fun _ _=>rfl,ae0,aaz (R:=fun S2=>bnd (zj acz S2) fun _ S3=>adl L.V S3) (fun s S2=>by cases zj acz S2 with | inl f=>rfl | inr y=>exact abw),ae0,aaz (R:=adl L.V) (fun _ _=>rfl),aka]
   exact za H9
  ·intro a T e
   rw[show run (aal L) (.inr S)=aal L S from rfl,za HS] at e
   obtain⟨_,S1,e1,e⟩:=ze e
   obtain⟨s1,S2,e2,e⟩:=ze e
   obtain⟨_,S3,e3,e⟩:=ze e
   obtain⟨t,S4,e4,e⟩:=ze e
   cases e
   obtain⟨t',S5,e5,e6⟩:=ze e4
   obtain⟨_,S6,e7,e8⟩:=ze e6
   cases e8
   have q1:run z6 (zg (zi S))=.inr (s1,S2):=by rw[e1];exact e2
   obtain rfl:=za HT s1 S2 q1
   have q2:zg (run (zj acz) (zg (run z6 (zg (zi S)))))=.inr S3:=by rw[q1];show zg (zj acz S2)=_;rw[e3];rfl
   have q3:run L.V (zg (run (zj acz) (zg (run z6 (zg (zi S))))))=.inr (t,S5):=by rw[q2];exact e5
   exact NodeAt.ext ((za HU3) t S5 q3).node (za HX) fun j hj=>by omega
theorem atp {L:Low} {k:Nat} {S:LS}:zg (abx L k S)=zg (run (aaj L) (zg (run (aa7 L) (zg (zi S))))):=by
 rw[show abx L k S=bnd (zi S) fun _ S1=>bnd (aa7 L S1) fun c S2=>bnd (aaj L S2) fun b S3=>.inr (nd k S.tl [c,b],S3) from rfl,aaz (R:=fun S1=>bnd (aa7 L S1) fun c S2=>bnd (aaj L S2) fun b S3=>.inr (nd k S.tl [c,b],S3)) fun _ _=>rfl,ae0,aaz (R:=aaj L) fun _ _=>abw]
theorem axs {L:Low} {k:Nat} {S T:LS} {g:Tree} (h:abx L k S=.inr (g,T)):∃x S2 y,run (aa7 L) (zg (zi S))=.inr (x,S2)∧run (aaj L) (zg (run (aa7 L) (zg (zi S))))=.inr (y,T)∧g=nd k S.tl [x,y]:=by
 obtain⟨_,S1,e1,e⟩:=ze h
 obtain⟨x,S2,e2,e⟩:=ze e
 obtain⟨y,S3,e3,e⟩:=ze e
 cases e
 have q1:run (aa7 L) (zg (zi S))=.inr (x,S2):=by rw[e1];exact e2
 exact⟨x,S2,y,q1,by rw[q1];exact e3,rfl⟩
theorem bap {L:Low} {S:LS} (h:zq (zg (abx L 10 S)) ag8=false):ad9 L S=abx L 10 S:=by
 unfold ad9
 cases hg:abx L 10 S with
 | inl f=>rfl
 | inr y =>
  rw[hg] at h
  show bnd (aab ag8 y.2) _=_
  rw[aab,if_neg (by rw[show y.2.is ag8=false from h];decide)]
  rfl
theorem axt {L:Low} {S T:LS} {g:Tree} (hg:abx L 10 S=.inr (g,T)) (h:T.is ag8=true):ad9 L S=bnd (zi T) fun _ S4=>bnd (aaj L S4) fun u S5=>.inr ({ g with kids:=g.kids++[u] },S5):=by
 unfold ad9
 rw[zn hg,aab,if_pos h]
 cases zi T <;> rfl
theorem axu (pb:Nat) (n:Int):∀w:World,Sem.run prog (callFunc 68 #[.pointer (some ⟨pb,0,none⟩),.int .i64 n]) w=.ok (.enter 68 #[.pointer (some ⟨pb,0,none⟩),.int .i64 n]) w:=fun _=>by kernel_rfl
theorem bde {w:World} {pb m:Nat} {S:LS} (h:At w pb (.inr S)) (hd:S.dp=m) (hm:m≤25) {L:Low} (hL:RLow m L) (hi:S.is wIf=true):Calls prog 40 #[.pointer (some ⟨pb,0,none⟩),.int .i64 (m:Int)] w fun e w'=>RN (run (aal L) (.inr S)) pb w e w':=by
 have fwVar:S.is abt=false:=zh hi (by decide)
 have HS:=zb (show aal L S=ad9 L S by rw[aal,if_neg (show ¬S.is abt=true by rw[zh hi (show (wIf.data.toList==abt.data.toList)=false by decide)];decide),if_pos hi])
 have hwr:IntKind.i64.wrap ((m:Int)+1)=(m:Int)+1:=ac3 (by omega) (by omega)
 have hpl:=h.lt
 have HD:Hid (Dp m (.inr S)):=fun T e=>by cases e;exact hd
 have HL:=zb hL
 have H:=zb h
 clear h hd hL
 go_enter func40,ntmps40
 go_wp2_with fail
 refine(aav (za H) 0).mono ?_
 rintro e v1 ⟨nb,ln,rfl,hnb,hsz,hb,ha,hln⟩
 obtain rfl:=hln S rfl
 have H1:=zb ((za H).add ha)
 have HX1:=zb (ha.ext pb)
 have HU1:Hid (Und (fun j=>w.heap.size≤j) v1 nb 0 zc zc 0 S.tl [] (.slice none 0 0) []):=⟨hnb,⟨_,hb⟩,Or.inl ⟨rfl,rfl⟩,rfl,fun i h=>absurd h (Nat.not_lt_zero i)⟩
 clear ha hb hln hsz H
 go_wp2_with fail
 refine(ad1 (za H1) m).mono ?_
 rintro e v2 ⟨rfl,hx,h1⟩
 rw[show acj m (.inr S)=.inr S by rw[acj,if_neg (by omega)]] at h1 ⊢
 dsimp only [okB]
 have H2:=zb h1
 have HX2:=zb ((za HX1).trans hx)
 have HU2:=zb ((za HU1).ext hx fun j hj=>by omega)
 clear hx h1 HX1 HU1
 go_wp2_with fail
 refine(zk (za H2) abt).mono ?_
 rintro e v3 ⟨rfl,hx,h1⟩
 rw[show zq (.inr S) abt=false from fwVar]
 rw[zw fwVar] at h1
 have H3:=zb h1
 have HX3:=zb ((za HX2).trans hx)
 have HU3:=zb ((za HU2).ext hx fun j hj=>by omega)
 clear hx h1 HX2 HU2
 go_wp2_with fail
 refine(zk (za H3) wIf).mono ?_
 rintro e v4 ⟨rfl,hx,h1⟩
 rw[show zq (.inr S) wIf=true from hi]
 rw[aa6 hi] at h1
 have H4:=zb h1
 have HX4:=zb ((za HX3).trans hx)
 have HU4:=zb ((za HU3).ext hx fun j hj=>by omega)
 clear hx h1 HX3 HU3
 have HD1:Hid (Dp m (zg (zi S))):=aa6 hi ▸ (za HD).eat wIf (za H3)
 go_wp2_with fail
 obtain⟨t0,hb⟩:=(za HU4).cells
 have hnj:=(gtE hb).1
 have hsz1:=(za HX4).size
 clear hb
 refine(ah0 (za H4) (za HD1) hm (za HL)).mono ?_
 rintro e v5 ⟨ka,rfl,hx,h1,hv⟩
 have HV1:=zb hv
 have HD2:=zb (Dp.run (aej (za HL).good).weak (za H4) (za HD1))
 have hs1:=hx.size
 clear hv
 have H5:=zb h1
 have HX5:=zb ((za HX4).trans hx)
 have HU5:=zb ((za HU4).ext hx fun j hj=>by omega)
 clear hx h1 HX4 HU4
 go_wp2_with fail
 refine(agn (za H5) (za HD2) hm (za HL)).mono ?_
 rintro e v6 ⟨kb,rfl,hx,h1,hv⟩
 have HV2:=zb hv
 have HXB:=zb hx
 have hs2:=hx.size
 have HD3:=zb (Dp.run (adj (za HL).good).weak (za H5) (za HD2))
 clear hv
 have H6:=zb h1
 have HX6:=zb ((za HX5).trans hx)
 have HU6:=zb ((za HU5).ext hx fun j hj=>by omega)
 clear hx h1 HX5 HU5
 obtain⟨t0,hb0⟩:=(za HU6).cells
 have hb:=(aam v6 (.cells #[.pointer (some ⟨ka,0,none⟩),.pointer (some ⟨kb,0,none⟩)] 22) (gtE hb0).1).trans hb0
 clear hb0
 have q0:(v6.alloc (.cells #[.pointer (some ⟨ka,0,none⟩),.pointer (some ⟨kb,0,none⟩)] 22)).cell? ⟨nb,0,none⟩=some (.int .i64 0):=zd hb 0
 have q5:(v6.alloc (.cells #[.pointer (some ⟨ka,0,none⟩),.pointer (some ⟨kb,0,none⟩)] 22)).cell? ⟨nb,5,none⟩=some (.slice none 0 0):=zd hb 5
 have gz:=zp hb
 have hnv:=(gtE hb).1
 clear hb
 go_wp2_with fail
 have H7:Hid (At (((v6.alloc (.cells #[.pointer (some ⟨ka,0,none⟩),.pointer (some ⟨kb,0,none⟩)] 22)).setCell ⟨nb,0,none⟩ (.int .i64 10)).setCell ⟨nb,5,none⟩ (.slice (some ⟨v6.heap.size,0,none⟩) 2 2)) pb (zg (abx L 10 S))):=by rw[atp];exact(((za H6).add ((Add.refl v6).alloc _)).putNew (by omega) 0 _).putNew (by omega) 5 _
 have HD4:Hid (Dp m (zg (abx L 10 S))):=by rw[atp];exact za HD3
 have HX7:Hid (Ext pb w (((v6.alloc (.cells #[.pointer (some ⟨ka,0,none⟩),.pointer (some ⟨kb,0,none⟩)] 22)).setCell ⟨nb,0,none⟩ (.int .i64 10)).setCell ⟨nb,5,none⟩ (.slice (some ⟨v6.heap.size,0,none⟩) 2 2))):=(((za HX6).alloc _).setNew ⟨nb,0,none⟩ (show w.heap.size≤nb by omega) _).setNew ⟨nb,5,none⟩ (show w.heap.size≤nb by omega) _
 obtain⟨ks,hks⟩:∃ks,ks=Value.slice (some ⟨v6.heap.size,0,none⟩) 2 2:=⟨_,rfl⟩
 have HN:Hid (∀gg T,abx L 10 S=.inr (gg,T)→∃x y,gg=nd 10 S.tl [x,y]∧Und (fun j=>w.heap.size≤j) (((v6.alloc (.cells #[.pointer (some ⟨ka,0,none⟩),.pointer (some ⟨kb,0,none⟩)] 22)).setCell ⟨nb,0,none⟩ (.int .i64 10)).setCell ⟨nb,5,none⟩ (.slice (some ⟨v6.heap.size,0,none⟩) 2 2)) nb 10 zc zc 0 S.tl [x,y] ks [.pointer (some ⟨ka,0,none⟩),.pointer (some ⟨kb,0,none⟩)]):=fun gg T e=>by
  obtain⟨x,S2,y,q1,q2,rfl⟩:=axs e
  have n1:=NodeAt.ext (za HV1 x S2 q1) (za HXB) fun j hj=>by omega
  have hl2:=(alh (lo:=v4.heap.size) (w:=v6) (a:=ka) (b:=kb) (by omega)).2 x y n1 (NodeAt.mono (za HV2 y T q2) fun j hj=>by omega)
  rw[hks]
  exact⟨x,y,rfl,(((za HU6).ext ((Ext.refl pb v6).alloc _) fun j hj=>by omega).put 0 (.int .i64 10) (k':=10) rfl).setKids (hl2.put hnj 0 _) hnj⟩
 clear q0 q5 gz hnv hks H6 HX6 HU6 HV1 HV2 HXB
 generalize (((v6.alloc (.cells #[.pointer (some ⟨ka,0,none⟩),.pointer (some ⟨kb,0,none⟩)] 22)).setCell ⟨nb,0,none⟩ (.int .i64 10)).setCell ⟨nb,5,none⟩ (.slice (some ⟨v6.heap.size,0,none⟩) 2 2))=v7 at *
 refine(zk (za H7) ag8).mono ?_
 rintro e v8 ⟨rfl,hx,h1⟩
 have hEE:zq (zg (abx L 10 S)) ag8=true∨zq (zg (abx L 10 S)) ag8=false:=by cases zq (zg (abx L 10 S)) ag8 <;> simp
 have HX8:=zb ((za HX7).trans hx)
 have HX:=zb hx
 have H8:=zb h1
 clear hx h1
 rcases hEE with hE | hE
 ·rw[hE]
  obtain⟨T,hT,hTi⟩:=agc hE
  obtain⟨gg,hgg⟩:=agy hT
  obtain⟨x,y,rfl,hu0⟩:=za HN gg T hgg
  have HU8:=zb (hu0.ext (za HX) fun j hj=>by omega)
  have HC:=zb (axt hgg hTi)
  have hA':At v8 pb (zg (zi T)):=by
   have:=za H8
   rw[hT,aa6 hTi] at this
   exact this
  have HDT:Hid (Dp m (zg (zi T))):=by
   have:=(za HD4).eat ag8 (za H7)
   rw[hT,aa6 hTi] at this
   exact this
  clear H8
  have H8:=zb hA'
  clear hA' hu0 hTi hT hgg hE HN H7 HX7
  obtain⟨vs,hvs0⟩:∃vs:List Value,vs=[.pointer (some ⟨ka,0,none⟩),.pointer (some ⟨kb,0,none⟩)]:=⟨_,rfl⟩
  have HU:Hid (Und (fun j=>w.heap.size≤j) v8 nb 10 zc zc 0 S.tl [x,y] ks vs):=by rw[hvs0];exact za HU8
  have hvs:vs.length≤10:=by rw[hvs0];simp
  clear hvs0
  obtain⟨t0,hb⟩:=(za HU).cells
  have d5:v8.cell? ⟨nb,5,none⟩=some ks:=zd hb 5
  have g5:=zp hb 5
  have HX0:=HX8
  have HA:=H8
  obtain⟨i0,hi0,hz0,hz1,hz2⟩:=info_parts zz
  have hent:=axu pb (m:Int)
  clear hb HU8 HX8 H8
  go_wp2_with fail
  go_region_law ((first | (refine step_append_lies _ (by rfl) _ _ _ (by rfl) 0 22 i0 (.pointer none) 1 8 underlying51 hi0 hz0 hz1 hz2 rfl (by decide) ks vs.length vs (by rfl) ((za HO2).alloc _) ⟨w2.heap.size,0,none⟩ 1 1 [.pointer (some ⟨kb,0,none⟩)] (by rfl) rfl (cell_one_new _ _ _) (fun u hu=>by simp at hu;subst hu;rfl) (by decide) (by unfold maxLen;omega) (by omega) (Nat.zero_le _) (w2.heap.size+1) (by simp) ?_;intro g cap w3 hown hgrow hat hlt;obtain⟨e6,f6,HU3,HX3,HA3⟩:=aeq (q:=run (aaj L) (zg (zi T))) rfl (za HU).drew (za HU2) hpl (za HA2) (za HX2) (za HV2) _ hown hgrow hat;clear hown hgrow hat hlt) | (refine aba rfl (by simp[Act.eval,hent,go_sem]) ((agn (za HA).drew (za HDT) hm (za HL)).mono ?_);rintro e w2 ⟨kb,rfl,hx,h2,hv⟩;obtain⟨e5,e5a,HO2,HU2⟩:=abl (za HU).drew hx (by omega);have HV2:=zb hv;have HA2:=zb h2;have HX2:=zb (((za HX0).drew).trans hx);clear hv h2 hx)))
  all_goals
   clear d5 g5 HU HX0 HA e5 e5a e6 f6
   go_wp2_with fail
   go_ret
   refine⟨nb,rfl,za HX3,?_,?_⟩
   ·show At _ pb (zg (aal L S))
    rw[za HS,za HC,aaz (R:=aaj L) fun _ _=>abw]
    exact za HA3
   ·intro a T' e
    rw[show run (aal L) (.inr S)=aal L S from rfl,za HS,za HC] at e
    obtain⟨_,S1,e1,e⟩:=ze e
    obtain⟨u,S2,e2,e⟩:=ze e
    cases e
    have q1:run (aaj L) (zg (zi T))=.inr (u,T'):=by rw[e1];exact e2
    exact((za HU3) u T' q1).node
 ·rw[hE]
  have HC:=zb (bap hE)
  have hA':At v8 pb (zg (abx L 10 S)):=by
   have:=za H8
   rw[agq,if_neg (by rw[hE];decide)] at this
   exact this
  clear H8
  have H8:=zb hA'
  clear hA' hE
  go_wp2_with fail
  go_ret
  refine⟨nb,rfl,za HX8,?_,?_⟩
  ·show At _ pb (zg (aal L S))
   rw[za HS,za HC]
   exact za H8
  ·intro a T e
   rw[show run (aal L) (.inr S)=aal L S from rfl,za HS,za HC] at e
   obtain⟨x,y,rfl,hu0⟩:=za HN a T e
   exact(hu0.ext (za HX) fun j hj=>by omega).node
theorem atq {w:World} {pb m:Nat} {S:LS} (h:At w pb (.inr S)) (hd:S.dp=m) (hm:m≤25) {L:Low} (hL:RLow m L) (hi:S.is abk=true):Calls prog 40 #[.pointer (some ⟨pb,0,none⟩),.int .i64 (m:Int)] w fun e w'=>RN (run (aal L) (.inr S)) pb w e w':=by
 have fwVar:S.is abt=false:=zh hi (by decide)
 have fwIf:S.is wIf=false:=zh hi (by decide)
 have fwWhile:S.is abb=false:=zh hi (by decide)
 have fwTry:S.is ad4=false:=zh hi (by decide)
 have HS:=zb (show aal L S=ado L S by rw[aal,if_neg (show ¬S.is abt=true by rw[zh hi (show (abk.data.toList==abt.data.toList)=false by decide)];decide),if_neg (show ¬S.is wIf=true by rw[zh hi (show (abk.data.toList==wIf.data.toList)=false by decide)];decide),if_neg (show ¬S.is abb=true by rw[zh hi (show (abk.data.toList==abb.data.toList)=false by decide)];decide),if_pos hi])
 have hwr:IntKind.i64.wrap ((m:Int)+1)=(m:Int)+1:=ac3 (by omega) (by omega)
 have hpl:=h.lt
 have HD:Hid (Dp m (.inr S)):=fun T e=>by cases e;exact hd
 have HL:=zb hL
 have H:=zb h
 clear h hd hL
 go_enter func40,ntmps40
 go_wp2_with fail
 refine(aav (za H) 0).mono ?_
 rintro e v1 ⟨nb,ln,rfl,hnb,hsz,hb,ha,hln⟩
 obtain rfl:=hln S rfl
 have H1:=zb ((za H).add ha)
 have HX1:=zb (ha.ext pb)
 have HU1:Hid (Und (fun j=>w.heap.size≤j) v1 nb 0 zc zc 0 S.tl [] (.slice none 0 0) []):=⟨hnb,⟨_,hb⟩,Or.inl ⟨rfl,rfl⟩,rfl,fun i h=>absurd h (Nat.not_lt_zero i)⟩
 clear ha hb hln hsz H
 go_wp2_with fail
 refine(ad1 (za H1) m).mono ?_
 rintro e v2 ⟨rfl,hx,h1⟩
 rw[show acj m (.inr S)=.inr S by rw[acj,if_neg (by omega)]] at h1 ⊢
 dsimp only [okB]
 have H2:=zb h1
 have HX2:=zb ((za HX1).trans hx)
 have HU2:=zb ((za HU1).ext hx fun j hj=>by omega)
 clear hx h1 HX1 HU1
 go_wp2_with fail
 refine(zk (za H2) abt).mono ?_
 rintro e v3 ⟨rfl,hx,h1⟩
 rw[show zq (.inr S) abt=false from fwVar]
 rw[zw fwVar] at h1
 have H3:=zb h1
 have HX3:=zb ((za HX2).trans hx)
 have HU3:=zb ((za HU2).ext hx fun j hj=>by omega)
 clear hx h1 HX2 HU2
 go_wp2_with fail
 refine(zk (za H3) wIf).mono ?_
 rintro e v4 ⟨rfl,hx,h1⟩
 rw[show zq (.inr S) wIf=false from fwIf]
 rw[zw fwIf] at h1
 have H4:=zb h1
 have HX4:=zb ((za HX3).trans hx)
 have HU4:=zb ((za HU3).ext hx fun j hj=>by omega)
 clear hx h1 HX3 HU3
 go_wp2_with fail
 refine(zk (za H4) abb).mono ?_
 rintro e v5 ⟨rfl,hx,h1⟩
 rw[show zq (.inr S) abb=false from fwWhile]
 rw[zw fwWhile] at h1
 have H5:=zb h1
 have HX5:=zb ((za HX4).trans hx)
 have HU5:=zb ((za HU4).ext hx fun j hj=>by omega)
 clear hx h1 HX4 HU4
 go_wp2_with fail
 refine(zk (za H5) ad4).mono ?_
 rintro e v6 ⟨rfl,hx,h1⟩
 rw[show zq (.inr S) ad4=false from fwTry]
 rw[zw fwTry] at h1
 have H6:=zb h1
 have HX6:=zb ((za HX5).trans hx)
 have HU6:=zb ((za HU5).ext hx fun j hj=>by omega)
 clear hx h1 HX5 HU5
 go_wp2_with fail
 refine(zk (za H6) abk).mono ?_
 rintro e v7 ⟨rfl,hx,h1⟩
 rw[show zq (.inr S) abk=true from hi]
 rw[aa6 hi] at h1
 have H7:=zb h1
 have HX7:=zb ((za HX6).trans hx)
 have HU7:=zb ((za HU6).ext hx fun j hj=>by omega)
 clear hx h1 HX6 HU6
 have HD1:Hid (Dp m (zg (zi S))):=aa6 hi ▸ (za HD).eat abk (za H6)
 obtain⟨t0,hb⟩:=(za HU7).cells
 have q0:v7.cell? ⟨nb,0,none⟩=some (.int .i64 0):=zd hb 0
 have gz:=zp hb
 have hnv:=(gtE hb).1
 clear hb
 go_wp2_with fail
 have H8:Hid (At (v7.setCell ⟨nb,0,none⟩ (.int .i64 12)) pb (zg (zi S))):=(za H7).putNew (by omega) 0 _
 have HX8:Hid (Ext pb w (v7.setCell ⟨nb,0,none⟩ (.int .i64 12))):=(za HX7).setNew ⟨nb,0,none⟩ (show w.heap.size≤nb by omega) _
 have HU8:Hid (Und (fun j=>w.heap.size≤j) (v7.setCell ⟨nb,0,none⟩ (.int .i64 12)) nb 12 zc zc 0 S.tl [] (.slice none 0 0) []):=(za HU7).put 0 (.int .i64 12) (k':=12) rfl
 clear q0 gz hnv HX7 HU7 H7
 generalize (v7.setCell ⟨nb,0,none⟩ (.int .i64 12))=v8 at *
 cases ht:zi S with
 | inl f =>
  have HA:=zb (show At v8 pb (.inl f) by have:=za H8;rw[ht] at this;exact this)
  have HR:=zb (show aal L S=.inl f by rw[za HS,ado,ht];rfl)
  clear ht
  refine(aat (za HA)).mono ?_
  rintro e v9 ⟨rfl,rfl⟩
  dsimp only [okB]
  go_wp2_with fail
  refine(aa1 (za HA) acg).mono ?_
  rintro e v99 ⟨rfl,hx,h1⟩
  have H9:=zb h1
  have HX9:=zb ((za HX8).trans hx)
  clear hx h1
  go_wp2_with fail
  go_ret
  refine⟨nb,rfl,za HX9,?_,?_⟩
  ·show At _ pb (zg (aal L S))
   rw[za HR]
   exact za H9
  ·intro a T e
   rw[show run (aal L) (.inr S)=aal L S from rfl,za HR] at e
   cases e
 | inr y =>
  obtain⟨uu,S1⟩:=y
  have HA:=zb (show At v8 pb (.inr S1) by have:=za H8;rw[ht] at this;exact this)
  have HDS:Hid (Dp m (.inr S1)):=by have:=za HD1;rw[ht] at this;exact this
  have HR:=zb (show aal L S=bnd (aab acg S1) fun b S2=>if b=true then .inr (nd 12 S.tl [],S2) else bnd (adl L.V S2) fun t S3=>.inr (nd 12 S.tl [t],S3) by rw[za HS,ado,ht];rfl)
  clear ht H8 HD1 HS
  refine(aat (za HA)).mono ?_
  rintro e v9 ⟨rfl,rfl⟩
  dsimp only [okB]
  go_wp2_with fail
  refine(abu (za HA) acg).mono ?_
  rintro e v10 ⟨rfl,ha⟩
  have HX10:=zb ((za HX8).trans (ha.ext pb))
  have HU10:=zb ((za HU8).ext (ha.ext pb) fun j hj=>by omega)
  have H10:=zb ((za HA).add ha)
  clear ha HA HX8 HU8
  cases hb:S1.is acg
  ·rw[show zq (.inr S1) acg=false from hb]
   have HC:=zb (show aal L S=bnd (adl L.V S1) fun t S3=>.inr (nd 12 S.tl [t],S3) by rw[za HR,aab,if_neg (by rw[hb];decide)];rfl)
   clear hb HR
   obtain⟨ks,hks⟩:∃ks,ks=Value.slice none 0 0:=⟨_,rfl⟩
   obtain⟨vs,hvs0⟩:∃vs:List Value,vs=[]:=⟨_,rfl⟩
   have HU:Hid (Und (fun j=>w.heap.size≤j) v10 nb 12 zc zc 0 S.tl [] ks vs):=by rw[hks,hvs0];exact za HU10
   have hvs:vs.length≤10:=by rw[hvs0];simp
   clear hks hvs0
   obtain⟨t0,hb⟩:=(za HU).cells
   have d5:v10.cell? ⟨nb,5,none⟩=some ks:=zd hb 5
   have g5:=zp hb 5
   have HX0:=HX10
   have HA:=H10
   obtain⟨i0,hi0,hz0,hz1,hz2⟩:=info_parts zz
   have hent:=aib pb ((m:Int)+1)
   clear hb HU10 HX10 H10
   go_wp2_with fail
   go_region_law ((first | (refine step_append_lies _ (by rfl) _ _ _ (by rfl) 0 22 i0 (.pointer none) 1 8 underlying51 hi0 hz0 hz1 hz2 rfl (by decide) ks vs.length vs (by rfl) ((za HO2).alloc _) ⟨w2.heap.size,0,none⟩ 1 1 [.pointer (some ⟨kb,0,none⟩)] (by rfl) rfl (cell_one_new _ _ _) (fun u hu=>by simp at hu;subst hu;rfl) (by decide) (by unfold maxLen;omega) (by omega) (Nat.zero_le _) (w2.heap.size+1) (by simp) ?_;intro g cap w3 hown hgrow hat hlt;obtain⟨e6,f6,HU3,HX3,HA3⟩:=aeq (q:=run L.V (.inr S1)) rfl (za HU).drew (za HU2) hpl (za HA2) (za HX2) (za HV2) _ hown hgrow hat;clear hown hgrow hat hlt) | (refine aba rfl (by simp[Act.eval,hent,go_sem]) (((za HL).v _ pb _ (za HA).drew (za HDS)).mono ?_);rintro e w2 ⟨kb,rfl,hx,h2,hv⟩;obtain⟨e5,e5a,HO2,HU2⟩:=abl (za HU).drew hx (by omega);have HV2:=zb hv;have HA2:=zb h2;have HX2:=zb (((za HX0).drew).trans hx);clear hv h2 hx)))
   all_goals
    clear d5 g5 HU HX0 HA e5 e5a e6 f6
    go_wp2_with fail
    refine(aa1 (za HA3) acg).mono ?_
    rintro e v99 ⟨rfl,hx,h1⟩
    have H9:=zb h1
    have HX:=zb hx
    have HX9:=zb ((za HX3).trans hx)
    clear hx h1
    go_wp2_with fail
    go_ret
    refine⟨nb,rfl,za HX9,?_,?_⟩
    ·show At _ pb (zg (aal L S))
     rw[za HC,abw,show adl L.V S1=run (adl L.V) (.inr S1) from rfl,aka]
     exact za H9
    ·intro a T e
     rw[show run (aal L) (.inr S)=aal L S from rfl,za HC] at e
     obtain⟨t,S4,e4,e⟩:=ze e
     cases e
     obtain⟨t',S5,e5,e6⟩:=ze e4
     obtain⟨_,S6,e7,e8⟩:=ze e6
     cases e8
     exact NodeAt.ext ((za HU3) t S5 e5).node (za HX) fun j hj=>by omega
  ·rw[show zq (.inr S1) acg=true from hb]
   have HC:=zb (show aal L S=bnd (zj acg S1) fun _ S3=>.inr (nd 12 S.tl [],S3) by
    rw[za HR,aab,if_pos hb,zj,if_pos hb]
    cases zi S1 <;> rfl)
   clear hb HR
   go_wp2_with fail
   refine(aa1 (za H10) acg).mono ?_
   rintro e v99 ⟨rfl,hx,h1⟩
   have H9:=zb h1
   have HX9:=zb ((za HX10).trans hx)
   have HU9:=zb ((za HU10).ext hx fun j hj=>by omega)
   clear hx h1
   go_wp2_with fail
   go_ret
   refine⟨nb,rfl,za HX9,?_,?_⟩
   ·show At _ pb (zg (aal L S))
    rw[za HC,abw]
    exact za H9
   ·intro a T e
    rw[show run (aal L) (.inr S)=aal L S from rfl,za HC] at e
    obtain⟨_,S4,e4,e⟩:=ze e
    cases e
    exact(za HU9).node
end Go.Proofs.YtndgajlidckcdaaGreatDoor
