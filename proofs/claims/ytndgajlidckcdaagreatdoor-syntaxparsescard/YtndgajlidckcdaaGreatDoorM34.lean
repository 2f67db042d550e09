/- A part. -/
import Derived.Test.YtndgajlidckcdaaGreatDoorM33
open Go.Proofs.Tryz
namespace Go.Proofs.YtndgajlidckcdaaGreatDoor
open Go.RowKit
set_option linter.unusedVariables false
set_option linter.unusedSimpArgs false
set_option maxRecDepth 100000
set_option maxHeartbeats 8000000
structure UndR (lo:Nat) (w:World) (b k:Nat) (tx un:ByteArray) (n:Int) (ln:Nat) (ks:Value) (vs:List Value):Prop where
 at':lo≤b
 cells:∃t,w.heap[b]?=some (.cells (adg k tx un n ln ks) t (0,0))
 row:Row (fun j=>lo≤j∧j≠b) w ks vs
theorem UndR.ext {lo r:Nat} {w w':World} {b k:Nat} {tx un:ByteArray} {n:Int} {ln:Nat} {ks:Value} {vs:List Value} (h:UndR lo w b k tx un n ln ks vs) (hx:Ext r w w') (hr:r<lo):UndR lo w' b k tx un n ln ks vs:=by
 obtain⟨t,hc⟩:=h.cells
 have:=h.at'
 exact⟨h.at',⟨t,(hx.block b (gtE hc).1 (by omega)).trans hc⟩,h.row.keep (fun _ h=>h) (fun j hj hl=>hx.block j hl (by omega))⟩
theorem baq {lo:Nat} {w0 w w3:World} {pb b k:Nat} {s:St} {tx un:ByteArray} {n:Int} {ln:Nat} {ks:Value} {vs:List Value} (hlo0:lo=w0.heap.size) (hu:UndR lo w b k tx un n ln ks vs) (hr:pb<lo) (h:At w pb s) (hx0:Ext pb w0 w) (o:Obj) {g cap:Nat} {x:Value}
  (hown:w3.ownsRow 0 22 1 (.slice (some ⟨g,0,none⟩) (vs.length+1) cap) (vs.length+1) (vs++[x])) (hg:(w.alloc o).grownBy w3 ks.ownBlock) (hat:ks.ownBlock=some g∨g=w.heap.size+1) :
  w3.cell? ⟨b,5,none⟩=some ks∧w3.frozen? ⟨b,5,none⟩=false∧Hid (Ext pb w0 (w3.setCell ⟨b,5,none⟩ (.slice (some ⟨g,0,none⟩) (vs.length+1) cap)))∧Hid (At (w3.setCell ⟨b,5,none⟩ (.slice (some ⟨g,0,none⟩) (vs.length+1) cap)) pb s) ∧
  Hid (∀ts t,Und (fun j=>lo≤j) w b k tx un n ln ts ks vs→NodeAt (fun j=>lo≤j∧j≠b∧some j≠ks.ownBlock) w x t→NodeAt (fun j=>lo≤j) (w3.setCell ⟨b,5,none⟩ (.slice (some ⟨g,0,none⟩) (vs.length+1) cap)) (.pointer (some ⟨b,0,none⟩)) ⟨k,tx,un,n,ln,ts++[t]⟩):=by
 obtain⟨t0,hb⟩:=hu.cells
 have hbw:=(gtE hb).1
 have hblo:lo≤b:=hu.at'
 have hkw:∀j,ks.ownBlock=some j→j<w.heap.size∧lo≤j∧j≠b:=by
  intro j hj
  rcases hu.row with ⟨rfl,_⟩ | ⟨g',cap',cur,rfl,hg',h3,_⟩
  ·simp[Value.ownBlock] at hj
  ·simp only[Value.ownBlock,Option.some.injEq] at hj
   subst hj
   exact⟨(gtE h3).1,hg'.1,hg'.2⟩
 have hbk:some b≠ks.ownBlock:=fun e=>(hkw b e.symm).2.2 rfl
 have hsz:lo≤w.heap.size:=by rw[hlo0];exact hx0.size
 have hb3:w3.heap[b]?=some (.cells (adg k tx un n ln ks) t0 (0,0)):=by
  rw[hg.block b (by simp;omega) hbk,aam _ _ hbw]
  exact hb
 have hx3:Ext pb w0 w3:=ae3 (hx0.alloc o) hg fun j hj=>by have:=(hkw j hj).2.1;omega
 refine⟨zd hb3 5,zp hb3 5,hx3.setNew ⟨b,5,none⟩ (by show w0.heap.size≤b;omega) _,?_,?_⟩
 ·exact h.keep fun j hj=>by
   rw[aaf _ (by omega),hg.block j (by simp;omega) (fun e=>by have:=(hkw j e.symm).2.1;omega),aam _ _ (by omega)]
 ·intro ts t hU hN
  have hua:Und (fun j=>lo≤j) (w.alloc o) b k tx un n ln ts ks vs:=hU.ext (r:=pb) ((Ext.refl pb w).alloc o) fun j hj=>by omega
  have hva:NodeAt (fun j=>lo≤j∧j≠b∧some j≠ks.ownBlock) (w.alloc o) x t:=NodeAt.keep (fun _ h=>h) (fun j hj hl=>aam _ _ hl) t x hN
  exact(Und.more hua hva hown hg (by simpa using hat) (by simp;omega)).node
theorem bdf {L:Low} {s:St}:zg (run (ae7 L) s)=zg (run (aaj L) (zg (run (zj abj) (zg (run z6 (zg (run (zj zt) (zg (run (zj aez) s))))))))):=by
 cases s with
 | inl f=>rfl
 | inr S =>
  show zg (ae7 L S)=zg (run (aaj L) (zg (run (zj abj) (zg (run z6 (zg (run (zj zt) (zg (zj aez S)))))))))
  unfold ae7
  cases h1:zj aez S with
  | inl f=>rfl
  | inr a =>
   show zg (bnd (zj zt a.2) _)=zg (run (aaj L) (zg (run (zj abj) (zg (run z6 (zg (zj zt a.2)))))))
   cases h2:zj zt a.2 with
   | inl f=>rfl
   | inr b =>
    show zg (bnd (z6 b.2) _)=zg (run (aaj L) (zg (run (zj abj) (zg (z6 b.2)))))
    cases h3:z6 b.2 with
    | inl f=>rfl
    | inr c =>
     show zg (bnd (zj abj c.2) _)=zg (run (aaj L) (zg (zj abj c.2)))
     cases h4:zj abj c.2 with
     | inl f=>rfl
     | inr d=>exact abw
theorem axv {L:Low} {S T:LS} {a:Tree} (h:ae7 L S=.inr (a,T)):∃tx S3 b,run z6 (zg (run (zj zt) (zg (run (zj aez) (.inr S)))))=.inr (tx,S3)∧run (aaj L) (zg (run (zj abj) (zg (run z6 (zg (run (zj zt) (zg (run (zj aez) (.inr S)))))))))=.inr (b,T)∧a=ndT 15 tx S.tl [b]:=by
 obtain⟨_,S1,e1,h⟩:=ze h
 obtain⟨_,S2,e2,h⟩:=ze h
 obtain⟨tx,S3,e3,h⟩:=ze h
 obtain⟨_,S4,e4,h⟩:=ze h
 obtain⟨b,S5,e5,h⟩:=ze h
 cases h
 have q1:zg (run (zj aez) (.inr S))=.inr S1:=by show zg (zj aez S)=_;rw[e1];rfl
 have q2:zg (run (zj zt) (zg (run (zj aez) (.inr S))))=.inr S2:=by rw[q1];show zg (zj zt S1)=_;rw[e2];rfl
 have q3:run z6 (zg (run (zj zt) (zg (run (zj aez) (.inr S)))))=.inr (tx,S3):=by rw[q2];exact e3
 refine⟨tx,S3,b,q3,?_,rfl⟩
 rw[q3]
 show run (aaj L) (zg (zj abj S3))=_
 rw[e4]
 exact e5
theorem bar {w:World} {pb m:Nat} {S:LS} (h:At w pb (.inr S)) (hd:S.dp=m) (hm:m≤25) {L:Low} (hL:RLow m L) (hi:S.is ad4=true):Calls prog 40 #[.pointer (some ⟨pb,0,none⟩),.int .i64 (m:Int)] w fun e w'=>RN (run (aal L) (.inr S)) pb w e w':=by
 have fwVar:S.is abt=false:=zh hi (by decide)
 have fwIf:S.is wIf=false:=zh hi (by decide)
 have fwWhile:S.is abb=false:=zh hi (by decide)
 have HS:=zb (show aal L S=bnd (zi S) fun _ S1=>bnd (aaj L S1) fun b S2=>bnd (ae7 L S2) fun c S3=>.inr (nd 14 S.tl [b,c],S3) by rw[aal,if_neg (show ¬S.is abt=true by rw[zh hi (show (ad4.data.toList==abt.data.toList)=false by decide)];decide),if_neg (show ¬S.is wIf=true by rw[zh hi (show (ad4.data.toList==wIf.data.toList)=false by decide)];decide),if_neg (show ¬S.is abb=true by rw[zh hi (show (ad4.data.toList==abb.data.toList)=false by decide)];decide),if_neg (show ¬S.is abk=true by rw[zh hi (show (ad4.data.toList==abk.data.toList)=false by decide)];decide),if_neg (show ¬S.is ach=true by rw[zh hi (show (ad4.data.toList==ach.data.toList)=false by decide)];decide),if_neg (show ¬S.is ac7=true by rw[zh hi (show (ad4.data.toList==ac7.data.toList)=false by decide)];decide),if_pos hi];rfl)
 have hwr:IntKind.i64.wrap ((m:Int)+1)=(m:Int)+1:=ac3 (by omega) (by omega)
 have hpl:=h.lt
 have HD:Hid (Dp m (.inr S)):=fun T e=>by cases e;exact hd
 have HL:=zb hL
 have H:=zb h
 clear h hd hL
 go_enter func40,ntmps40
 go_wp2_with fail
 refine(aav (za H) 0).mono ?_
 rintro e v1 ⟨nb,ln,rfl,hnb,hsz,hb,ha,hln⟩
 obtain rfl:=hln S rfl
 have H1:=zb ((za H).add ha)
 have HX1:=zb (ha.ext pb)
 have HU1:Hid (Und (fun j=>w.heap.size≤j) v1 nb 0 zc zc 0 S.tl [] (.slice none 0 0) []):=⟨hnb,⟨_,hb⟩,Or.inl ⟨rfl,rfl⟩,rfl,fun i h=>absurd h (Nat.not_lt_zero i)⟩
 clear ha hb hln hsz H
 go_wp2_with fail
 refine(ad1 (za H1) m).mono ?_
 rintro e v2 ⟨rfl,hx,h1⟩
 rw[show acj m (.inr S)=.inr S by rw[acj,if_neg (by omega)]] at h1 ⊢
 dsimp only [okB]
 have H2:=zb h1
 have HX2:=zb ((za HX1).trans hx)
 have HU2:=zb ((za HU1).ext hx fun j hj=>by omega)
 clear hx h1 HX1 HU1
 go_wp2_with fail
 refine(zk (za H2) abt).mono ?_
 rintro e v3 ⟨rfl,hx,h1⟩
 rw[show zq (.inr S) abt=false from fwVar]
 rw[zw fwVar] at h1
 have H3:=zb h1
 have HX3:=zb ((za HX2).trans hx)
 have HU3:=zb ((za HU2).ext hx fun j hj=>by omega)
 clear hx h1 HX2 HU2
 go_wp2_with fail
 refine(zk (za H3) wIf).mono ?_
 rintro e v4 ⟨rfl,hx,h1⟩
 rw[show zq (.inr S) wIf=false from fwIf]
 rw[zw fwIf] at h1
 have H4:=zb h1
 have HX4:=zb ((za HX3).trans hx)
 have HU4:=zb ((za HU3).ext hx fun j hj=>by omega)
 clear hx h1 HX3 HU3
 go_wp2_with fail
 refine(zk (za H4) abb).mono ?_
 rintro e v5 ⟨rfl,hx,h1⟩
 rw[show zq (.inr S) abb=false from fwWhile]
 rw[zw fwWhile] at h1
 have H5:=zb h1
 have HX5:=zb ((za HX4).trans hx)
 have HU5:=zb ((za HU4).ext hx fun j hj=>by omega)
 clear hx h1 HX4 HU4
 go_wp2_with fail
 refine(zk (za H5) ad4).mono ?_
 rintro e v6 ⟨rfl,hx,h1⟩
 rw[show zq (.inr S) ad4=true from hi]
 rw[aa6 hi] at h1
 have H6:=zb h1
 have HX6:=zb ((za HX5).trans hx)
 have HU6:=zb ((za HU5).ext hx fun j hj=>by omega)
 clear hx h1 HX5 HU5
 have HD1:Hid (Dp m (zg (zi S))):=aa6 hi ▸ (za HD).eat ad4 (za H5)
 go_wp2_with fail
 obtain⟨t0,hb⟩:=(za HU6).cells
 have hnj:=(gtE hb).1
 have hsz1:=(za HX6).size
 clear hb
 refine(agn (za H6) (za HD1) hm (za HL)).mono ?_
 rintro e v7 ⟨ka,rfl,hx,h1,hv⟩
 have HV1:=zb hv
 have HD2:=zb (Dp.run (adj (za HL).good).weak (za H6) (za HD1))
 have hs1:=hx.size
 clear hv
 have H7:=zb h1
 have HX7:=zb ((za HX6).trans hx)
 have HU7:=zb ((za HU6).ext hx fun j hj=>by omega)
 clear hx h1 HX6 HU6
 obtain⟨t0,hb0⟩:=(za HU7).cells
 have hb:=(aam v7 (.cells #[.pointer (some ⟨ka,0,none⟩)] 22) (gtE hb0).1).trans hb0
 clear hb0
 have q0:(v7.alloc (.cells #[.pointer (some ⟨ka,0,none⟩)] 22)).cell? ⟨nb,0,none⟩=some (.int .i64 0):=zd hb 0
 have q5:(v7.alloc (.cells #[.pointer (some ⟨ka,0,none⟩)] 22)).cell? ⟨nb,5,none⟩=some (.slice none 0 0):=zd hb 5
 have gz:=zp hb
 have hnv:=(gtE hb).1
 clear hb
 go_wp2_with fail
 have H8:Hid (At (((v7.alloc (.cells #[.pointer (some ⟨ka,0,none⟩)] 22)).setCell ⟨nb,0,none⟩ (.int .i64 14)).setCell ⟨nb,5,none⟩ (.slice (some ⟨v7.heap.size,0,none⟩) 1 1)) pb (zg (run (aaj L) (zg (zi S))))):=(((za H7).add ((Add.refl v7).alloc _)).putNew (by omega) 0 _).putNew (by omega) 5 _
 have HX8:Hid (Ext pb w (((v7.alloc (.cells #[.pointer (some ⟨ka,0,none⟩)] 22)).setCell ⟨nb,0,none⟩ (.int .i64 14)).setCell ⟨nb,5,none⟩ (.slice (some ⟨v7.heap.size,0,none⟩) 1 1))):=(((za HX7).alloc _).setNew ⟨nb,0,none⟩ (show w.heap.size≤nb by omega) _).setNew ⟨nb,5,none⟩ (show w.heap.size≤nb by omega) _
 obtain⟨ks,hks⟩:∃ks,ks=Value.slice (some ⟨v7.heap.size,0,none⟩) 1 1:=⟨_,rfl⟩
 obtain⟨vs,hvs0⟩:∃vs:List Value,vs=[.pointer (some ⟨ka,0,none⟩)]:=⟨_,rfl⟩
 have hvl:(((v7.alloc (.cells #[.pointer (some ⟨ka,0,none⟩)] 22)).setCell ⟨nb,0,none⟩ (.int .i64 14)).setCell ⟨nb,5,none⟩ (.slice (some ⟨v7.heap.size,0,none⟩) 1 1)).heap.size=v7.heap.size+1:=by simp[World.setCell]
 have hown0:∀j,ks.ownBlock=some j→j=v7.heap.size:=by rw[hks];intro j hj;simpa [Value.ownBlock] using hj.symm
 have HR:Hid (UndR w.heap.size (((v7.alloc (.cells #[.pointer (some ⟨ka,0,none⟩)] 22)).setCell ⟨nb,0,none⟩ (.int .i64 14)).setCell ⟨nb,5,none⟩ (.slice (some ⟨v7.heap.size,0,none⟩) 1 1)) nb 14 zc zc 0 S.tl ks vs):=by
  rw[hks,hvs0]
  have hu0:=((za HU7).ext ((Ext.refl pb v7).alloc (.cells #[.pointer (some ⟨ka,0,none⟩)] 22)) fun j hj=>by omega).put 0 (.int .i64 14) (k':=14) rfl
  obtain⟨t1,hc1⟩:=hu0.cells
  refine⟨by omega,⟨t1,by rw[hset hc1];rfl⟩,Or.inr ⟨v7.heap.size,1,_,rfl,⟨by omega,by omega⟩,(aaf _ (by omega)).trans ((aaf _ (by omega)).trans (aaq _ _)),by simp,by unfold maxLen;omega,rfl,rfl⟩⟩
 have HN:Hid (∀x T,run (aaj L) (zg (zi S))=.inr (x,T)→Und (fun j=>w.heap.size≤j) (((v7.alloc (.cells #[.pointer (some ⟨ka,0,none⟩)] 22)).setCell ⟨nb,0,none⟩ (.int .i64 14)).setCell ⟨nb,5,none⟩ (.slice (some ⟨v7.heap.size,0,none⟩) 1 1)) nb 14 zc zc 0 S.tl [x] ks vs):=fun x T e=>by
  have hl2:=ago (lo:=v6.heap.size) (w:=v7) (by omega) (za HV1 x T e)
  rw[hks,hvs0]
  exact(((za HU7).ext ((Ext.refl pb v7).alloc _) fun j hj=>by omega).put 0 (.int .i64 14) (k':=14) rfl).setKids (hl2.put hnj 0 _) hnj
 have hvs:vs.length≤10:=by rw[hvs0];simp
 clear q0 q5 gz hnv hks hvs0 H7 HX7 HU7 HV1
 generalize (((v7.alloc (.cells #[.pointer (some ⟨ka,0,none⟩)] 22)).setCell ⟨nb,0,none⟩ (.int .i64 14)).setCell ⟨nb,5,none⟩ (.slice (some ⟨v7.heap.size,0,none⟩) 1 1))=v8 at *
 have HXJ8:=zb (Ext.refl pb v8)
 have hwJ:=(za HX8).size
 refine(aav (za H8) 15).mono ?_
 rintro e v9 ⟨cb,ln2,rfl,hcb,hsz2,hb2,ha,hln2⟩
 have HLN2:=zb hln2
 have HU9:Hid (Und (fun j=>v8.heap.size≤j) v9 cb 15 zc zc 0 ln2 [] (.slice none 0 0) []):=⟨hcb,⟨_,hb2⟩,Or.inl ⟨rfl,rfl⟩,rfl,fun i h=>absurd h (Nat.not_lt_zero i)⟩
 have H9:=zb ((za H8).add ha)
 have HX9:=zb ((za HX8).trans (ha.ext pb))
 have HXJ9:=zb ((za HXJ8).trans (ha.ext pb))
 clear hln2 hb2 ha hsz2 HX8 HXJ8
 go_wp2_with fail
 refine(aa1 (za H9) aez).mono ?_
 rintro e v10 ⟨rfl,hx,h1⟩
 have HD3:=zb ((za HD2).want aez (za H9))
 have H10:=zb h1
 have HX10:=zb ((za HX9).trans hx)
 have HXJ10:=zb ((za HXJ9).trans hx)
 have HU10:=zb ((za HU9).ext hx fun j hj=>by omega)
 clear hx h1 HX9 HXJ9 HU9
 go_wp2_with fail
 refine(aa1 (za H10) zt).mono ?_
 rintro e v11 ⟨rfl,hx,h1⟩
 have HD4:=zb ((za HD3).want zt (za H10))
 have H11:=zb h1
 have HX11:=zb ((za HX10).trans hx)
 have HXJ11:=zb ((za HXJ10).trans hx)
 have HU11:=zb ((za HU10).ext hx fun j hj=>by omega)
 clear hx h1 HX10 HXJ10 HU10
 go_wp2_with fail
 refine(aep (za H11)).mono ?_
 rintro e v12 ⟨tx,rfl,hx,h1,htx⟩
 have HT:=zb htx
 have HD5:=zb ((za HD4).name (za H11))
 clear htx
 have H12:=zb h1
 have HX12:=zb ((za HX11).trans hx)
 have HXJ12:=zb ((za HXJ11).trans hx)
 have HU12:=zb ((za HU11).ext hx fun j hj=>by omega)
 clear hx h1 HX11 HXJ11 HU11
 obtain⟨t1,hb⟩:=(za HU12).cells
 have q1:v12.cell? ⟨cb,1,none⟩=some (.string zc):=zd hb 1
 have gz:=zp hb
 clear hb
 go_wp2_with fail
 have H13:Hid (At (v12.setCell ⟨cb,1,none⟩ (.string tx)) pb (zg (run z6 (zg (run (zj zt) (zg (run (zj aez) (zg (run (aaj L) (zg (zi S))))))))))):=(za H12).putNew (by omega) 1 _
 have HX13:Hid (Ext pb w (v12.setCell ⟨cb,1,none⟩ (.string tx))):=(za HX12).setNew ⟨cb,1,none⟩ (show w.heap.size≤cb by omega) _
 have HXJ13:Hid (Ext pb v8 (v12.setCell ⟨cb,1,none⟩ (.string tx))):=(za HXJ12).setNew ⟨cb,1,none⟩ (show v8.heap.size≤cb by omega) _
 have HU13:Hid (Und (fun j=>v8.heap.size≤j) (v12.setCell ⟨cb,1,none⟩ (.string tx)) cb 15 tx zc 0 ln2 [] (.slice none 0 0) []):=(za HU12).put 1 (.string tx) (tx':=tx) rfl
 clear q1 gz H12 HX12 HXJ12 HU12
 generalize (v12.setCell ⟨cb,1,none⟩ (.string tx))=v13 at *
 refine(aa1 (za H13) abj).mono ?_
 rintro e v14 ⟨rfl,hx,h1⟩
 have HD6:=zb ((za HD5).want abj (za H13))
 have H14:=zb h1
 have HX14:=zb ((za HX13).trans hx)
 have HXJ14:=zb ((za HXJ13).trans hx)
 have HU14:=zb ((za HU13).ext hx fun j hj=>by omega)
 clear hx h1 HX13 HXJ13 HU13
 go_wp2_with fail
 obtain⟨t1,hb⟩:=(za HU14).cells
 have hcj:=(gtE hb).1
 clear hb
 refine(agn (za H14) (za HD6) hm (za HL)).mono ?_
 rintro e v15 ⟨kb,rfl,hx,h1,hv⟩
 have HV2:=zb hv
 have hs9:=hx.size
 clear hv
 have H15:=zb h1
 have HX15:=zb ((za HX14).trans hx)
 have HXJ15:=zb ((za HXJ14).trans hx)
 have HU15:=zb ((za HU14).ext hx fun j hj=>by omega)
 clear hx h1 HX14 HXJ14 HU14
 obtain⟨t1,hb0⟩:=(za HU15).cells
 have hb:=(aam v15 (.cells #[.pointer (some ⟨kb,0,none⟩)] 22) (gtE hb0).1).trans hb0
 have q5:(v15.alloc (.cells #[.pointer (some ⟨kb,0,none⟩)] 22)).cell? ⟨cb,5,none⟩=some (.slice none 0 0):=zd hb 5
 have gz:=zp hb
 clear hb hb0
 have H16:Hid (At ((v15.alloc (.cells #[.pointer (some ⟨kb,0,none⟩)] 22)).setCell ⟨cb,5,none⟩ (.slice (some ⟨v15.heap.size,0,none⟩) 1 1)) pb (zg (run (aaj L) (zg (run (zj abj) (zg (run z6 (zg (run (zj zt) (zg (run (zj aez) (zg (run (aaj L) (zg (zi S))))))))))))))):=((za H15).add ((Add.refl v15).alloc _)).putNew (by omega) 5 _
 have HX16:Hid (Ext pb w ((v15.alloc (.cells #[.pointer (some ⟨kb,0,none⟩)] 22)).setCell ⟨cb,5,none⟩ (.slice (some ⟨v15.heap.size,0,none⟩) 1 1))):=((za HX15).alloc _).setNew ⟨cb,5,none⟩ (show w.heap.size≤cb by omega) _
 have HXJ16:Hid (Ext pb v8 ((v15.alloc (.cells #[.pointer (some ⟨kb,0,none⟩)] 22)).setCell ⟨cb,5,none⟩ (.slice (some ⟨v15.heap.size,0,none⟩) 1 1))):=((za HXJ15).alloc _).setNew ⟨cb,5,none⟩ (show v8.heap.size≤cb by omega) _
 have HK:Hid (∀y T,run (aaj L) (zg (run (zj abj) (zg (run z6 (zg (run (zj zt) (zg (run (zj aez) (zg (run (aaj L) (zg (zi S))))))))))))=.inr (y,T)→NodeAt (fun j=>v8.heap.size≤j) ((v15.alloc (.cells #[.pointer (some ⟨kb,0,none⟩)] 22)).setCell ⟨cb,5,none⟩ (.slice (some ⟨v15.heap.size,0,none⟩) 1 1)) (.pointer (some ⟨cb,0,none⟩)) (ndT 15 tx ln2 [y])):=fun y T e=>by
  have hl2:=ago (lo:=v14.heap.size) (w:=v15) (by omega) (za HV2 y T e)
  exact(((za HU15).ext ((Ext.refl pb v15).alloc _) fun j hj=>by omega).setKids hl2 hcj).node
 have hrf:=(za HR).ext (za HXJ16) hpl
 have HRF:=zb hrf
 obtain⟨t2,hb2⟩:=hrf.cells
 have d5:((v15.alloc (.cells #[.pointer (some ⟨kb,0,none⟩)] 22)).setCell ⟨cb,5,none⟩ (.slice (some ⟨v15.heap.size,0,none⟩) 1 1)).cell? ⟨nb,5,none⟩=some ks:=zd hb2 5
 clear hrf hb2
 obtain⟨i0,hi0,hz0,hz1,hz2⟩:=info_parts zz
 have hVs:((v15.alloc (.cells #[.pointer (some ⟨kb,0,none⟩)] 22)).setCell ⟨cb,5,none⟩ (.slice (some ⟨v15.heap.size,0,none⟩) 1 1)).heap.size=v15.heap.size+1:=by simp[World.setCell]
 go_wp2_with (at_builtin;refine wpList_append_lies _ rfl _ _ _ rfl 0 22 i0 (.pointer none) 1 8 underlying51 hi0 hz0 hz1 hz2 rfl (by decide) ks vs.length vs rfl (((za HRF).row.owns).alloc _) ⟨v15.heap.size+1,0,none⟩ 1 1 [.pointer (some ⟨cb,0,none⟩)] ?c0 rfl ?c1 ?c2 (by decide) ?c3 ?c4 (Nat.zero_le _) (v15.heap.size+2) ?c5 ?_)
 case c0=>rfl
 case c1 =>
  rw[←hVs]
  exact cell_one_new _ _ _
 case c2=>intro u hu;simp at hu;subst hu;rfl
 case c3=>unfold maxLen;omega
 case c4=>omega
 case c5=>simp[World.setCell]
 intro g cap w3 hown hgrow hat hlt
 obtain⟨e6,f6,HX9,HA9,HM⟩:=baq rfl (za HRF) hpl (za H16) (za HX16) _ hown hgrow (by rcases hat with e | e;exact Or.inl e;right;rw[hVs];exact e)
 clear hown hgrow hat hlt d5 q5 gz
 go_wp2_with fail
 go_ret
 refine⟨nb,rfl,za HX9,?_,?_⟩
 ·show At _ pb (zg (aal L S))
  rw[za HS,aaz (R:=fun S1=>bnd (aaj L S1) fun b S2=>bnd (ae7 L S2) fun c S3=>.inr (nd 14 S.tl [b,c],S3)) fun _ _=>rfl,ae0,aaz (R:=ae7 L) fun _ _=>abw,bdf]
  exact za HA9
 ·intro a T e
  rw[show run (aal L) (.inr S)=aal L S from rfl,za HS] at e
  obtain⟨_,S1,e1,e⟩:=ze e
  obtain⟨x,S2,e2,e⟩:=ze e
  obtain⟨y,S3,e3,e⟩:=ze e
  cases e
  have q1:run (aaj L) (zg (zi S))=.inr (x,S2):=by rw[e1];exact e2
  have q2:zg (run (aaj L) (zg (zi S)))=.inr S2:=by rw[q1];rfl
  obtain⟨tx1,S4,b,r1,r2,rfl⟩:=axv e3
  rw[←q2] at r1 r2
  obtain rfl:=za HT tx1 S4 r1
  obtain rfl:=za HLN2 S2 q2
  have nk:=za HK b T r2
  have hU:=(za HN x S2 q1).ext (za HXJ16) fun j hj=>by omega
  exact(za HM) [x] (ndT 15 tx S2.tl [b]) hU (nk.mono fun j hj=>⟨by omega,by omega,fun e=>by have:=hown0 j e.symm;omega⟩)
theorem bare_no {L:Low} {S:LS} (h:zq (zg (L.V S)) acz=false):ae1 L S=bnd (L.V S) fun t S1=>bnd (zj acg S1) fun _ S2=>.inr (nd 17 S.tl [t],S2):=by
 unfold ae1
 cases hv:L.V S with
 | inl f=>rfl
 | inr y =>
  rw[hv] at h
  show (if y.2.is acz=true then _ else _)=_
  rw[if_neg (by rw[show y.2.is acz=false from h];decide)]
  rfl
theorem bdg {L:Low} {S S1:LS} {t:Tree} (hv:L.V S=.inr (t,S1)) (h:S1.is acz=true) (hs:adm t.kind=true):ae1 L S=bnd (zi S1) fun _ S2=>bnd (L.V S2) fun u S3=>bnd (zj acg S3) fun _ S4=>.inr (nd 9 S.tl [t,u],S4):=by
 unfold ae1
 rw[zn hv,if_pos h,if_pos hs]
theorem bdh {L:Low} {S S1:LS} {t:Tree} (hv:L.V S=.inr (t,S1)) (h:S1.is acz=true) (hs:adm t.kind=false):ae1 L S=.inl (1,S.tp):=by
 unfold ae1
 rw[zn hv,if_pos h,if_neg (by rw[hs];decide)]
theorem ap8 {lo:Nat} {w2 w3:World} {b k:Nat} {tx un:ByteArray} {n:Int} {ln:Nat} {ts:List Tree} {ks:Value} {vs:List Value} (hu2:Und (fun j=>lo≤j) w2 b k tx un n ln ts ks vs) {o:Obj} (hg:(w2.alloc o).grownBy w3 ks.ownBlock):∃t,w3.heap[b]?=some (.cells (adg k tx un n ln ks) t (0,0)):=by
 obtain⟨t2,hb2⟩:=hu2.cells
 have hb2w:=(gtE hb2).1
 have hbk:some b≠ks.ownBlock:=by
  rcases hu2.row with ⟨rfl,_⟩ | ⟨g',cap',cur,rfl,hg',h3,_⟩
  ·simp[Value.ownBlock]
  ·intro e
   simp only[Value.ownBlock,Option.some.injEq] at e
   exact hg'.2 e.symm
 exact⟨t2,by rw[hg.block b (by simp;omega) hbk,aam _ _ hb2w];exact hb2⟩
theorem Und.same {A:Nat→Prop} {w w':World} {b k:Nat} {tx un:ByteArray} {n:Int} {ln:Nat} {ts:List Tree} {ks:Value} {vs:List Value} (h:Und A w b k tx un n ln ts ks vs) (hw:∀j:Nat,w'.heap[j]?=w.heap[j]?):Und A w' b k tx un n ln ts ks vs:=by
 obtain⟨t,hc⟩:=h.cells
 exact⟨h.at',⟨t,(hw b).trans hc⟩,h.row.keep (fun _ h=>h) (fun j _ _=>hw j),h.len,fun i hi=>(h.kids i hi).keep (fun _ h=>h) (fun j _ _=>hw j) _ _⟩
theorem atr {w:World} {b:Nat} {cs:Array Value} {t:TypeId} {fr:Nat×Nat} (h:w.heap[b]?=some (.cells cs t fr)) (x y:Value) (j:Nat):((w.setCell ⟨b,0,none⟩ x).setCell ⟨b,5,none⟩ y).heap[j]?=((w.setCell ⟨b,5,none⟩ y).setCell ⟨b,0,none⟩ x).heap[j]?:=by
 by_cases hj:j=b
 ·subst hj
  rw[hset (hset h x) y,hset (hset h y) x,Array.setIfInBounds_comm _ _ (by decide)]
 ·rw[aaf _ hj,aaf _ hj,aaf _ hj,aaf _ hj]
theorem axw {w:World} {pb m:Nat} {S:LS} (h:At w pb (.inr S)) (hd:S.dp=m) (hm:m≤25) {L:Low} (hL:RLow m L) (fwVar:S.is abt=false) (fwIf:S.is wIf=false) (fwWhile:S.is abb=false) (fwTry:S.is ad4=false) (fwReturn:S.is abk=false) (fwThrow:S.is ach=false) (fwPrint:S.is ac7=false):Calls prog 40 #[.pointer (some ⟨pb,0,none⟩),.int .i64 (m:Int)] w fun e w'=>RN (run (aal L) (.inr S)) pb w e w':=by
 have HS:=zb (show aal L S=ae1 L S by rw[aal,if_neg (show ¬S.is abt=true by rw[fwVar];decide),if_neg (show ¬S.is wIf=true by rw[fwIf];decide),if_neg (show ¬S.is abb=true by rw[fwWhile];decide),if_neg (show ¬S.is abk=true by rw[fwReturn];decide),if_neg (show ¬S.is ach=true by rw[fwThrow];decide),if_neg (show ¬S.is ac7=true by rw[fwPrint];decide),if_neg (show ¬S.is ad4=true by rw[fwTry];decide)])
 have hwr:IntKind.i64.wrap ((m:Int)+1)=(m:Int)+1:=ac3 (by omega) (by omega)
 have hpl:=h.lt
 have HD:Hid (Dp m (.inr S)):=fun T e=>by cases e;exact hd
 have HL:=zb hL
 have H:=zb h
 clear h hd hL
 go_enter func40,ntmps40
 go_wp2_with fail
 refine(aav (za H) 0).mono ?_
 rintro e v1 ⟨nb,ln,rfl,hnb,hsz,hb,ha,hln⟩
 obtain rfl:=hln S rfl
 have H1:=zb ((za H).add ha)
 have HX1:=zb (ha.ext pb)
 have HU1:Hid (Und (fun j=>w.heap.size≤j) v1 nb 0 zc zc 0 S.tl [] (.slice none 0 0) []):=⟨hnb,⟨_,hb⟩,Or.inl ⟨rfl,rfl⟩,rfl,fun i h=>absurd h (Nat.not_lt_zero i)⟩
 clear ha hb hln hsz H
 go_wp2_with fail
 refine(ad1 (za H1) m).mono ?_
 rintro e v2 ⟨rfl,hx,h1⟩
 rw[show acj m (.inr S)=.inr S by rw[acj,if_neg (by omega)]] at h1 ⊢
 dsimp only [okB]
 have H2:=zb h1
 have HX2:=zb ((za HX1).trans hx)
 have HU2:=zb ((za HU1).ext hx fun j hj=>by omega)
 clear hx h1 HX1 HU1
 go_wp2_with fail
 refine(zk (za H2) abt).mono ?_
 rintro e v3 ⟨rfl,hx,h1⟩
 rw[show zq (.inr S) abt=false from fwVar]
 rw[zw fwVar] at h1
 have H3:=zb h1
 have HX3:=zb ((za HX2).trans hx)
 have HU3:=zb ((za HU2).ext hx fun j hj=>by omega)
 clear hx h1 HX2 HU2
 go_wp2_with fail
 refine(zk (za H3) wIf).mono ?_
 rintro e v4 ⟨rfl,hx,h1⟩
 rw[show zq (.inr S) wIf=false from fwIf]
 rw[zw fwIf] at h1
 have H4:=zb h1
 have HX4:=zb ((za HX3).trans hx)
 have HU4:=zb ((za HU3).ext hx fun j hj=>by omega)
 clear hx h1 HX3 HU3
 go_wp2_with fail
 refine(zk (za H4) abb).mono ?_
 rintro e v5 ⟨rfl,hx,h1⟩
 rw[show zq (.inr S) abb=false from fwWhile]
 rw[zw fwWhile] at h1
 have H5:=zb h1
 have HX5:=zb ((za HX4).trans hx)
 have HU5:=zb ((za HU4).ext hx fun j hj=>by omega)
 clear hx h1 HX4 HU4
 go_wp2_with fail
 refine(zk (za H5) ad4).mono ?_
 rintro e v6 ⟨rfl,hx,h1⟩
 rw[show zq (.inr S) ad4=false from fwTry]
 rw[zw fwTry] at h1
 have H6:=zb h1
 have HX6:=zb ((za HX5).trans hx)
 have HU6:=zb ((za HU5).ext hx fun j hj=>by omega)
 clear hx h1 HX5 HU5
 go_wp2_with fail
 refine(zk (za H6) abk).mono ?_
 rintro e v7 ⟨rfl,hx,h1⟩
 rw[show zq (.inr S) abk=false from fwReturn]
 rw[zw fwReturn] at h1
 have H7:=zb h1
 have HX7:=zb ((za HX6).trans hx)
 have HU7:=zb ((za HU6).ext hx fun j hj=>by omega)
 clear hx h1 HX6 HU6
 go_wp2_with fail
 refine(zk (za H7) ach).mono ?_
 rintro e v8 ⟨rfl,hx,h1⟩
 rw[show zq (.inr S) ach=false from fwThrow]
 rw[zw fwThrow] at h1
 have H8:=zb h1
 have HX8:=zb ((za HX7).trans hx)
 have HU8:=zb ((za HU7).ext hx fun j hj=>by omega)
 clear hx h1 HX7 HU7
 go_wp2_with fail
 refine(zk (za H8) ac7).mono ?_
 rintro e v9 ⟨rfl,hx,h1⟩
 rw[show zq (.inr S) ac7=false from fwPrint]
 rw[zw fwPrint] at h1
 have H9:=zb h1
 have HX9:=zb ((za HX8).trans hx)
 have HU9:=zb ((za HU8).ext hx fun j hj=>by omega)
 clear hx h1 HX8 HU8
 go_wp2_with fail
 refine(abg (za H9)).mono ?_
 rintro e v10 ⟨x,rfl,ha,hx0⟩
 obtain rfl:=hx0 S rfl
 have hx:=ha.ext pb
 have h1:=(za H9).add ha
 clear ha hx0
 have H10:=zb h1
 have HX10:=zb ((za HX9).trans hx)
 have HU10:=zb ((za HU9).ext hx fun j hj=>by omega)
 clear hx h1 HX9 HU9
 unfold acx
 have hfld:∀w:World,(Instr.field 75 (.agg #[.int .u8 ((zv S).kind:Int),.string (zv S).text,.int .i64 (zv S).n,.int .i64 ((zv S).at':Int),.int .i64 ((zv S).line:Int)]) 3).run prog w=.ok (.int .i64 (S.tp:Int)) w:=fun _=>by rw[←(anv S).1];kernel_rfl
 go_wp2_with fail
 clear hfld
 obtain⟨t0,hb⟩:=(za HU10).cells
 have hnj:=(gtE hb).1
 have hsz1:=(za HX10).size
 clear hb
 refine((za HL).v _ pb _ (za H10) (za HD)).mono ?_
 rintro e v11 ⟨ka,rfl,hx,h1,hv⟩
 have HV1:=zb hv
 have hs1:=hx.size
 have HD1:=zb (Dp.run (za HL).good.v.weak (za H10) (za HD))
 clear hv
 have H11:=zb h1
 have HX11:=zb ((za HX10).trans hx)
 have HU11:=zb ((za HU10).ext hx fun j hj=>by omega)
 clear hx h1 HX10 HU10
 obtain⟨t0,hb0⟩:=(za HU11).cells
 have hb:=(aam v11 (.cells #[.pointer (some ⟨ka,0,none⟩)] 22) (gtE hb0).1).trans hb0
 clear hb0
 have q0:(v11.alloc (.cells #[.pointer (some ⟨ka,0,none⟩)] 22)).cell? ⟨nb,0,none⟩=some (.int .i64 0):=zd hb 0
 have q5:(v11.alloc (.cells #[.pointer (some ⟨ka,0,none⟩)] 22)).cell? ⟨nb,5,none⟩=some (.slice none 0 0):=zd hb 5
 have gz:=zp hb
 have hnv:=(gtE hb).1
 clear hb
 go_wp2_with fail
 have H12:Hid (At (((v11.alloc (.cells #[.pointer (some ⟨ka,0,none⟩)] 22)).setCell ⟨nb,0,none⟩ (.int .i64 17)).setCell ⟨nb,5,none⟩ (.slice (some ⟨v11.heap.size,0,none⟩) 1 1)) pb (zg (L.V S))):=(((za H11).add ((Add.refl v11).alloc _)).putNew (by omega) 0 _).putNew (by omega) 5 _
 have HX12:Hid (Ext pb w (((v11.alloc (.cells #[.pointer (some ⟨ka,0,none⟩)] 22)).setCell ⟨nb,0,none⟩ (.int .i64 17)).setCell ⟨nb,5,none⟩ (.slice (some ⟨v11.heap.size,0,none⟩) 1 1))):=(((za HX11).alloc _).setNew ⟨nb,0,none⟩ (show w.heap.size≤nb by omega) _).setNew ⟨nb,5,none⟩ (show w.heap.size≤nb by omega) _
 obtain⟨g1,hg1⟩:∃g1,g1=v11.heap.size:=⟨_,rfl⟩
 have HN:Hid (∀t T,L.V S=.inr (t,T)→Und (fun j=>w.heap.size≤j) (((v11.alloc (.cells #[.pointer (some ⟨ka,0,none⟩)] 22)).setCell ⟨nb,0,none⟩ (.int .i64 17)).setCell ⟨nb,5,none⟩ (.slice (some ⟨v11.heap.size,0,none⟩) 1 1)) nb 17 zc zc 0 S.tl [t] (.slice (some ⟨g1,0,none⟩) 1 1) [.pointer (some ⟨ka,0,none⟩)]∧(((v11.alloc (.cells #[.pointer (some ⟨ka,0,none⟩)] 22)).setCell ⟨nb,0,none⟩ (.int .i64 17)).setCell ⟨nb,5,none⟩ (.slice (some ⟨v11.heap.size,0,none⟩) 1 1)).cell? ⟨ka,0,none⟩=some (.int .i64 (t.kind:Int))∧(((v11.alloc (.cells #[.pointer (some ⟨ka,0,none⟩)] 22)).setCell ⟨nb,0,none⟩ (.int .i64 17)).setCell ⟨nb,5,none⟩ (.slice (some ⟨v11.heap.size,0,none⟩) 1 1)).cell? ⟨g1,0,none⟩=some (.pointer (some ⟨ka,0,none⟩))∧ka<(((v11.alloc (.cells #[.pointer (some ⟨ka,0,none⟩)] 22)).setCell ⟨nb,0,none⟩ (.int .i64 17)).setCell ⟨nb,5,none⟩ (.slice (some ⟨v11.heap.size,0,none⟩) 1 1)).heap.size∧g1<(((v11.alloc (.cells #[.pointer (some ⟨ka,0,none⟩)] 22)).setCell ⟨nb,0,none⟩ (.int .i64 17)).setCell ⟨nb,5,none⟩ (.slice (some ⟨v11.heap.size,0,none⟩) 1 1)).heap.size∧pb<ka∧pb<g1):=fun t T e=>by
  have hn:=za HV1 t T e
  obtain⟨kk,kl,kA⟩:=NodeAt.line hn
  have hl2:=ago (lo:=v10.heap.size) (w:=v11) (by omega) hn
  have hkne:ka≠nb:=by omega
  rw[hg1]
  refine⟨(((za HU11).ext ((Ext.refl pb v11).alloc _) fun j hj=>by omega).put 0 (.int .i64 17) (k':=17) rfl).setKids (hl2.put hnj 0 _) hnj,?_,?_,by simp[World.setCell];omega,by simp[World.setCell],by omega,by omega⟩
  ·rw[←NodeAt.knd hn]
   unfold World.cell?
   rw[aaf _ hkne,aaf _ hkne,aam _ _ kl]
  ·exact zd ((aaf _ (by omega)).trans ((aaf _ (by omega)).trans (aaq _ _))) 0
 have hvq:(((v11.alloc (.cells #[.pointer (some ⟨ka,0,none⟩)] 22)).setCell ⟨nb,0,none⟩ (.int .i64 17)).setCell ⟨nb,5,none⟩ (.slice (some ⟨v11.heap.size,0,none⟩) 1 1)).cell? ⟨nb,5,none⟩=some (.slice (some ⟨g1,0,none⟩) 1 1)∧nb<(((v11.alloc (.cells #[.pointer (some ⟨ka,0,none⟩)] 22)).setCell ⟨nb,0,none⟩ (.int .i64 17)).setCell ⟨nb,5,none⟩ (.slice (some ⟨v11.heap.size,0,none⟩) 1 1)).heap.size:=by
  obtain⟨t0,hb⟩:=(((za HU11).ext ((Ext.refl pb v11).alloc (.cells #[.pointer (some ⟨ka,0,none⟩)] 22)) fun j hj=>by omega).put 0 (.int .i64 17) (k':=17) rfl).cells
  rw[hg1]
  exact⟨(zd (hset hb _) 5).trans rfl,by simp[World.setCell];omega⟩
 clear q0 q5 gz hnv hg1 H11 HX11 HU11 HV1
 generalize (((v11.alloc (.cells #[.pointer (some ⟨ka,0,none⟩)] 22)).setCell ⟨nb,0,none⟩ (.int .i64 17)).setCell ⟨nb,5,none⟩ (.slice (some ⟨v11.heap.size,0,none⟩) 1 1))=v12 at *
 refine(abu (za H12) acz).mono ?_
 rintro e v13 ⟨rfl,ha⟩
 have HX13:=zb ((za HX12).trans (ha.ext pb))
 have HXS:=zb (ha.ext pb)
 have H13:=zb ((za H12).add ha)
 have hsa:=ha.size
 clear ha
 have hEE:zq (zg (L.V S)) acz=true∨zq (zg (L.V S)) acz=false:=by cases zq (zg (L.V S)) acz <;> simp
 rcases hEE with hE | hE
 ·rw[hE]
  obtain⟨S1,hT,hTi⟩:=agc hE
  obtain⟨t,ht⟩:=agy hT
  obtain⟨hu0,k0,k1,kl,gl,kp,gp⟩:=za HN t S1 ht
  have HA:Hid (At v13 pb (.inr S1)):=by have:=za H13;rw[hT] at this;exact this
  have HDS:Hid (Dp m (.inr S1)):=by have:=za HD1;rw[show run L.V (.inr S)=L.V S from rfl,hT] at this;exact this
  have HU:=zb (hu0.ext (za HXS) fun j hj=>by omega)
  have d0:=(za HXS).cellk (p:=⟨ka,0,none⟩) kl (show ka≠pb by omega) k0
  have d1:=(za HXS).cellk (p:=⟨g1,0,none⟩) gl (show g1≠pb by omega) k1
  have d5:=(za HXS).cellk (p:=⟨nb,5,none⟩) hvq.2 (show nb≠pb by omega) hvq.1
  clear H13 H12 hu0 k0 k1 kl gl kp gp hvq HN hE HXS
  cases hset:adm t.kind
  ·have HC:=zb (bdh ht hTi hset)
   have n1:(((t.kind:Nat):Int) !=24)=true:=by unfold adm at hset;simp at hset ⊢;omega
   have n2:(((t.kind:Nat):Int) !=42)=true:=by unfold adm at hset;simp at hset ⊢;omega
   have n3:(((t.kind:Nat):Int) !=44)=true:=by unfold adm at hset;simp at hset ⊢;omega
   obtain⟨_,ts,bad,ii,hpb,hts⟩:=za HA
   obtain⟨⟨gq,cap,c0⟩,c1,c2,c3,c4,c5,hfr⟩:=hpb.cells
   have HP:=zb hpb
   clear hpb hts hset
   go_wp2_with fail
   go_ret
   refine⟨nb,rfl,((za HX13).setCell _ _).setCell _ _,?_,?_⟩
   ·show At _ pb (zg (aal L S))
    rw[za HS,za HC]
    exact⟨show (1:Int)≠0 by decide,ts,bad,ii,(za HP).putF 1 (S.tp:Int)⟩
   ·intro a T e
    rw[show run (aal L) (.inr S)=aal L S from rfl,za HS,za HC] at e
    cases e
  ·have HC:=zb (bdg ht hTi hset)
   obtain⟨ks,hks⟩:∃ks,ks=Value.slice (some ⟨g1,0,none⟩) 1 1:=⟨_,rfl⟩
   obtain⟨vs,hvs0⟩:∃vs:List Value,vs=[.pointer (some ⟨ka,0,none⟩)]:=⟨_,rfl⟩
   have HUk:Hid (Und (fun j=>w.heap.size≤j) v13 nb 17 zc zc 0 S.tl [t] ks vs):=by rw[hks,hvs0];exact za HU
   have hvs:vs.length≤10:=by rw[hvs0];simp
   clear hvs0
   obtain⟨i0,hi0,hz0,hz1,hz2⟩:=info_parts zz
   have hent:=aib pb ((m:Int)+1)
   have hkk:t.kind=24∨t.kind=42∨t.kind=44:=by unfold adm at hset;simp at hset;omega
   rcases hkk with hk | hk | hk
   all_goals
    rw[hk] at d0
    go_wp2_with fail
    refine(aeo (za HA) (aai hTi)).mono ?_
    rintro e v98 ⟨rfl,hx,h1⟩
    have HU2k:=zb ((za HUk).ext hx fun j hj=>by omega)
    have HX0:=zb ((za HX13).trans hx)
    have HAm:=zb h1
    have HDm:Hid (Dp m (zg (zi S1))):=aa6 hTi ▸ (za HDS).eat acz (za HA)
    obtain⟨t9,hb9⟩:=(za HU2k).cells
    have d5m:v98.cell? ⟨nb,5,none⟩=some ks:=zd hb9 5
    have d0m:v98.cell? ⟨nb,0,none⟩=some (.int .i64 17):=zd hb9 0
    have g5:=zp hb9
    clear hx h1 hb9 d0 d1 d5 hks HUk HU HA
    go_wp2_with fail
    go_region_law ((first | (refine step_append_lies _ (by rfl) _ _ _ (by rfl) 0 22 i0 (.pointer none) 1 8 underlying51 hi0 hz0 hz1 hz2 rfl (by decide) ks vs.length vs (by rfl) ((za HO2).alloc _) ⟨w2.heap.size,0,none⟩ 1 1 [.pointer (some ⟨kb,0,none⟩)] (by rfl) rfl (cell_one_new _ _ _) (fun u hu=>by simp at hu;subst hu;rfl) (by decide) (by unfold maxLen;omega) (by omega) (Nat.zero_le _) (w2.heap.size+1) (by simp) ?_;intro g cap w3 hown hgrow hat hlt;obtain⟨tz,hbz⟩:=ap8 (za HU2) hgrow;have z0:w3.cell? ⟨nb,0,none⟩=some (.int .i64 17):=zd hbz 0;have zf:=zp hbz;have HBZ:=zb hbz;obtain⟨e6,f6,HU3,HX3,HA3⟩:=aeq (q:=run L.V (zg (zi S1))) rfl (za HU2k).drew (za HU2) hpl (za HA2) (za HX2) (za HV2) _ hown hgrow hat;clear hown hgrow hat hlt hbz f6) | (refine aba rfl (by simp[Act.eval,hent,go_sem]) (((za HL).v _ pb _ (za HAm).drew (za HDm)).mono ?_);rintro e w2 ⟨kb,rfl,hx,h2,hv⟩;obtain⟨e5,e5a,HO2,HU2⟩:=abl (za HU2k).drew hx (by omega);have HV2:=zb hv;have HA2:=zb h2;have HX2:=zb (((za HX0).drew).trans hx);clear hv h2 hx)))
    all_goals
     have hcm:=atr (za HBZ) (.int .i64 9) (.slice (some ⟨g,0,none⟩) (vs.length+1) cap)
     have HU4:Hid (∀u T,run L.V (zg (zi S1))=.inr (u,T)→Und (fun j=>w.heap.size≤j) ((w3.setCell ⟨nb,0,none⟩ (.int .i64 9)).setCell ⟨nb,5,none⟩ (.slice (some ⟨g,0,none⟩) (vs.length+1) cap)) nb 9 zc zc 0 S.tl ([t]++[u]) (.slice (some ⟨g,0,none⟩) (vs.length+1) cap) (vs++[.pointer (some ⟨kb,0,none⟩)])):=fun u T e=>(((za HU3) u T e).put 0 (.int .i64 9) (k':=9) rfl).same hcm
     have hx5:=(za HX3).setNew ⟨nb,0,none⟩ (show w.heap.size≤nb by omega) (.int .i64 9)
     have HX4:Hid (Ext pb w ((w3.setCell ⟨nb,0,none⟩ (.int .i64 9)).setCell ⟨nb,5,none⟩ (.slice (some ⟨g,0,none⟩) (vs.length+1) cap))):=⟨hx5.os,hx5.tape,hx5.output,by simpa [World.setCell] using hx5.size,fun k hk hr=>(hcm k).trans (hx5.block k hk hr)⟩
     have HA4:Hid (At ((w3.setCell ⟨nb,0,none⟩ (.int .i64 9)).setCell ⟨nb,5,none⟩ (.slice (some ⟨g,0,none⟩) (vs.length+1) cap)) pb (zg (run L.V (zg (zi S1))))):=((za HA3).putNew (show pb<nb by omega) 0 (.int .i64 9)).keep fun k _=>hcm k
     clear hcm hx5 HU3 HX3 HA3 HBZ z0 zf e6 e5 e5a d5m d0m g5 HU2 HV2 HA2 HX2 HO2
     generalize ((w3.setCell ⟨nb,0,none⟩ (.int .i64 9)).setCell ⟨nb,5,none⟩ (.slice (some ⟨g,0,none⟩) (vs.length+1) cap))=w4 at *
     go_wp2_with fail
     refine(aa1 (za HA4) acg).mono ?_
     rintro e v99 ⟨rfl,hx,h1⟩
     have H9:=zb h1
     have HX9:=zb ((za HX4).trans hx)
     have HXX:=zb hx
     clear hx h1
     go_wp2_with fail
     go_ret
     refine⟨nb,rfl,za HX9,?_,?_⟩
     ·show At _ pb (zg (aal L S))
      rw[za HS,za HC,aaz (R:=fun S2=>bnd (L.V S2) fun u S3=>bnd (zj acg S3) fun _ S4=>.inr (nd 9 S.tl [t,u],S4)) fun _ _=>rfl,ae0,aaz (R:=zj acg) fun _ _=>abw]
      exact za H9
     ·intro a T e
      rw[show run (aal L) (.inr S)=aal L S from rfl,za HS,za HC] at e
      obtain⟨_,S2,e1,e⟩:=ze e
      obtain⟨u,S3,e2,e⟩:=ze e
      obtain⟨_,S4,e3,e⟩:=ze e
      cases e
      have q1:run L.V (zg (zi S1))=.inr (u,S3):=by rw[e1];exact e2
      exact((za HU4 u S3 q1).ext (za HXX) fun j hj=>by omega).node
 ·rw[hE]
  have HC:=zb (bare_no hE)
  clear hE hvq
  go_wp2_with fail
  refine(aa1 (za H13) acg).mono ?_
  rintro e v99 ⟨rfl,hx,h1⟩
  have H9:=zb h1
  have HX9:=zb ((za HX13).trans hx)
  have HXX:=zb ((za HXS).trans hx)
  clear hx h1
  go_wp2_with fail
  go_ret
  refine⟨nb,rfl,za HX9,?_,?_⟩
  ·show At _ pb (zg (aal L S))
   rw[za HS,za HC,aaz (R:=zj acg) fun _ _=>abw]
   exact za H9
  ·intro a T e
   rw[show run (aal L) (.inr S)=aal L S from rfl,za HS,za HC] at e
   obtain⟨t,S1,e1,e⟩:=ze e
   obtain⟨_,S2,e2,e⟩:=ze e
   cases e
   exact((za HN t S1 e1).1.ext (za HXX) fun j hj=>by omega).node
theorem bas {w:World} {pb m:Nat} {S:LS} (h:At w pb (.inr S)) (hd:S.dp=m) (hm:m≤25) {L:Low} (hL:RLow m L):Calls prog 40 #[.pointer (some ⟨pb,0,none⟩),.int .i64 (m:Int)] w fun e w'=>RN (run (aal L) (.inr S)) pb w e w':=by
 cases f0:S.is abt with
 | true=>exact bao h hd hm hL f0
 | false =>
 cases f1:S.is wIf with
 | true=>exact bde h hd hm hL f1
 | false =>
 cases f2:S.is abb with
 | true=>exact au0 h hd hm hL f2
 | false =>
 cases f3:S.is ad4 with
 | true=>exact bar h hd hm hL f3
 | false =>
 cases f4:S.is abk with
 | true=>exact atq h hd hm hL f4
 | false =>
 cases f5:S.is ach with
 | true=>exact au1 h hd hm hL f5
 | false =>
 cases f6:S.is ac7 with
 | true=>exact au2 h hd hm hL f6
 | false =>
 exact axw h hd hm hL f0 f1 f2 f3 f4 f5 f6
theorem Ok.deep {S:LS} (h:Ok S) (d:Nat):Ok (S.deep d):=⟨⟨h.fit.size,h.fit.pl,h.fit.ln⟩,h.tp,h.tl,h.now⟩
theorem At.deep {w:World} {pb:Nat} {S:LS} (h:At w pb (.inr S)) (d:Nat):At w pb (.inr (S.deep d)):=by
 obtain⟨h0,ts,bad,i,h1,h2,h3,h4⟩:=h
 exact⟨h0.deep d,ts,bad,i,h1,h2,h3.deep d,h4.deep d⟩
theorem avw {P:LS→Res Tree} {S:LS} {n:Nat} (hd:S.dp=n) (hn:n<25):abi P S=bnd (P (S.deep (n+1))) fun t S1=>.inr (t,{ S1 with dp:=S1.dp-1 }):=by
 rw[abi,if_neg (by omega),←hd]
 rfl
theorem RN.deep {P:LS→Res Tree} {S:LS} {n pb:Nat} {w w':World} {e:Ending} (hd:S.dp=n) (hn:n<25) (h:RN (run P (.inr (S.deep (n+1)))) pb w e w'):RN (run (abi P) (.inr S)) pb w e w':=by
 obtain⟨b,h1,h2,h3,h4⟩:=h
 refine⟨b,h1,h2,?_,?_⟩
 ·show At w' pb (zg (abi P S))
  rw[avw hd hn]
  have h3':At w' pb (zg (P (S.deep (n+1)))):=h3
  cases hp:P (S.deep (n+1)) with
  | inl f=>rw[hp] at h3';exact h3'
  | inr y=>rw[hp] at h3';exact At.deep (S:=y.2) h3' (y.2.dp-1)
 ·intro a T e
  rw[show run (abi P) (.inr S)=abi P S from rfl,avw hd hn] at e
  obtain⟨t,S1,e1,e2⟩:=ze e
  cases e2
  exact h4 _ S1 e1
theorem akb {P:LS→Res Tree} {s:St} {n:Nat} (hd:Dp n s) (h:∀S,s=.inr S→¬n<25) (hn:n≤25):okB (acj (n+1) s)=false∧zg (run (abi P) s)=acj (n+1) s∧∀a S,run (abi P) s≠.inr (a,S):=by
 cases s with
 | inl f =>
  refine⟨?_,?_,fun a S e=>by cases e⟩
  ·unfold acj;split <;> rfl
  ·unfold acj;split <;> rfl
 | inr S =>
  have h25:n=25:=by have:=h S rfl;omega
  have hp:abi P S=.inl (4,S.tp):=by rw[abi,if_pos (by rw[hd S rfl];exact h25)]
  refine⟨?_,?_,fun a T e=>?_⟩
  ·rw[acj,if_pos (by omega)];rfl
  ·rw[show run (abi P) (.inr S)=abi P S from rfl,hp,acj,if_pos (by omega)];rfl
  ·rw[show run (abi P) (.inr S)=abi P S from rfl,hp] at e
   cases e
theorem ajm {P:LS→Res Tree} {w:World} {pb n:Nat} {s:St} (h:At w pb s) (hd:Dp n s) (hn:n≤25) (hs:∀S,s=.inr S→¬n<25):Calls prog 40 #[.pointer (some ⟨pb,0,none⟩),.int .i64 ((n:Int)+1)] w fun e w'=>RN (run (abi P) s) pb w e w':=by
 obtain⟨h1,h2,h3⟩:=akb (P:=P) hd hs hn
 rw[show ((n:Int)+1)=((n+1:Nat):Int) from rfl]
 have H:=zb h
 have H1:=zb h1
 have H2:=zb h2
 have H3:=zb h3
 clear h h1 h2 h3 hd hs
 generalize n+1=k at *
 go_enter func40,ntmps40
 go_wp2_with fail
 refine(aav (za H) 0).mono ?_
 rintro e v1 ⟨nb,ln,rfl,hnb,hsz,hb,ha,hln⟩
 have HA1:=zb ((za H).add ha)
 have HX1:=zb (ha.ext pb)
 clear ha hb hln hsz
 go_wp2_with fail
 refine(ad1 (za HA1) k).mono ?_
 rintro e v2 ⟨rfl,hx,h1⟩
 rw[za H1]
 have HA2:=zb h1
 have HX2:=zb ((za HX1).trans hx)
 clear hx h1
 go_wp2_with fail
 go_ret
 exact⟨nb,rfl,za HX2,by rw[za H2];exact za HA2,fun a S e=>absurd e (za H3 a S)⟩
theorem ao9 {n:Nat} (hn:n≤25) {L:Low} (hL:n<25→RLow (n+1) L) (w:World) (pb:Nat) (s:St) (h:At w pb s) (hd:Dp n s):Calls prog 40 #[.pointer (some ⟨pb,0,none⟩),.int .i64 ((n:Int)+1)] w fun e w'=>RN (run (abi (aal L)) s) pb w e w':=by
 by_cases h25:n<25
 ·cases s with
  | inl f=>exact ajm h hd hn fun S e=>by cases e
  | inr S=>exact(bas (m:=n+1) (h.deep (n+1)) rfl (by omega) (hL h25)).mono fun e w' q=>q.deep (hd S rfl) h25
 ·exact ajm h hd hn fun S e=>h25
end Go.Proofs.YtndgajlidckcdaaGreatDoor
