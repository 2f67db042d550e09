/- A part. -/
import Derived.Test.YtpnghfghdbijlaaGreatDoorM10
open Go.Proofs.Tryz
namespace Go.Proofs.YtpnghfghdbijlaaGreatDoor
open Go.RowKit
set_option linter.unusedVariables false
set_option linter.unusedSimpArgs false
set_option maxRecDepth 100000
set_option maxHeartbeats 40000000
section
open Go.RowKit Go.Maps
def newK (kd:Int) (P:PHp) (tag:Int) (sz:Nat):HO:=⟨kd,tag,P.last+1,aay sz,false⟩
def aom (kd:Int) (P:PHp) (tag:Int) (sz:Nat):PHp:={ P with last:=P.last+1,Y:=P.Y++[newK kd P tag sz] }
def ai5 (kd:Int) (B:Nat) (w:World) (hp mb:Nat) (P:PHp) (D:DataW Unit) (n:Nat) (tag:Int) (sz:Nat) (vyo vyf voo vof vn:Value) (w':World):Prop :=
 ∃vo vf,HpG B w' hp mb (aom kd P tag sz) (D.put (.int .i64 (P.last+1)) (.lit (.int .i64 (P.fy+2*P.Y.length)))) (n+1) vo vf voo vof vn ∧
  (∀k,k<w.heap.size→k≠hp→k≠mb→vyo.ownBlock≠some k→vyf.ownBlock≠some k→w'.heap[k]?=w.heap[k]?)∧(vo.ownBlock=vyo.ownBlock∨∀j,vo.ownBlock=some j→w.heap.size≤j)∧(vf.ownBlock=vyf.ownBlock∨∀j,vf.ownBlock=some j→w.heap.size≤j) ∧
  w.heap.size≤w'.heap.size∧w'.os=w.os∧w'.tape=w.tape∧w'.output=w.output
theorem ap7 {B:Nat} {w:World} {hp mb:Nat} {P:PHp} {D:DataW Unit} {n:Nat} {vyo vyf voo vof vn:Value} (h:HpG B w hp mb P D n vyo vyf voo vof vn) {tag:Int} {sz:Nat} (hsz:sz≤1000) (hroom:(P.Y.length+(zg P.Y).length:Int)+1+sz≤P.ry) (hy:P.Y.length≤1000000) (c1:P.Y.length+1+P.O.length+1≤5000000) (c2:(zg P.Y).length+sz+(zg P.O).length≤10000000) (c3:P.fo+2*P.O.length+2*(P.Y.length+1+P.O.length)+2≤4611686018427387904) (c4:P.fy+2*(P.Y.length+1)≤4611686018427387904) (hn:n≤500000000) (hl0:0≤P.last) (hl1:P.last≤1000000000) :
  Calls prog 7 #[.pointer (some ⟨hp,0,none⟩),.int .i64 1,.int .i64 tag,.int .i64 sz] w fun e w'=>e=.returned (.tuple #[.int .i64 (P.fy+2*P.Y.length),.nilIface])∧ai5 1 B w hp mb P D n tag sz vyo vyf voo vof vn w':=by
 have H:=zc h
 have hfy:=h.few.y
 have n1:¬(sz:Int)<0:=by omega
 have n2:¬(1000:Int)<(sz:Int):=by omega
 obtain⟨cm,hcm⟩:∃cm:Nat,P.Y.length+(zg P.Y).length=cm:=⟨_,rfl⟩
 have HCM:Hid (∀X,Below w.heap.size w X→Calls prog 15 #[.pointer (some ⟨hp,0,none⟩)] X fun e w'=>e=.returned (.int .i64 (cm:Int))∧Below X.heap.size X w'):=fun X hX=>by
  have:=abl ((h.at'.young h.few).keep hX) (by omega)
  rw[hcm] at this
  exact this
 have hcm2:(cm:Int)+1+sz≤P.ry:=by omega
 have hcm3:cm≤11000000:=by omega
 have w1:IntKind.i64.wrap ((cm:Int)+1)=(cm:Int)+1:=aav (by omega) (by omega)
 have w2:IntKind.i64.wrap ((cm:Int)+1+(sz:Int))=(cm:Int)+1+(sz:Int):=aav (by omega) (by omega)
 have n3:¬P.ry<(cm:Int)+1+(sz:Int):=by omega
 have wl:IntKind.i64.wrap (P.last+1)=P.last+1:=aav (by omega) (by omega)
 clear h hcm hroom
 go_enter func7,ntmps7
 go_wp2_with fail
 have HD:=zc ((za H).keep (Below.drew (Below.refl _ _)))
 refine wp_region_held_drew (S:=fun w'=>w'.cell? ⟨hp,6,none⟩=some (.int .i64 P.ry)) (by kernel_rfl) (zd (za HD).at'.blk 6) (fun hHeld=>?_)
 refine wpAnyH_take (i:=0) (oi:={ dst:=some 27,op:=_,type:=_,pos:=_,after:=_,guard:=_ }) (v:=?_) rfl (by kernel_rfl) (by kernel_rfl) (by kernel_rfl) (fun _ _ _ h=>h) (Or.inl ⟨by rfl,?_⟩) (by assumption) ?_
 case refine_2 =>
  intro w hSw
  try dsimp only at hSw
  go_simp
  try with_reducible rfl
 simp only[Act.put,sA,sB,sC]
 refine wpAnyH_take (i:=1) (oi:={ dst:=some 28,op:=_,type:=_,pos:=_,after:=_,guard:=_ }) (v:=?_) rfl (by kernel_rfl) (by kernel_rfl) (by kernel_rfl) (fun _ _ _ h=>h) (Or.inl ⟨by rfl,?_⟩) (by assumption) ?_
 case refine_2 =>
  intro w hSw
  try dsimp only at hSw
  go_simp
  try with_reducible rfl
 simp only[Act.put,sA,sB,sC]
 refine wpAnyH_take (i:=2) (oi:={ dst:=some 29,op:=_,type:=_,pos:=_,after:=_,guard:=_ }) (v:=?_) rfl (by kernel_rfl) (by kernel_rfl) (by kernel_rfl) (fun _ _ _ h=>h) (Or.inl ⟨by rfl,?_⟩) (by assumption) ?_
 case refine_2 =>
  intro w hSw
  try dsimp only at hSw
  go_simp
  try with_reducible rfl
 simp only[Act.put,sA,sB,sC]
 refine wpAnyH_take (i:=3) (oi:={ dst:=some 30,op:=_,type:=_,pos:=_,after:=_,guard:=_ }) (v:=?_) rfl (by kernel_rfl) (by kernel_rfl) (by kernel_rfl) (fun _ _ _ h=>h) (Or.inl ⟨by rfl,?_⟩) (by assumption) ?_
 case refine_2 =>
  intro w hSw
  try dsimp only at hSw
  go_simp
  try with_reducible rfl
 simp only[Act.put,sA,sB,sC]
 refine wpAnyH_take (i:=4) (oi:={ dst:=some 31,op:=_,type:=_,pos:=_,after:=_,guard:=_ }) (v:=?_) rfl (by kernel_rfl) (by kernel_rfl) (by kernel_rfl) (fun _ _ _ h=>h) (Or.inl ⟨by rfl,?_⟩) (by assumption) ?_
 case refine_2 =>
  intro w hSw
  try dsimp only at hSw
  go_simp
  try with_reducible rfl
 simp only[Act.put,sA,sB,sC]
 refine wpAnyH_take (i:=5) (oi:={ dst:=some 32,op:=_,type:=_,pos:=_,after:=_,guard:=_ }) (v:=?_) rfl (by kernel_rfl) (by kernel_rfl) (by kernel_rfl) (fun _ _ _ h=>h) (Or.inl ⟨by rfl,?_⟩) (by assumption) ?_
 case refine_2 =>
  intro w hSw
  try dsimp only at hSw
  go_simp
  try with_reducible rfl
 simp only[Act.put,sA,sB,sC]
 refine wpAnyH_take (i:=8) (oi:={ dst:=some 35,op:=_,type:=_,pos:=_,after:=_,guard:=_ }) (v:=?_) rfl (by kernel_rfl) (by kernel_rfl) (by kernel_rfl) (fun _ _ _ h=>h) (Or.inl ⟨by rfl,?_⟩) (by assumption) ?_
 case refine_2 =>
  intro w hSw
  try dsimp only at hSw
  go_simp
  try with_reducible rfl
 simp only[Act.put,sA,sB,sC]
 refine wpAnyH_take (i:=10) (oi:={ dst:=some 37,op:=_,type:=_,pos:=_,after:=_,guard:=_ }) (v:=?_) rfl (by kernel_rfl) (by kernel_rfl) (by kernel_rfl) (fun _ _ _ h=>h) (Or.inl ⟨by rfl,?_⟩) (by assumption) ?_
 case refine_2 =>
  intro w hSw
  try dsimp only at hSw
  go_simp
  try with_reducible rfl
 simp only[Act.put,sA,sB,sC]
 refine wpAnyH_take (i:=11) (oi:={ dst:=some 38,op:=_,type:=_,pos:=_,after:=_,guard:=_ }) (v:=?_) rfl (by kernel_rfl) (by kernel_rfl) (by kernel_rfl) (fun _ _ _ h=>h) (Or.inl ⟨by rfl,?_⟩) (by assumption) ?_
 case refine_2 =>
  intro w hSw
  try dsimp only at hSw
  go_simp
  try with_reducible rfl
 simp only[Act.put,sA,sB,sC]
 refine wpAnyH_take (i:=12) (oi:={ dst:=some 39,op:=_,type:=_,pos:=_,after:=_,guard:=_ }) (v:=?_) rfl (by kernel_rfl) (by kernel_rfl) (by kernel_rfl) (fun _ _ _ h=>h) (Or.inl ⟨by rfl,?_⟩) (by assumption) ?_
 case refine_2 =>
  intro w hSw
  try dsimp only at hSw
  go_simp
  try with_reducible rfl
 simp only[Act.put,sA,sB,sC]
 refine wpAnyH_take (i:=13) (oi:={ dst:=some 40,op:=_,type:=_,pos:=_,after:=_,guard:=_ }) (v:=?_) rfl (by kernel_rfl) (by kernel_rfl) (by kernel_rfl) (fun _ _ _ h=>h) (Or.inl ⟨by rfl,?_⟩) (by assumption) ?_
 case refine_2 =>
  intro w hSw
  try dsimp only at hSw
  go_simp
  try with_reducible rfl
 simp only[Act.put,sA,sB,sC]
 refine wpAnyH_ready (rs:=[6]) (by kernel_rfl) (by simp) ?_
 refine AllReadyH.cons (o:={ dst:=some 33,op:=_,type:=_,pos:=_,after:=_,guard:=_ }) rfl (fun K hK=>?_) AllReadyH.nil
 go_simp
 refine(za HCM _ (Below.drew (Below.refl _ _))).mono ?_
 rintro e w3 ⟨rfl,hb1⟩
 have HB1:=zc ((Below.drew (Below.refl w.heap.size w)).trans hb1)
 have H1:=zc ((za H).keep (za HB1))
 clear hb1
 refine hK.out _ _ (zd (za H1).at'.blk 6) (fun hHeld1=>?_)
 clear hK K
 refine wpAnyH_take (i:=7) (oi:={ dst:=some 34,op:=_,type:=_,pos:=_,after:=_,guard:=_ }) (v:=?_) rfl (by kernel_rfl) (by kernel_rfl) (by kernel_rfl) (fun _ _ _ h=>h) (Or.inl ⟨by rfl,?_⟩) (by assumption) ?_
 case refine_2 =>
  intro w hSw
  try dsimp only at hSw
  go_simp
  try with_reducible rfl
 simp only[Act.put,sA,sB,sC]
 refine wpAnyH_take (i:=9) (oi:={ dst:=some 36,op:=_,type:=_,pos:=_,after:=_,guard:=_ }) (v:=?_) rfl (by kernel_rfl) (by kernel_rfl) (by kernel_rfl) (fun _ _ _ h=>h) (Or.inl ⟨by rfl,?_⟩) (by assumption) ?_
 case refine_2 =>
  intro w hSw
  try dsimp only at hSw
  go_simp
  try with_reducible rfl
 simp only[Act.put,sA,sB,sC]
 refine wpAnyH_take (i:=14) (oi:={ dst:=some 41,op:=_,type:=_,pos:=_,after:=_,guard:=_ }) (v:=?_) rfl (by kernel_rfl) (by kernel_rfl) (by kernel_rfl) (fun _ _ _ h=>h) (Or.inl ⟨by rfl,?_⟩) (by assumption) ?_
 case refine_2 =>
  intro w hSw
  try dsimp only at hSw
  go_simp
  try with_reducible rfl
 simp only[Act.put,sA,sB,sC]
 refine wpAnyH_take (i:=15) (oi:={ dst:=some 42,op:=_,type:=_,pos:=_,after:=_,guard:=_ }) (v:=?_) rfl (by kernel_rfl) (by kernel_rfl) (by kernel_rfl) (fun _ _ _ h=>h) (Or.inl ⟨by rfl,?_⟩) (by assumption) ?_
 case refine_2 =>
  intro w hSw
  try dsimp only at hSw
  go_simp
  try with_reducible rfl
 simp only[Act.put,sA,sB,sC]
 refine wpAnyH_done (by kernel_rfl) ?_ _
 have e6:w3.cell? ⟨hp,10,none⟩=some (.int .i64 P.last):=zd (za H1).at'.blk 10
 have f6:=zt (za H1).at'.blk 10
 have hh1:=hlt (za H1).at'.blk
 go_wp2_with fail
 have W2:=zc ((za H1).wrote (P.last+1))
 have hs3:(w3.setCell ⟨hp,10,none⟩ (.int .i64 (P.last+1))).heap.size=w3.heap.size:=by simp[World.setCell]
 have hb2:Below w3.heap.size (w3.setCell ⟨hp,10,none⟩ (.int .i64 (P.last+1))) ((w3.setCell ⟨hp,10,none⟩ (.int .i64 (P.last+1))).alloc (.cells #[.int .i64 1,.int .i64 tag,.int .i64 (P.last+1),.int .i64 0,.int .i64 sz,.bool false] 61)):=by
  rw[←hs3]
  exact(Below.refl _ _).alloc (Nat.le_refl _) _
 have H2:=zc ((za W2).keep (by rw[hs3];exact hb2))
 have HO2:=zc (ab2 (w3.setCell ⟨hp,10,none⟩ (.int .i64 (P.last+1))) (.cells #[.int .i64 1,.int .i64 tag,.int .i64 (P.last+1),.int .i64 0,.int .i64 sz,.bool false] 61) hs3)
 have HS2:Hid (w3.heap.size<((w3.setCell ⟨hp,10,none⟩ (.int .i64 (P.last+1))).alloc (.cells #[.int .i64 1,.int .i64 tag,.int .i64 (P.last+1),.int .i64 0,.int .i64 sz,.bool false] 61)).heap.size):=hlt (za HO2)
 have HK2:Hid (∀k,k<w3.heap.size→k≠hp→((w3.setCell ⟨hp,10,none⟩ (.int .i64 (P.last+1))).alloc (.cells #[.int .i64 1,.int .i64 tag,.int .i64 (P.last+1),.int .i64 0,.int .i64 sz,.bool false] 61)).heap[k]?=w3.heap[k]?):=fun k hk hne=>(hb2.block k hk).trans (zo _ hne)
 have HT2:Hid (((w3.setCell ⟨hp,10,none⟩ (.int .i64 (P.last+1))).alloc (.cells #[.int .i64 1,.int .i64 tag,.int .i64 (P.last+1),.int .i64 0,.int .i64 sz,.bool false] 61)).os=w3.os∧((w3.setCell ⟨hp,10,none⟩ (.int .i64 (P.last+1))).alloc (.cells #[.int .i64 1,.int .i64 tag,.int .i64 (P.last+1),.int .i64 0,.int .i64 sz,.bool false] 61)).tape=w3.tape∧((w3.setCell ⟨hp,10,none⟩ (.int .i64 (P.last+1))).alloc (.cells #[.int .i64 1,.int .i64 tag,.int .i64 (P.last+1),.int .i64 0,.int .i64 sz,.bool false] 61)).output=w3.output):=⟨hb2.os,hb2.tape,hb2.output⟩
 clear hb2 e6 f6 hs3 W2
 generalize (w3.setCell ⟨hp,10,none⟩ (.int .i64 (P.last+1))).alloc (.cells #[.int .i64 1,.int .i64 tag,.int .i64 (P.last+1),.int .i64 0,.int .i64 sz,.bool false] 61)=W at *
 have HO3:=zc (show W.drew.heap[w3.heap.size]?=_ from za HO2)
 refine wp_region_held_drew (S:=(fun w'=>w'.cell? ⟨w3.heap.size,0,none⟩=some (.int .i64 1)∧w'.cell? ⟨w3.heap.size,1,none⟩=some (.int .i64 tag)∧w'.cell? ⟨w3.heap.size,2,none⟩=some (.int .i64 (P.last+1))∧w'.cell? ⟨w3.heap.size,3,none⟩=some (.int .i64 0)∧w'.cell? ⟨w3.heap.size,4,none⟩=some (.int .i64 sz)∧w'.cell? ⟨w3.heap.size,5,none⟩=some (.bool false))) (by kernel_rfl) ⟨zd (za HO3) 0,zd (za HO3) 1,zd (za HO3) 2,zd (za HO3) 3,zd (za HO3) 4,zd (za HO3) 5⟩ (fun hHeld2=>?_)
 refine wpAnyH_take (i:=0) (oi:={ dst:=some 62,op:=_,type:=_,pos:=_,after:=_,guard:=_ }) (v:=?_) rfl (by kernel_rfl) (by kernel_rfl) (by kernel_rfl) (fun _ _ _ h=>h) (Or.inl ⟨by rfl,?_⟩) (by assumption) ?_
 case refine_2 =>
  intro w hSw
  try dsimp only at hSw
  go_simp
  try with_reducible rfl
 simp only[Act.put,sA,sB,sC]
 refine wpAnyH_take (i:=1) (oi:={ dst:=some 63,op:=_,type:=_,pos:=_,after:=_,guard:=_ }) (v:=?_) rfl (by kernel_rfl) (by kernel_rfl) (by kernel_rfl) (fun _ _ _ h=>h) (Or.inl ⟨by rfl,?_⟩) (by assumption) ?_
 case refine_2 =>
  intro w hSw
  try dsimp only at hSw
  go_simp
  try with_reducible rfl
 simp only[Act.put,sA,sB,sC]
 refine wpAnyH_take (i:=2) (oi:={ dst:=some 64,op:=_,type:=_,pos:=_,after:=_,guard:=_ }) (v:=?_) rfl (by kernel_rfl) (by kernel_rfl) (by kernel_rfl) (fun _ _ _ h=>h) (Or.inl ⟨by rfl,?_⟩) (by assumption) ?_
 case refine_2 =>
  intro w hSw
  try dsimp only at hSw
  go_simp
  try with_reducible rfl
 simp only[Act.put,sA,sB,sC]
 refine wpAnyH_take (i:=3) (oi:={ dst:=some 65,op:=_,type:=_,pos:=_,after:=_,guard:=_ }) (v:=?_) rfl (by kernel_rfl) (by kernel_rfl) (by kernel_rfl) (fun _ _ _ h=>h) (Or.inl ⟨by rfl,?_⟩) (by assumption) ?_
 case refine_2 =>
  intro w hSw
  try dsimp only at hSw
  go_simp
  try with_reducible rfl
 simp only[Act.put,sA,sB,sC]
 refine wpAnyH_take (i:=4) (oi:={ dst:=some 66,op:=_,type:=_,pos:=_,after:=_,guard:=_ }) (v:=?_) rfl (by kernel_rfl) (by kernel_rfl) (by kernel_rfl) (fun _ _ _ h=>h) (Or.inl ⟨by rfl,?_⟩) (by assumption) ?_
 case refine_2 =>
  intro w hSw
  try dsimp only at hSw
  go_simp
  try with_reducible rfl
 simp only[Act.put,sA,sB,sC]
 refine wpAnyH_ready (rs:=[5]) (by kernel_rfl) (by simp) ?_
 refine AllReadyH.cons (o:={ dst:=some 67,op:=_,type:=_,pos:=_,after:=_,guard:=_ }) rfl (fun K hK=>?_) AllReadyH.nil
 have mk2:=ae3 hsz
 go_simp
 clear mk2
 have hb3:Below W.heap.size W (W.drew.alloc (.cells (aa9 sz) 69)):=(Below.drew (Below.refl _ _)).alloc (Nat.le_refl _) _
 have H3:=zc ((za H2).keep hb3)
 have HO4:=zc ((hb3.block w3.heap.size (za HS2)).trans (za HO2))
 have HV3:Hid ((W.drew.alloc (.cells (aa9 sz) 69)).heap[W.heap.size]?=some (.cells (aa9 sz) 69 (0,0))):=ab2 W.drew _ rfl
 have HB3:=zc hb3
 clear hb3
 refine hK.out _ _ ⟨zd (za HO4) 0,zd (za HO4) 1,zd (za HO4) 2,zd (za HO4) 3,zd (za HO4) 4,zd (za HO4) 5⟩ (fun hHeld3=>?_)
 clear hK K
 try simp only[World.heap_drew] at *
 refine wpAnyH_ready (rs:=[6]) (by kernel_rfl) (by simp) ?_
 refine AllReadyH.cons (o:={ dst:=some 68,op:=_,type:=_,pos:=_,after:=_,guard:=_ }) rfl (fun K hK=>?_) AllReadyH.nil
 go_simp
 refine(afp (za H3).ptb (za H3).hB (newK 1 P tag sz) rfl rfl (za HV3) (za H3).small.y0 (by show P.fy+2*(P.Y.length:Int)+2≤_;omega) (by show (zg P.Y).length+sz≤_;omega) (by show P.Y.length+1≤_;omega) (by simp[zx])).mono ?_
 rintro e w4 ⟨rfl,vo',vf',hP4,hF4,a4,b4⟩
 have H4:=zc ((za H3).added hP4 hF4 a4 b4 c1 (by show (zg P.Y).length+(aay sz).length+(zg P.O).length≤_;simpa [aay] using c2) c3 c4 ⟨⟨by show _≤P.last+1;omega,by show P.last+1≤_;omega⟩,fun v hv=>by
  have:v=acv:=by
   have hv:v∈aay sz:=hv
   unfold aay at hv
   exact List.eq_of_mem_replicate hv
  rw[this]
  exact⟨by decide,by decide⟩⟩)
 have HO5:=zc ((hF4.block w3.heap.size (Nat.lt_of_lt_of_le (za HS2) (za HB3).size) (by omega) (fun e=>by have:=(zu (za H1).at'.yo e).lt;omega) (fun e=>by have:=(zu (za H1).at'.yf e).lt;omega)).trans (za HO4))
 have HF4:=zc hF4
 have HA4:=zc a4
 have HB4:=zc b4
 clear hP4 hF4 a4 b4
 refine hK.out _ _ ⟨zd (za HO5) 0,zd (za HO5) 1,zd (za HO5) 2,zd (za HO5) 3,zd (za HO5) 4,zd (za HO5) 5⟩ (fun hHeld4=>?_)
 clear hK K
 refine wpAnyH_take (i:=7) (oi:={ dst:=some 11,op:=_,type:=_,pos:=_,after:=_,guard:=_ }) (v:=?_) rfl (by kernel_rfl) (by kernel_rfl) (by kernel_rfl) (fun _ _ _ h=>h) (Or.inl ⟨by rfl,?_⟩) (by assumption) ?_
 case refine_2 =>
  intro w hSw
  try dsimp only at hSw
  go_simp
  try with_reducible rfl
 simp only[Act.put,sA,sB,sC]
 refine wpAnyH_done (by kernel_rfl) ?_ _
 have g2:w4.cell? ⟨w3.heap.size,2,none⟩=some (.int .i64 (P.last+1)):=zd (za HO5) 2
 have hpos:(0:Int)<P.last+1:=by omega
 clear hHeld hHeld1 hHeld2 hHeld3 hHeld4
 go_wp2_with fail
 have k9:w4.drew.cell? ⟨hp,9,none⟩=some (.map (some mb)):=zd (za H4).at'.blk 9
 have o9:w4.drew.cell? ⟨w3.heap.size,2,none⟩=some (.int .i64 (P.last+1)):=g2
 have hy0:=(za H4).small.y0
 obtain⟨w5,hrun,how,htd⟩:=(za H4).own.drew.store ac3 underlying48 (show n<maxLen by unfold maxLen;omega) (keyOf_int_mk underlying3 (adj (n:=P.last+1) ⟨by omega,by omega⟩)) (plainElem_int underlying3 (adj (n:=P.fy+2*P.Y.length) ⟨by have:0≤P.fy:=hy0;omega,by omega⟩))
 have hgd:=htd.grown
 have hmz:∃es cl,w4.heap[mb]?=some (.map es cl):=by obtain⟨es,cl,hb,_⟩:=(za H4).own;exact⟨es,cl,hb⟩
 obtain⟨es9,cl9,hm9⟩:=hmz
 have u9:w5.cell? ⟨hp,9,none⟩=some (.map (some mb)):=(World.cell?_of_block (hgd.block hp (ze (a:=⟨hp,9,none⟩) k9) (fun e=>abu k9 hm9 (Option.some.inj e)))).trans k9
 have u2:w5.cell? ⟨w3.heap.size,2,none⟩=some (.int .i64 (P.last+1)):=(World.cell?_of_block (hgd.block w3.heap.size (ze (a:=⟨w3.heap.size,2,none⟩) o9) (fun e=>abu o9 hm9 (Option.some.inj e)))).trans o9
 have hg4:w4.grownBy w5 (some mb):=⟨hgd.os,hgd.tape,hgd.output,hgd.size,hgd.block⟩
 have H5:=zc ((za H4).stored how hg4)
 have HG5:=zc hg4
 clear how htd hgd hm9 hg4
 refine wp_region_held_drew (S:=fun w'=>w'.cell? ⟨hp,9,none⟩=some (.map (some mb))∧w'.cell? ⟨w3.heap.size,2,none⟩=some (.int .i64 (P.last+1))) (by kernel_rfl) ⟨k9,o9⟩ (fun hHeld5=>?_)
 refine wpAnyH_take (i:=0) (oi:={ dst:=some 72,op:=_,type:=_,pos:=_,after:=_,guard:=_ }) (v:=?_) rfl (by kernel_rfl) (by kernel_rfl) (by kernel_rfl) (fun _ _ _ h=>h) (Or.inl ⟨by rfl,?_⟩) (by assumption) ?_
 case refine_2 =>
  intro w hSw
  try dsimp only at hSw
  go_simp
  try with_reducible rfl
 simp only[Act.put,sA,sB,sC]
 refine wpAnyH_take (i:=1) (oi:={ dst:=some 73,op:=_,type:=_,pos:=_,after:=_,guard:=_ }) (v:=?_) rfl (by kernel_rfl) (by kernel_rfl) (by kernel_rfl) (fun _ _ _ h=>h) (Or.inl ⟨by rfl,?_⟩) (by assumption) ?_
 case refine_2 =>
  intro w hSw
  try dsimp only at hSw
  go_simp
  try with_reducible rfl
 simp only[Act.put,sA,sB,sC]
 refine wpAnyH_take (i:=2) (oi:={ dst:=some 74,op:=_,type:=_,pos:=_,after:=_,guard:=_ }) (v:=?_) rfl (by kernel_rfl) (by kernel_rfl) (by kernel_rfl) (fun _ _ _ h=>h) (Or.inl ⟨by rfl,?_⟩) (by assumption) ?_
 case refine_2 =>
  intro w hSw
  try dsimp only at hSw
  go_simp
  try with_reducible rfl
 simp only[Act.put,sA,sB,sC]
 refine wpAnyH_take (i:=3) (oi:={ dst:=some 75,op:=_,type:=_,pos:=_,after:=_,guard:=_ }) (v:=?_) rfl (by kernel_rfl) (by kernel_rfl) (by kernel_rfl) (fun _ _ _ h=>h) (Or.inl ⟨by rfl,?_⟩) (by assumption) ?_
 case refine_2 =>
  intro w hSw
  try dsimp only at hSw
  go_simp
  try with_reducible rfl
 simp only[Act.put,sA,sB,sC]
 refine wpAnyH_take (i:=4) (oi:={ dst:=some 76,op:=_,type:=_,pos:=_,after:=_,guard:=_ }) (v:=?_) rfl (by kernel_rfl) (by kernel_rfl) (by kernel_rfl) (fun _ _ _ h=>h) (Or.inl ⟨by rfl,?_⟩) (by assumption) ?_
 case refine_2 =>
  intro w hSw
  try dsimp only at hSw
  go_simp
  try with_reducible rfl
 simp only[Act.put,sA,sB,sC]
 refine wpAnyH_take (i:=5) (oi:={ dst:=some 77,op:=_,type:=_,pos:=_,after:=_,guard:=_ }) (v:=?_) rfl (by kernel_rfl) (by kernel_rfl) (by kernel_rfl) (fun _ _ _ h=>h) (Or.inl ⟨by rfl,?_⟩) (by assumption) ?_
 case refine_2 =>
  intro w hSw
  try dsimp only at hSw
  go_simp
  try with_reducible rfl
 simp only[Act.put,sA,sB,sC]
 refine wpAnyH_take (i:=6) (oi:={ dst:=some 78,op:=_,type:=_,pos:=_,after:=_,guard:=_ }) (v:=?_) rfl (by kernel_rfl) (by kernel_rfl) (by kernel_rfl) (fun _ _ _ h=>h) (Or.inl ⟨by rfl,?_⟩) (by assumption) ?_
 case refine_2 =>
  intro w hSw
  try dsimp only at hSw
  go_simp
  try with_reducible rfl
 simp only[Act.put,sA,sB,sC]
 refine wpAnyH_ready (rs:=[7]) (by kernel_rfl) (by simp) ?_
 refine AllReadyH.cons (o:={ dst:=none,op:=_,type:=_,pos:=_,after:=_,guard:=_ }) rfl (fun K hK=>?_) AllReadyH.nil
 go_simp
 refine hK.out _ _ ⟨u9,u2⟩ (fun hHeld6=>?_)
 clear hK K
 refine wpAnyH_done (by kernel_rfl) ?_ _
 clear hrun k9 o9
 go_wp2_with fail
 go_ret2
 have z1:=(za HB1).size
 have z2:=za HS2
 have z3:=(za HB3).size
 have z4:=(za HF4).size
 have z5:=(za HG5).size
 have z6:=hlt (za H1).at'.blk
 refine⟨rfl,vo',vf',za H5,fun k hk h1 h2 h3 h4=>?_,?_,?_,by omega,?_,?_,?_⟩
 ·rw[(za HG5).block k (by omega) (fun e=>h2 (Option.some.inj e)),(za HF4).block k (by omega) h1 h3 h4,(za HB3).block k (by omega),za HK2 k (by omega) h1]
  exact(za HB1).block k hk
 ·exact(za HA4).imp id (fun q j hj=>by have:=q j hj;omega)
 ·exact(za HB4).imp id (fun q j hj=>by have:=q j hj;omega)
 ·exact(za HG5).os.trans ((za HF4).os.trans ((za HB3).os.trans ((za HT2).1.trans (za HB1).os)))
 ·exact(za HG5).tape.trans ((za HF4).tape.trans ((za HB3).tape.trans ((za HT2).2.1.trans (za HB1).tape)))
 ·exact(za HG5).output.trans ((za HF4).output.trans ((za HB3).output.trans ((za HT2).2.2.trans (za HB1).output)))
theorem ap8 {B:Nat} {w:World} {hp mb:Nat} {P:PHp} {D:DataW Unit} {n:Nat} {vyo vyf voo vof vn:Value} (h:HpG B w hp mb P D n vyo vyf voo vof vn) {tag:Int} {sz:Nat} (hsz:sz≤1000) (hroom:(P.Y.length+(zg P.Y).length:Int)+1+sz≤P.ry) (hy:P.Y.length≤1000000) (c1:P.Y.length+1+P.O.length+1≤5000000) (c2:(zg P.Y).length+sz+(zg P.O).length≤10000000) (c3:P.fo+2*P.O.length+2*(P.Y.length+1+P.O.length)+2≤4611686018427387904) (c4:P.fy+2*(P.Y.length+1)≤4611686018427387904) (hn:n≤500000000) (hl0:0≤P.last) (hl1:P.last≤1000000000) :
  Calls prog 7 #[.pointer (some ⟨hp,0,none⟩),.int .i64 2,.int .i64 tag,.int .i64 sz] w fun e w'=>e=.returned (.tuple #[.int .i64 (P.fy+2*P.Y.length),.nilIface])∧ai5 2 B w hp mb P D n tag sz vyo vyf voo vof vn w':=by
 have H:=zc h
 have hfy:=h.few.y
 have n1:¬(sz:Int)<0:=by omega
 have n2:¬(1000:Int)<(sz:Int):=by omega
 obtain⟨cm,hcm⟩:∃cm:Nat,P.Y.length+(zg P.Y).length=cm:=⟨_,rfl⟩
 have HCM:Hid (∀X,Below w.heap.size w X→Calls prog 15 #[.pointer (some ⟨hp,0,none⟩)] X fun e w'=>e=.returned (.int .i64 (cm:Int))∧Below X.heap.size X w'):=fun X hX=>by
  have:=abl ((h.at'.young h.few).keep hX) (by omega)
  rw[hcm] at this
  exact this
 have hcm2:(cm:Int)+1+sz≤P.ry:=by omega
 have hcm3:cm≤11000000:=by omega
 have w1:IntKind.i64.wrap ((cm:Int)+1)=(cm:Int)+1:=aav (by omega) (by omega)
 have w2:IntKind.i64.wrap ((cm:Int)+1+(sz:Int))=(cm:Int)+1+(sz:Int):=aav (by omega) (by omega)
 have n3:¬P.ry<(cm:Int)+1+(sz:Int):=by omega
 have wl:IntKind.i64.wrap (P.last+1)=P.last+1:=aav (by omega) (by omega)
 clear h hcm hroom
 go_enter func7,ntmps7
 go_wp2_with fail
 have HD:=zc ((za H).keep (Below.drew (Below.refl _ _)))
 refine wp_region_held_drew (S:=fun w'=>w'.cell? ⟨hp,6,none⟩=some (.int .i64 P.ry)) (by kernel_rfl) (zd (za HD).at'.blk 6) (fun hHeld=>?_)
 refine wpAnyH_take (i:=0) (oi:={ dst:=some 27,op:=_,type:=_,pos:=_,after:=_,guard:=_ }) (v:=?_) rfl (by kernel_rfl) (by kernel_rfl) (by kernel_rfl) (fun _ _ _ h=>h) (Or.inl ⟨by rfl,?_⟩) (by assumption) ?_
 case refine_2 =>
  intro w hSw
  try dsimp only at hSw
  go_simp
  try with_reducible rfl
 simp only[Act.put,sA,sB,sC]
 refine wpAnyH_take (i:=1) (oi:={ dst:=some 28,op:=_,type:=_,pos:=_,after:=_,guard:=_ }) (v:=?_) rfl (by kernel_rfl) (by kernel_rfl) (by kernel_rfl) (fun _ _ _ h=>h) (Or.inl ⟨by rfl,?_⟩) (by assumption) ?_
 case refine_2 =>
  intro w hSw
  try dsimp only at hSw
  go_simp
  try with_reducible rfl
 simp only[Act.put,sA,sB,sC]
 refine wpAnyH_take (i:=2) (oi:={ dst:=some 29,op:=_,type:=_,pos:=_,after:=_,guard:=_ }) (v:=?_) rfl (by kernel_rfl) (by kernel_rfl) (by kernel_rfl) (fun _ _ _ h=>h) (Or.inl ⟨by rfl,?_⟩) (by assumption) ?_
 case refine_2 =>
  intro w hSw
  try dsimp only at hSw
  go_simp
  try with_reducible rfl
 simp only[Act.put,sA,sB,sC]
 refine wpAnyH_take (i:=3) (oi:={ dst:=some 30,op:=_,type:=_,pos:=_,after:=_,guard:=_ }) (v:=?_) rfl (by kernel_rfl) (by kernel_rfl) (by kernel_rfl) (fun _ _ _ h=>h) (Or.inl ⟨by rfl,?_⟩) (by assumption) ?_
 case refine_2 =>
  intro w hSw
  try dsimp only at hSw
  go_simp
  try with_reducible rfl
 simp only[Act.put,sA,sB,sC]
 refine wpAnyH_take (i:=4) (oi:={ dst:=some 31,op:=_,type:=_,pos:=_,after:=_,guard:=_ }) (v:=?_) rfl (by kernel_rfl) (by kernel_rfl) (by kernel_rfl) (fun _ _ _ h=>h) (Or.inl ⟨by rfl,?_⟩) (by assumption) ?_
 case refine_2 =>
  intro w hSw
  try dsimp only at hSw
  go_simp
  try with_reducible rfl
 simp only[Act.put,sA,sB,sC]
 refine wpAnyH_take (i:=5) (oi:={ dst:=some 32,op:=_,type:=_,pos:=_,after:=_,guard:=_ }) (v:=?_) rfl (by kernel_rfl) (by kernel_rfl) (by kernel_rfl) (fun _ _ _ h=>h) (Or.inl ⟨by rfl,?_⟩) (by assumption) ?_
 case refine_2 =>
  intro w hSw
  try dsimp only at hSw
  go_simp
  try with_reducible rfl
 simp only[Act.put,sA,sB,sC]
 refine wpAnyH_take (i:=8) (oi:={ dst:=some 35,op:=_,type:=_,pos:=_,after:=_,guard:=_ }) (v:=?_) rfl (by kernel_rfl) (by kernel_rfl) (by kernel_rfl) (fun _ _ _ h=>h) (Or.inl ⟨by rfl,?_⟩) (by assumption) ?_
 case refine_2 =>
  intro w hSw
  try dsimp only at hSw
  go_simp
  try with_reducible rfl
 simp only[Act.put,sA,sB,sC]
 refine wpAnyH_take (i:=10) (oi:={ dst:=some 37,op:=_,type:=_,pos:=_,after:=_,guard:=_ }) (v:=?_) rfl (by kernel_rfl) (by kernel_rfl) (by kernel_rfl) (fun _ _ _ h=>h) (Or.inl ⟨by rfl,?_⟩) (by assumption) ?_
 case refine_2 =>
  intro w hSw
  try dsimp only at hSw
  go_simp
  try with_reducible rfl
 simp only[Act.put,sA,sB,sC]
 refine wpAnyH_take (i:=11) (oi:={ dst:=some 38,op:=_,type:=_,pos:=_,after:=_,guard:=_ }) (v:=?_) rfl (by kernel_rfl) (by kernel_rfl) (by kernel_rfl) (fun _ _ _ h=>h) (Or.inl ⟨by rfl,?_⟩) (by assumption) ?_
 case refine_2 =>
  intro w hSw
  try dsimp only at hSw
  go_simp
  try with_reducible rfl
 simp only[Act.put,sA,sB,sC]
 refine wpAnyH_take (i:=12) (oi:={ dst:=some 39,op:=_,type:=_,pos:=_,after:=_,guard:=_ }) (v:=?_) rfl (by kernel_rfl) (by kernel_rfl) (by kernel_rfl) (fun _ _ _ h=>h) (Or.inl ⟨by rfl,?_⟩) (by assumption) ?_
 case refine_2 =>
  intro w hSw
  try dsimp only at hSw
  go_simp
  try with_reducible rfl
 simp only[Act.put,sA,sB,sC]
 refine wpAnyH_take (i:=13) (oi:={ dst:=some 40,op:=_,type:=_,pos:=_,after:=_,guard:=_ }) (v:=?_) rfl (by kernel_rfl) (by kernel_rfl) (by kernel_rfl) (fun _ _ _ h=>h) (Or.inl ⟨by rfl,?_⟩) (by assumption) ?_
 case refine_2 =>
  intro w hSw
  try dsimp only at hSw
  go_simp
  try with_reducible rfl
 simp only[Act.put,sA,sB,sC]
 refine wpAnyH_ready (rs:=[6]) (by kernel_rfl) (by simp) ?_
 refine AllReadyH.cons (o:={ dst:=some 33,op:=_,type:=_,pos:=_,after:=_,guard:=_ }) rfl (fun K hK=>?_) AllReadyH.nil
 go_simp
 refine(za HCM _ (Below.drew (Below.refl _ _))).mono ?_
 rintro e w3 ⟨rfl,hb1⟩
 have HB1:=zc ((Below.drew (Below.refl w.heap.size w)).trans hb1)
 have H1:=zc ((za H).keep (za HB1))
 clear hb1
 refine hK.out _ _ (zd (za H1).at'.blk 6) (fun hHeld1=>?_)
 clear hK K
 refine wpAnyH_take (i:=7) (oi:={ dst:=some 34,op:=_,type:=_,pos:=_,after:=_,guard:=_ }) (v:=?_) rfl (by kernel_rfl) (by kernel_rfl) (by kernel_rfl) (fun _ _ _ h=>h) (Or.inl ⟨by rfl,?_⟩) (by assumption) ?_
 case refine_2 =>
  intro w hSw
  try dsimp only at hSw
  go_simp
  try with_reducible rfl
 simp only[Act.put,sA,sB,sC]
 refine wpAnyH_take (i:=9) (oi:={ dst:=some 36,op:=_,type:=_,pos:=_,after:=_,guard:=_ }) (v:=?_) rfl (by kernel_rfl) (by kernel_rfl) (by kernel_rfl) (fun _ _ _ h=>h) (Or.inl ⟨by rfl,?_⟩) (by assumption) ?_
 case refine_2 =>
  intro w hSw
  try dsimp only at hSw
  go_simp
  try with_reducible rfl
 simp only[Act.put,sA,sB,sC]
 refine wpAnyH_take (i:=14) (oi:={ dst:=some 41,op:=_,type:=_,pos:=_,after:=_,guard:=_ }) (v:=?_) rfl (by kernel_rfl) (by kernel_rfl) (by kernel_rfl) (fun _ _ _ h=>h) (Or.inl ⟨by rfl,?_⟩) (by assumption) ?_
 case refine_2 =>
  intro w hSw
  try dsimp only at hSw
  go_simp
  try with_reducible rfl
 simp only[Act.put,sA,sB,sC]
 refine wpAnyH_take (i:=15) (oi:={ dst:=some 42,op:=_,type:=_,pos:=_,after:=_,guard:=_ }) (v:=?_) rfl (by kernel_rfl) (by kernel_rfl) (by kernel_rfl) (fun _ _ _ h=>h) (Or.inl ⟨by rfl,?_⟩) (by assumption) ?_
 case refine_2 =>
  intro w hSw
  try dsimp only at hSw
  go_simp
  try with_reducible rfl
 simp only[Act.put,sA,sB,sC]
 refine wpAnyH_done (by kernel_rfl) ?_ _
 have e6:w3.cell? ⟨hp,10,none⟩=some (.int .i64 P.last):=zd (za H1).at'.blk 10
 have f6:=zt (za H1).at'.blk 10
 have hh1:=hlt (za H1).at'.blk
 go_wp2_with fail
 have W2:=zc ((za H1).wrote (P.last+1))
 have hs3:(w3.setCell ⟨hp,10,none⟩ (.int .i64 (P.last+1))).heap.size=w3.heap.size:=by simp[World.setCell]
 have hb2:Below w3.heap.size (w3.setCell ⟨hp,10,none⟩ (.int .i64 (P.last+1))) ((w3.setCell ⟨hp,10,none⟩ (.int .i64 (P.last+1))).alloc (.cells #[.int .i64 2,.int .i64 tag,.int .i64 (P.last+1),.int .i64 0,.int .i64 sz,.bool false] 61)):=by
  rw[←hs3]
  exact(Below.refl _ _).alloc (Nat.le_refl _) _
 have H2:=zc ((za W2).keep (by rw[hs3];exact hb2))
 have HO2:=zc (ab2 (w3.setCell ⟨hp,10,none⟩ (.int .i64 (P.last+1))) (.cells #[.int .i64 2,.int .i64 tag,.int .i64 (P.last+1),.int .i64 0,.int .i64 sz,.bool false] 61) hs3)
 have HS2:Hid (w3.heap.size<((w3.setCell ⟨hp,10,none⟩ (.int .i64 (P.last+1))).alloc (.cells #[.int .i64 2,.int .i64 tag,.int .i64 (P.last+1),.int .i64 0,.int .i64 sz,.bool false] 61)).heap.size):=hlt (za HO2)
 have HK2:Hid (∀k,k<w3.heap.size→k≠hp→((w3.setCell ⟨hp,10,none⟩ (.int .i64 (P.last+1))).alloc (.cells #[.int .i64 2,.int .i64 tag,.int .i64 (P.last+1),.int .i64 0,.int .i64 sz,.bool false] 61)).heap[k]?=w3.heap[k]?):=fun k hk hne=>(hb2.block k hk).trans (zo _ hne)
 have HT2:Hid (((w3.setCell ⟨hp,10,none⟩ (.int .i64 (P.last+1))).alloc (.cells #[.int .i64 2,.int .i64 tag,.int .i64 (P.last+1),.int .i64 0,.int .i64 sz,.bool false] 61)).os=w3.os∧((w3.setCell ⟨hp,10,none⟩ (.int .i64 (P.last+1))).alloc (.cells #[.int .i64 2,.int .i64 tag,.int .i64 (P.last+1),.int .i64 0,.int .i64 sz,.bool false] 61)).tape=w3.tape∧((w3.setCell ⟨hp,10,none⟩ (.int .i64 (P.last+1))).alloc (.cells #[.int .i64 2,.int .i64 tag,.int .i64 (P.last+1),.int .i64 0,.int .i64 sz,.bool false] 61)).output=w3.output):=⟨hb2.os,hb2.tape,hb2.output⟩
 clear hb2 e6 f6 hs3 W2
 generalize (w3.setCell ⟨hp,10,none⟩ (.int .i64 (P.last+1))).alloc (.cells #[.int .i64 2,.int .i64 tag,.int .i64 (P.last+1),.int .i64 0,.int .i64 sz,.bool false] 61)=W at *
 have HO3:=zc (show W.drew.heap[w3.heap.size]?=_ from za HO2)
 refine wp_region_held_drew (S:=(fun w'=>w'.cell? ⟨w3.heap.size,0,none⟩=some (.int .i64 2)∧w'.cell? ⟨w3.heap.size,1,none⟩=some (.int .i64 tag)∧w'.cell? ⟨w3.heap.size,2,none⟩=some (.int .i64 (P.last+1))∧w'.cell? ⟨w3.heap.size,3,none⟩=some (.int .i64 0)∧w'.cell? ⟨w3.heap.size,4,none⟩=some (.int .i64 sz)∧w'.cell? ⟨w3.heap.size,5,none⟩=some (.bool false))) (by kernel_rfl) ⟨zd (za HO3) 0,zd (za HO3) 1,zd (za HO3) 2,zd (za HO3) 3,zd (za HO3) 4,zd (za HO3) 5⟩ (fun hHeld2=>?_)
 refine wpAnyH_take (i:=0) (oi:={ dst:=some 62,op:=_,type:=_,pos:=_,after:=_,guard:=_ }) (v:=?_) rfl (by kernel_rfl) (by kernel_rfl) (by kernel_rfl) (fun _ _ _ h=>h) (Or.inl ⟨by rfl,?_⟩) (by assumption) ?_
 case refine_2 =>
  intro w hSw
  try dsimp only at hSw
  go_simp
  try with_reducible rfl
 simp only[Act.put,sA,sB,sC]
 refine wpAnyH_take (i:=1) (oi:={ dst:=some 63,op:=_,type:=_,pos:=_,after:=_,guard:=_ }) (v:=?_) rfl (by kernel_rfl) (by kernel_rfl) (by kernel_rfl) (fun _ _ _ h=>h) (Or.inl ⟨by rfl,?_⟩) (by assumption) ?_
 case refine_2 =>
  intro w hSw
  try dsimp only at hSw
  go_simp
  try with_reducible rfl
 simp only[Act.put,sA,sB,sC]
 refine wpAnyH_take (i:=2) (oi:={ dst:=some 64,op:=_,type:=_,pos:=_,after:=_,guard:=_ }) (v:=?_) rfl (by kernel_rfl) (by kernel_rfl) (by kernel_rfl) (fun _ _ _ h=>h) (Or.inl ⟨by rfl,?_⟩) (by assumption) ?_
 case refine_2 =>
  intro w hSw
  try dsimp only at hSw
  go_simp
  try with_reducible rfl
 simp only[Act.put,sA,sB,sC]
 refine wpAnyH_take (i:=3) (oi:={ dst:=some 65,op:=_,type:=_,pos:=_,after:=_,guard:=_ }) (v:=?_) rfl (by kernel_rfl) (by kernel_rfl) (by kernel_rfl) (fun _ _ _ h=>h) (Or.inl ⟨by rfl,?_⟩) (by assumption) ?_
 case refine_2 =>
  intro w hSw
  try dsimp only at hSw
  go_simp
  try with_reducible rfl
 simp only[Act.put,sA,sB,sC]
 refine wpAnyH_take (i:=4) (oi:={ dst:=some 66,op:=_,type:=_,pos:=_,after:=_,guard:=_ }) (v:=?_) rfl (by kernel_rfl) (by kernel_rfl) (by kernel_rfl) (fun _ _ _ h=>h) (Or.inl ⟨by rfl,?_⟩) (by assumption) ?_
 case refine_2 =>
  intro w hSw
  try dsimp only at hSw
  go_simp
  try with_reducible rfl
 simp only[Act.put,sA,sB,sC]
 refine wpAnyH_ready (rs:=[5]) (by kernel_rfl) (by simp) ?_
 refine AllReadyH.cons (o:={ dst:=some 67,op:=_,type:=_,pos:=_,after:=_,guard:=_ }) rfl (fun K hK=>?_) AllReadyH.nil
 have mk2:=ae3 hsz
 go_simp
 clear mk2
 have hb3:Below W.heap.size W (W.drew.alloc (.cells (aa9 sz) 69)):=(Below.drew (Below.refl _ _)).alloc (Nat.le_refl _) _
 have H3:=zc ((za H2).keep hb3)
 have HO4:=zc ((hb3.block w3.heap.size (za HS2)).trans (za HO2))
 have HV3:Hid ((W.drew.alloc (.cells (aa9 sz) 69)).heap[W.heap.size]?=some (.cells (aa9 sz) 69 (0,0))):=ab2 W.drew _ rfl
 have HB3:=zc hb3
 clear hb3
 refine hK.out _ _ ⟨zd (za HO4) 0,zd (za HO4) 1,zd (za HO4) 2,zd (za HO4) 3,zd (za HO4) 4,zd (za HO4) 5⟩ (fun hHeld3=>?_)
 clear hK K
 try simp only[World.heap_drew] at *
 refine wpAnyH_ready (rs:=[6]) (by kernel_rfl) (by simp) ?_
 refine AllReadyH.cons (o:={ dst:=some 68,op:=_,type:=_,pos:=_,after:=_,guard:=_ }) rfl (fun K hK=>?_) AllReadyH.nil
 go_simp
 refine(afp (za H3).ptb (za H3).hB (newK 2 P tag sz) rfl rfl (za HV3) (za H3).small.y0 (by show P.fy+2*(P.Y.length:Int)+2≤_;omega) (by show (zg P.Y).length+sz≤_;omega) (by show P.Y.length+1≤_;omega) (by simp[zx])).mono ?_
 rintro e w4 ⟨rfl,vo',vf',hP4,hF4,a4,b4⟩
 have H4:=zc ((za H3).added hP4 hF4 a4 b4 c1 (by show (zg P.Y).length+(aay sz).length+(zg P.O).length≤_;simpa [aay] using c2) c3 c4 ⟨⟨by show _≤P.last+1;omega,by show P.last+1≤_;omega⟩,fun v hv=>by
  have:v=acv:=by
   have hv:v∈aay sz:=hv
   unfold aay at hv
   exact List.eq_of_mem_replicate hv
  rw[this]
  exact⟨by decide,by decide⟩⟩)
 have HO5:=zc ((hF4.block w3.heap.size (Nat.lt_of_lt_of_le (za HS2) (za HB3).size) (by omega) (fun e=>by have:=(zu (za H1).at'.yo e).lt;omega) (fun e=>by have:=(zu (za H1).at'.yf e).lt;omega)).trans (za HO4))
 have HF4:=zc hF4
 have HA4:=zc a4
 have HB4:=zc b4
 clear hP4 hF4 a4 b4
 refine hK.out _ _ ⟨zd (za HO5) 0,zd (za HO5) 1,zd (za HO5) 2,zd (za HO5) 3,zd (za HO5) 4,zd (za HO5) 5⟩ (fun hHeld4=>?_)
 clear hK K
 refine wpAnyH_take (i:=7) (oi:={ dst:=some 11,op:=_,type:=_,pos:=_,after:=_,guard:=_ }) (v:=?_) rfl (by kernel_rfl) (by kernel_rfl) (by kernel_rfl) (fun _ _ _ h=>h) (Or.inl ⟨by rfl,?_⟩) (by assumption) ?_
 case refine_2 =>
  intro w hSw
  try dsimp only at hSw
  go_simp
  try with_reducible rfl
 simp only[Act.put,sA,sB,sC]
 refine wpAnyH_done (by kernel_rfl) ?_ _
 have g2:w4.cell? ⟨w3.heap.size,2,none⟩=some (.int .i64 (P.last+1)):=zd (za HO5) 2
 have hpos:(0:Int)<P.last+1:=by omega
 clear hHeld hHeld1 hHeld2 hHeld3 hHeld4
 go_wp2_with fail
 have k9:w4.drew.cell? ⟨hp,9,none⟩=some (.map (some mb)):=zd (za H4).at'.blk 9
 have o9:w4.drew.cell? ⟨w3.heap.size,2,none⟩=some (.int .i64 (P.last+1)):=g2
 have hy0:=(za H4).small.y0
 obtain⟨w5,hrun,how,htd⟩:=(za H4).own.drew.store ac3 underlying48 (show n<maxLen by unfold maxLen;omega) (keyOf_int_mk underlying3 (adj (n:=P.last+1) ⟨by omega,by omega⟩)) (plainElem_int underlying3 (adj (n:=P.fy+2*P.Y.length) ⟨by have:0≤P.fy:=hy0;omega,by omega⟩))
 have hgd:=htd.grown
 have hmz:∃es cl,w4.heap[mb]?=some (.map es cl):=by obtain⟨es,cl,hb,_⟩:=(za H4).own;exact⟨es,cl,hb⟩
 obtain⟨es9,cl9,hm9⟩:=hmz
 have u9:w5.cell? ⟨hp,9,none⟩=some (.map (some mb)):=(World.cell?_of_block (hgd.block hp (ze (a:=⟨hp,9,none⟩) k9) (fun e=>abu k9 hm9 (Option.some.inj e)))).trans k9
 have u2:w5.cell? ⟨w3.heap.size,2,none⟩=some (.int .i64 (P.last+1)):=(World.cell?_of_block (hgd.block w3.heap.size (ze (a:=⟨w3.heap.size,2,none⟩) o9) (fun e=>abu o9 hm9 (Option.some.inj e)))).trans o9
 have hg4:w4.grownBy w5 (some mb):=⟨hgd.os,hgd.tape,hgd.output,hgd.size,hgd.block⟩
 have H5:=zc ((za H4).stored how hg4)
 have HG5:=zc hg4
 clear how htd hgd hm9 hg4
 refine wp_region_held_drew (S:=fun w'=>w'.cell? ⟨hp,9,none⟩=some (.map (some mb))∧w'.cell? ⟨w3.heap.size,2,none⟩=some (.int .i64 (P.last+1))) (by kernel_rfl) ⟨k9,o9⟩ (fun hHeld5=>?_)
 refine wpAnyH_take (i:=0) (oi:={ dst:=some 72,op:=_,type:=_,pos:=_,after:=_,guard:=_ }) (v:=?_) rfl (by kernel_rfl) (by kernel_rfl) (by kernel_rfl) (fun _ _ _ h=>h) (Or.inl ⟨by rfl,?_⟩) (by assumption) ?_
 case refine_2 =>
  intro w hSw
  try dsimp only at hSw
  go_simp
  try with_reducible rfl
 simp only[Act.put,sA,sB,sC]
 refine wpAnyH_take (i:=1) (oi:={ dst:=some 73,op:=_,type:=_,pos:=_,after:=_,guard:=_ }) (v:=?_) rfl (by kernel_rfl) (by kernel_rfl) (by kernel_rfl) (fun _ _ _ h=>h) (Or.inl ⟨by rfl,?_⟩) (by assumption) ?_
 case refine_2 =>
  intro w hSw
  try dsimp only at hSw
  go_simp
  try with_reducible rfl
 simp only[Act.put,sA,sB,sC]
 refine wpAnyH_take (i:=2) (oi:={ dst:=some 74,op:=_,type:=_,pos:=_,after:=_,guard:=_ }) (v:=?_) rfl (by kernel_rfl) (by kernel_rfl) (by kernel_rfl) (fun _ _ _ h=>h) (Or.inl ⟨by rfl,?_⟩) (by assumption) ?_
 case refine_2 =>
  intro w hSw
  try dsimp only at hSw
  go_simp
  try with_reducible rfl
 simp only[Act.put,sA,sB,sC]
 refine wpAnyH_take (i:=3) (oi:={ dst:=some 75,op:=_,type:=_,pos:=_,after:=_,guard:=_ }) (v:=?_) rfl (by kernel_rfl) (by kernel_rfl) (by kernel_rfl) (fun _ _ _ h=>h) (Or.inl ⟨by rfl,?_⟩) (by assumption) ?_
 case refine_2 =>
  intro w hSw
  try dsimp only at hSw
  go_simp
  try with_reducible rfl
 simp only[Act.put,sA,sB,sC]
 refine wpAnyH_take (i:=4) (oi:={ dst:=some 76,op:=_,type:=_,pos:=_,after:=_,guard:=_ }) (v:=?_) rfl (by kernel_rfl) (by kernel_rfl) (by kernel_rfl) (fun _ _ _ h=>h) (Or.inl ⟨by rfl,?_⟩) (by assumption) ?_
 case refine_2 =>
  intro w hSw
  try dsimp only at hSw
  go_simp
  try with_reducible rfl
 simp only[Act.put,sA,sB,sC]
 refine wpAnyH_take (i:=5) (oi:={ dst:=some 77,op:=_,type:=_,pos:=_,after:=_,guard:=_ }) (v:=?_) rfl (by kernel_rfl) (by kernel_rfl) (by kernel_rfl) (fun _ _ _ h=>h) (Or.inl ⟨by rfl,?_⟩) (by assumption) ?_
 case refine_2 =>
  intro w hSw
  try dsimp only at hSw
  go_simp
  try with_reducible rfl
 simp only[Act.put,sA,sB,sC]
 refine wpAnyH_take (i:=6) (oi:={ dst:=some 78,op:=_,type:=_,pos:=_,after:=_,guard:=_ }) (v:=?_) rfl (by kernel_rfl) (by kernel_rfl) (by kernel_rfl) (fun _ _ _ h=>h) (Or.inl ⟨by rfl,?_⟩) (by assumption) ?_
 case refine_2 =>
  intro w hSw
  try dsimp only at hSw
  go_simp
  try with_reducible rfl
 simp only[Act.put,sA,sB,sC]
 refine wpAnyH_ready (rs:=[7]) (by kernel_rfl) (by simp) ?_
 refine AllReadyH.cons (o:={ dst:=none,op:=_,type:=_,pos:=_,after:=_,guard:=_ }) rfl (fun K hK=>?_) AllReadyH.nil
 go_simp
 refine hK.out _ _ ⟨u9,u2⟩ (fun hHeld6=>?_)
 clear hK K
 refine wpAnyH_done (by kernel_rfl) ?_ _
 clear hrun k9 o9
 go_wp2_with fail
 go_ret2
 have z1:=(za HB1).size
 have z2:=za HS2
 have z3:=(za HB3).size
 have z4:=(za HF4).size
 have z5:=(za HG5).size
 have z6:=hlt (za H1).at'.blk
 refine⟨rfl,vo',vf',za H5,fun k hk h1 h2 h3 h4=>?_,?_,?_,by omega,?_,?_,?_⟩
 ·rw[(za HG5).block k (by omega) (fun e=>h2 (Option.some.inj e)),(za HF4).block k (by omega) h1 h3 h4,(za HB3).block k (by omega),za HK2 k (by omega) h1]
  exact(za HB1).block k hk
 ·exact(za HA4).imp id (fun q j hj=>by have:=q j hj;omega)
 ·exact(za HB4).imp id (fun q j hj=>by have:=q j hj;omega)
 ·exact(za HG5).os.trans ((za HF4).os.trans ((za HB3).os.trans ((za HT2).1.trans (za HB1).os)))
 ·exact(za HG5).tape.trans ((za HF4).tape.trans ((za HB3).tape.trans ((za HT2).2.1.trans (za HB1).tape)))
 ·exact(za HG5).output.trans ((za HF4).output.trans ((za HB3).output.trans ((za HT2).2.2.trans (za HB1).output)))
theorem ap9 {B:Nat} {w:World} {hp mb:Nat} {P:PHp} {D:DataW Unit} {n:Nat} {vyo vyf voo vof vn:Value} (h:HpG B w hp mb P D n vyo vyf voo vof vn) {tag:Int} {sz:Nat} (hsz:sz≤1000) (hroom:(P.Y.length+(zg P.Y).length:Int)+1+sz≤P.ry) (hy:P.Y.length≤1000000) (c1:P.Y.length+1+P.O.length+1≤5000000) (c2:(zg P.Y).length+sz+(zg P.O).length≤10000000) (c3:P.fo+2*P.O.length+2*(P.Y.length+1+P.O.length)+2≤4611686018427387904) (c4:P.fy+2*(P.Y.length+1)≤4611686018427387904) (hn:n≤500000000) (hl0:0≤P.last) (hl1:P.last≤1000000000) :
  Calls prog 7 #[.pointer (some ⟨hp,0,none⟩),.int .i64 3,.int .i64 tag,.int .i64 sz] w fun e w'=>e=.returned (.tuple #[.int .i64 (P.fy+2*P.Y.length),.nilIface])∧ai5 3 B w hp mb P D n tag sz vyo vyf voo vof vn w':=by
 have H:=zc h
 have hfy:=h.few.y
 have n1:¬(sz:Int)<0:=by omega
 have n2:¬(1000:Int)<(sz:Int):=by omega
 obtain⟨cm,hcm⟩:∃cm:Nat,P.Y.length+(zg P.Y).length=cm:=⟨_,rfl⟩
 have HCM:Hid (∀X,Below w.heap.size w X→Calls prog 15 #[.pointer (some ⟨hp,0,none⟩)] X fun e w'=>e=.returned (.int .i64 (cm:Int))∧Below X.heap.size X w'):=fun X hX=>by
  have:=abl ((h.at'.young h.few).keep hX) (by omega)
  rw[hcm] at this
  exact this
 have hcm2:(cm:Int)+1+sz≤P.ry:=by omega
 have hcm3:cm≤11000000:=by omega
 have w1:IntKind.i64.wrap ((cm:Int)+1)=(cm:Int)+1:=aav (by omega) (by omega)
 have w2:IntKind.i64.wrap ((cm:Int)+1+(sz:Int))=(cm:Int)+1+(sz:Int):=aav (by omega) (by omega)
 have n3:¬P.ry<(cm:Int)+1+(sz:Int):=by omega
 have wl:IntKind.i64.wrap (P.last+1)=P.last+1:=aav (by omega) (by omega)
 clear h hcm hroom
 go_enter func7,ntmps7
 go_wp2_with fail
 have HD:=zc ((za H).keep (Below.drew (Below.refl _ _)))
 refine wp_region_held_drew (S:=fun w'=>w'.cell? ⟨hp,6,none⟩=some (.int .i64 P.ry)) (by kernel_rfl) (zd (za HD).at'.blk 6) (fun hHeld=>?_)
 refine wpAnyH_take (i:=0) (oi:={ dst:=some 27,op:=_,type:=_,pos:=_,after:=_,guard:=_ }) (v:=?_) rfl (by kernel_rfl) (by kernel_rfl) (by kernel_rfl) (fun _ _ _ h=>h) (Or.inl ⟨by rfl,?_⟩) (by assumption) ?_
 case refine_2 =>
  intro w hSw
  try dsimp only at hSw
  go_simp
  try with_reducible rfl
 simp only[Act.put,sA,sB,sC]
 refine wpAnyH_take (i:=1) (oi:={ dst:=some 28,op:=_,type:=_,pos:=_,after:=_,guard:=_ }) (v:=?_) rfl (by kernel_rfl) (by kernel_rfl) (by kernel_rfl) (fun _ _ _ h=>h) (Or.inl ⟨by rfl,?_⟩) (by assumption) ?_
 case refine_2 =>
  intro w hSw
  try dsimp only at hSw
  go_simp
  try with_reducible rfl
 simp only[Act.put,sA,sB,sC]
 refine wpAnyH_take (i:=2) (oi:={ dst:=some 29,op:=_,type:=_,pos:=_,after:=_,guard:=_ }) (v:=?_) rfl (by kernel_rfl) (by kernel_rfl) (by kernel_rfl) (fun _ _ _ h=>h) (Or.inl ⟨by rfl,?_⟩) (by assumption) ?_
 case refine_2 =>
  intro w hSw
  try dsimp only at hSw
  go_simp
  try with_reducible rfl
 simp only[Act.put,sA,sB,sC]
 refine wpAnyH_take (i:=3) (oi:={ dst:=some 30,op:=_,type:=_,pos:=_,after:=_,guard:=_ }) (v:=?_) rfl (by kernel_rfl) (by kernel_rfl) (by kernel_rfl) (fun _ _ _ h=>h) (Or.inl ⟨by rfl,?_⟩) (by assumption) ?_
 case refine_2 =>
  intro w hSw
  try dsimp only at hSw
  go_simp
  try with_reducible rfl
 simp only[Act.put,sA,sB,sC]
 refine wpAnyH_take (i:=4) (oi:={ dst:=some 31,op:=_,type:=_,pos:=_,after:=_,guard:=_ }) (v:=?_) rfl (by kernel_rfl) (by kernel_rfl) (by kernel_rfl) (fun _ _ _ h=>h) (Or.inl ⟨by rfl,?_⟩) (by assumption) ?_
 case refine_2 =>
  intro w hSw
  try dsimp only at hSw
  go_simp
  try with_reducible rfl
 simp only[Act.put,sA,sB,sC]
 refine wpAnyH_take (i:=5) (oi:={ dst:=some 32,op:=_,type:=_,pos:=_,after:=_,guard:=_ }) (v:=?_) rfl (by kernel_rfl) (by kernel_rfl) (by kernel_rfl) (fun _ _ _ h=>h) (Or.inl ⟨by rfl,?_⟩) (by assumption) ?_
 case refine_2 =>
  intro w hSw
  try dsimp only at hSw
  go_simp
  try with_reducible rfl
 simp only[Act.put,sA,sB,sC]
 refine wpAnyH_take (i:=8) (oi:={ dst:=some 35,op:=_,type:=_,pos:=_,after:=_,guard:=_ }) (v:=?_) rfl (by kernel_rfl) (by kernel_rfl) (by kernel_rfl) (fun _ _ _ h=>h) (Or.inl ⟨by rfl,?_⟩) (by assumption) ?_
 case refine_2 =>
  intro w hSw
  try dsimp only at hSw
  go_simp
  try with_reducible rfl
 simp only[Act.put,sA,sB,sC]
 refine wpAnyH_take (i:=10) (oi:={ dst:=some 37,op:=_,type:=_,pos:=_,after:=_,guard:=_ }) (v:=?_) rfl (by kernel_rfl) (by kernel_rfl) (by kernel_rfl) (fun _ _ _ h=>h) (Or.inl ⟨by rfl,?_⟩) (by assumption) ?_
 case refine_2 =>
  intro w hSw
  try dsimp only at hSw
  go_simp
  try with_reducible rfl
 simp only[Act.put,sA,sB,sC]
 refine wpAnyH_take (i:=11) (oi:={ dst:=some 38,op:=_,type:=_,pos:=_,after:=_,guard:=_ }) (v:=?_) rfl (by kernel_rfl) (by kernel_rfl) (by kernel_rfl) (fun _ _ _ h=>h) (Or.inl ⟨by rfl,?_⟩) (by assumption) ?_
 case refine_2 =>
  intro w hSw
  try dsimp only at hSw
  go_simp
  try with_reducible rfl
 simp only[Act.put,sA,sB,sC]
 refine wpAnyH_take (i:=12) (oi:={ dst:=some 39,op:=_,type:=_,pos:=_,after:=_,guard:=_ }) (v:=?_) rfl (by kernel_rfl) (by kernel_rfl) (by kernel_rfl) (fun _ _ _ h=>h) (Or.inl ⟨by rfl,?_⟩) (by assumption) ?_
 case refine_2 =>
  intro w hSw
  try dsimp only at hSw
  go_simp
  try with_reducible rfl
 simp only[Act.put,sA,sB,sC]
 refine wpAnyH_take (i:=13) (oi:={ dst:=some 40,op:=_,type:=_,pos:=_,after:=_,guard:=_ }) (v:=?_) rfl (by kernel_rfl) (by kernel_rfl) (by kernel_rfl) (fun _ _ _ h=>h) (Or.inl ⟨by rfl,?_⟩) (by assumption) ?_
 case refine_2 =>
  intro w hSw
  try dsimp only at hSw
  go_simp
  try with_reducible rfl
 simp only[Act.put,sA,sB,sC]
 refine wpAnyH_ready (rs:=[6]) (by kernel_rfl) (by simp) ?_
 refine AllReadyH.cons (o:={ dst:=some 33,op:=_,type:=_,pos:=_,after:=_,guard:=_ }) rfl (fun K hK=>?_) AllReadyH.nil
 go_simp
 refine(za HCM _ (Below.drew (Below.refl _ _))).mono ?_
 rintro e w3 ⟨rfl,hb1⟩
 have HB1:=zc ((Below.drew (Below.refl w.heap.size w)).trans hb1)
 have H1:=zc ((za H).keep (za HB1))
 clear hb1
 refine hK.out _ _ (zd (za H1).at'.blk 6) (fun hHeld1=>?_)
 clear hK K
 refine wpAnyH_take (i:=7) (oi:={ dst:=some 34,op:=_,type:=_,pos:=_,after:=_,guard:=_ }) (v:=?_) rfl (by kernel_rfl) (by kernel_rfl) (by kernel_rfl) (fun _ _ _ h=>h) (Or.inl ⟨by rfl,?_⟩) (by assumption) ?_
 case refine_2 =>
  intro w hSw
  try dsimp only at hSw
  go_simp
  try with_reducible rfl
 simp only[Act.put,sA,sB,sC]
 refine wpAnyH_take (i:=9) (oi:={ dst:=some 36,op:=_,type:=_,pos:=_,after:=_,guard:=_ }) (v:=?_) rfl (by kernel_rfl) (by kernel_rfl) (by kernel_rfl) (fun _ _ _ h=>h) (Or.inl ⟨by rfl,?_⟩) (by assumption) ?_
 case refine_2 =>
  intro w hSw
  try dsimp only at hSw
  go_simp
  try with_reducible rfl
 simp only[Act.put,sA,sB,sC]
 refine wpAnyH_take (i:=14) (oi:={ dst:=some 41,op:=_,type:=_,pos:=_,after:=_,guard:=_ }) (v:=?_) rfl (by kernel_rfl) (by kernel_rfl) (by kernel_rfl) (fun _ _ _ h=>h) (Or.inl ⟨by rfl,?_⟩) (by assumption) ?_
 case refine_2 =>
  intro w hSw
  try dsimp only at hSw
  go_simp
  try with_reducible rfl
 simp only[Act.put,sA,sB,sC]
 refine wpAnyH_take (i:=15) (oi:={ dst:=some 42,op:=_,type:=_,pos:=_,after:=_,guard:=_ }) (v:=?_) rfl (by kernel_rfl) (by kernel_rfl) (by kernel_rfl) (fun _ _ _ h=>h) (Or.inl ⟨by rfl,?_⟩) (by assumption) ?_
 case refine_2 =>
  intro w hSw
  try dsimp only at hSw
  go_simp
  try with_reducible rfl
 simp only[Act.put,sA,sB,sC]
 refine wpAnyH_done (by kernel_rfl) ?_ _
 have e6:w3.cell? ⟨hp,10,none⟩=some (.int .i64 P.last):=zd (za H1).at'.blk 10
 have f6:=zt (za H1).at'.blk 10
 have hh1:=hlt (za H1).at'.blk
 go_wp2_with fail
 have W2:=zc ((za H1).wrote (P.last+1))
 have hs3:(w3.setCell ⟨hp,10,none⟩ (.int .i64 (P.last+1))).heap.size=w3.heap.size:=by simp[World.setCell]
 have hb2:Below w3.heap.size (w3.setCell ⟨hp,10,none⟩ (.int .i64 (P.last+1))) ((w3.setCell ⟨hp,10,none⟩ (.int .i64 (P.last+1))).alloc (.cells #[.int .i64 3,.int .i64 tag,.int .i64 (P.last+1),.int .i64 0,.int .i64 sz,.bool false] 61)):=by
  rw[←hs3]
  exact(Below.refl _ _).alloc (Nat.le_refl _) _
 have H2:=zc ((za W2).keep (by rw[hs3];exact hb2))
 have HO2:=zc (ab2 (w3.setCell ⟨hp,10,none⟩ (.int .i64 (P.last+1))) (.cells #[.int .i64 3,.int .i64 tag,.int .i64 (P.last+1),.int .i64 0,.int .i64 sz,.bool false] 61) hs3)
 have HS2:Hid (w3.heap.size<((w3.setCell ⟨hp,10,none⟩ (.int .i64 (P.last+1))).alloc (.cells #[.int .i64 3,.int .i64 tag,.int .i64 (P.last+1),.int .i64 0,.int .i64 sz,.bool false] 61)).heap.size):=hlt (za HO2)
 have HK2:Hid (∀k,k<w3.heap.size→k≠hp→((w3.setCell ⟨hp,10,none⟩ (.int .i64 (P.last+1))).alloc (.cells #[.int .i64 3,.int .i64 tag,.int .i64 (P.last+1),.int .i64 0,.int .i64 sz,.bool false] 61)).heap[k]?=w3.heap[k]?):=fun k hk hne=>(hb2.block k hk).trans (zo _ hne)
 have HT2:Hid (((w3.setCell ⟨hp,10,none⟩ (.int .i64 (P.last+1))).alloc (.cells #[.int .i64 3,.int .i64 tag,.int .i64 (P.last+1),.int .i64 0,.int .i64 sz,.bool false] 61)).os=w3.os∧((w3.setCell ⟨hp,10,none⟩ (.int .i64 (P.last+1))).alloc (.cells #[.int .i64 3,.int .i64 tag,.int .i64 (P.last+1),.int .i64 0,.int .i64 sz,.bool false] 61)).tape=w3.tape∧((w3.setCell ⟨hp,10,none⟩ (.int .i64 (P.last+1))).alloc (.cells #[.int .i64 3,.int .i64 tag,.int .i64 (P.last+1),.int .i64 0,.int .i64 sz,.bool false] 61)).output=w3.output):=⟨hb2.os,hb2.tape,hb2.output⟩
 clear hb2 e6 f6 hs3 W2
 generalize (w3.setCell ⟨hp,10,none⟩ (.int .i64 (P.last+1))).alloc (.cells #[.int .i64 3,.int .i64 tag,.int .i64 (P.last+1),.int .i64 0,.int .i64 sz,.bool false] 61)=W at *
 have HO3:=zc (show W.drew.heap[w3.heap.size]?=_ from za HO2)
 refine wp_region_held_drew (S:=(fun w'=>w'.cell? ⟨w3.heap.size,0,none⟩=some (.int .i64 3)∧w'.cell? ⟨w3.heap.size,1,none⟩=some (.int .i64 tag)∧w'.cell? ⟨w3.heap.size,2,none⟩=some (.int .i64 (P.last+1))∧w'.cell? ⟨w3.heap.size,3,none⟩=some (.int .i64 0)∧w'.cell? ⟨w3.heap.size,4,none⟩=some (.int .i64 sz)∧w'.cell? ⟨w3.heap.size,5,none⟩=some (.bool false))) (by kernel_rfl) ⟨zd (za HO3) 0,zd (za HO3) 1,zd (za HO3) 2,zd (za HO3) 3,zd (za HO3) 4,zd (za HO3) 5⟩ (fun hHeld2=>?_)
 refine wpAnyH_take (i:=0) (oi:={ dst:=some 62,op:=_,type:=_,pos:=_,after:=_,guard:=_ }) (v:=?_) rfl (by kernel_rfl) (by kernel_rfl) (by kernel_rfl) (fun _ _ _ h=>h) (Or.inl ⟨by rfl,?_⟩) (by assumption) ?_
 case refine_2 =>
  intro w hSw
  try dsimp only at hSw
  go_simp
  try with_reducible rfl
 simp only[Act.put,sA,sB,sC]
 refine wpAnyH_take (i:=1) (oi:={ dst:=some 63,op:=_,type:=_,pos:=_,after:=_,guard:=_ }) (v:=?_) rfl (by kernel_rfl) (by kernel_rfl) (by kernel_rfl) (fun _ _ _ h=>h) (Or.inl ⟨by rfl,?_⟩) (by assumption) ?_
 case refine_2 =>
  intro w hSw
  try dsimp only at hSw
  go_simp
  try with_reducible rfl
 simp only[Act.put,sA,sB,sC]
 refine wpAnyH_take (i:=2) (oi:={ dst:=some 64,op:=_,type:=_,pos:=_,after:=_,guard:=_ }) (v:=?_) rfl (by kernel_rfl) (by kernel_rfl) (by kernel_rfl) (fun _ _ _ h=>h) (Or.inl ⟨by rfl,?_⟩) (by assumption) ?_
 case refine_2 =>
  intro w hSw
  try dsimp only at hSw
  go_simp
  try with_reducible rfl
 simp only[Act.put,sA,sB,sC]
 refine wpAnyH_take (i:=3) (oi:={ dst:=some 65,op:=_,type:=_,pos:=_,after:=_,guard:=_ }) (v:=?_) rfl (by kernel_rfl) (by kernel_rfl) (by kernel_rfl) (fun _ _ _ h=>h) (Or.inl ⟨by rfl,?_⟩) (by assumption) ?_
 case refine_2 =>
  intro w hSw
  try dsimp only at hSw
  go_simp
  try with_reducible rfl
 simp only[Act.put,sA,sB,sC]
 refine wpAnyH_take (i:=4) (oi:={ dst:=some 66,op:=_,type:=_,pos:=_,after:=_,guard:=_ }) (v:=?_) rfl (by kernel_rfl) (by kernel_rfl) (by kernel_rfl) (fun _ _ _ h=>h) (Or.inl ⟨by rfl,?_⟩) (by assumption) ?_
 case refine_2 =>
  intro w hSw
  try dsimp only at hSw
  go_simp
  try with_reducible rfl
 simp only[Act.put,sA,sB,sC]
 refine wpAnyH_ready (rs:=[5]) (by kernel_rfl) (by simp) ?_
 refine AllReadyH.cons (o:={ dst:=some 67,op:=_,type:=_,pos:=_,after:=_,guard:=_ }) rfl (fun K hK=>?_) AllReadyH.nil
 have mk2:=ae3 hsz
 go_simp
 clear mk2
 have hb3:Below W.heap.size W (W.drew.alloc (.cells (aa9 sz) 69)):=(Below.drew (Below.refl _ _)).alloc (Nat.le_refl _) _
 have H3:=zc ((za H2).keep hb3)
 have HO4:=zc ((hb3.block w3.heap.size (za HS2)).trans (za HO2))
 have HV3:Hid ((W.drew.alloc (.cells (aa9 sz) 69)).heap[W.heap.size]?=some (.cells (aa9 sz) 69 (0,0))):=ab2 W.drew _ rfl
 have HB3:=zc hb3
 clear hb3
 refine hK.out _ _ ⟨zd (za HO4) 0,zd (za HO4) 1,zd (za HO4) 2,zd (za HO4) 3,zd (za HO4) 4,zd (za HO4) 5⟩ (fun hHeld3=>?_)
 clear hK K
 try simp only[World.heap_drew] at *
 refine wpAnyH_ready (rs:=[6]) (by kernel_rfl) (by simp) ?_
 refine AllReadyH.cons (o:={ dst:=some 68,op:=_,type:=_,pos:=_,after:=_,guard:=_ }) rfl (fun K hK=>?_) AllReadyH.nil
 go_simp
 refine(afp (za H3).ptb (za H3).hB (newK 3 P tag sz) rfl rfl (za HV3) (za H3).small.y0 (by show P.fy+2*(P.Y.length:Int)+2≤_;omega) (by show (zg P.Y).length+sz≤_;omega) (by show P.Y.length+1≤_;omega) (by simp[zx])).mono ?_
 rintro e w4 ⟨rfl,vo',vf',hP4,hF4,a4,b4⟩
 have H4:=zc ((za H3).added hP4 hF4 a4 b4 c1 (by show (zg P.Y).length+(aay sz).length+(zg P.O).length≤_;simpa [aay] using c2) c3 c4 ⟨⟨by show _≤P.last+1;omega,by show P.last+1≤_;omega⟩,fun v hv=>by
  have:v=acv:=by
   have hv:v∈aay sz:=hv
   unfold aay at hv
   exact List.eq_of_mem_replicate hv
  rw[this]
  exact⟨by decide,by decide⟩⟩)
 have HO5:=zc ((hF4.block w3.heap.size (Nat.lt_of_lt_of_le (za HS2) (za HB3).size) (by omega) (fun e=>by have:=(zu (za H1).at'.yo e).lt;omega) (fun e=>by have:=(zu (za H1).at'.yf e).lt;omega)).trans (za HO4))
 have HF4:=zc hF4
 have HA4:=zc a4
 have HB4:=zc b4
 clear hP4 hF4 a4 b4
 refine hK.out _ _ ⟨zd (za HO5) 0,zd (za HO5) 1,zd (za HO5) 2,zd (za HO5) 3,zd (za HO5) 4,zd (za HO5) 5⟩ (fun hHeld4=>?_)
 clear hK K
 refine wpAnyH_take (i:=7) (oi:={ dst:=some 11,op:=_,type:=_,pos:=_,after:=_,guard:=_ }) (v:=?_) rfl (by kernel_rfl) (by kernel_rfl) (by kernel_rfl) (fun _ _ _ h=>h) (Or.inl ⟨by rfl,?_⟩) (by assumption) ?_
 case refine_2 =>
  intro w hSw
  try dsimp only at hSw
  go_simp
  try with_reducible rfl
 simp only[Act.put,sA,sB,sC]
 refine wpAnyH_done (by kernel_rfl) ?_ _
 have g2:w4.cell? ⟨w3.heap.size,2,none⟩=some (.int .i64 (P.last+1)):=zd (za HO5) 2
 have hpos:(0:Int)<P.last+1:=by omega
 clear hHeld hHeld1 hHeld2 hHeld3 hHeld4
 go_wp2_with fail
 have k9:w4.drew.cell? ⟨hp,9,none⟩=some (.map (some mb)):=zd (za H4).at'.blk 9
 have o9:w4.drew.cell? ⟨w3.heap.size,2,none⟩=some (.int .i64 (P.last+1)):=g2
 have hy0:=(za H4).small.y0
 obtain⟨w5,hrun,how,htd⟩:=(za H4).own.drew.store ac3 underlying48 (show n<maxLen by unfold maxLen;omega) (keyOf_int_mk underlying3 (adj (n:=P.last+1) ⟨by omega,by omega⟩)) (plainElem_int underlying3 (adj (n:=P.fy+2*P.Y.length) ⟨by have:0≤P.fy:=hy0;omega,by omega⟩))
 have hgd:=htd.grown
 have hmz:∃es cl,w4.heap[mb]?=some (.map es cl):=by obtain⟨es,cl,hb,_⟩:=(za H4).own;exact⟨es,cl,hb⟩
 obtain⟨es9,cl9,hm9⟩:=hmz
 have u9:w5.cell? ⟨hp,9,none⟩=some (.map (some mb)):=(World.cell?_of_block (hgd.block hp (ze (a:=⟨hp,9,none⟩) k9) (fun e=>abu k9 hm9 (Option.some.inj e)))).trans k9
 have u2:w5.cell? ⟨w3.heap.size,2,none⟩=some (.int .i64 (P.last+1)):=(World.cell?_of_block (hgd.block w3.heap.size (ze (a:=⟨w3.heap.size,2,none⟩) o9) (fun e=>abu o9 hm9 (Option.some.inj e)))).trans o9
 have hg4:w4.grownBy w5 (some mb):=⟨hgd.os,hgd.tape,hgd.output,hgd.size,hgd.block⟩
 have H5:=zc ((za H4).stored how hg4)
 have HG5:=zc hg4
 clear how htd hgd hm9 hg4
 refine wp_region_held_drew (S:=fun w'=>w'.cell? ⟨hp,9,none⟩=some (.map (some mb))∧w'.cell? ⟨w3.heap.size,2,none⟩=some (.int .i64 (P.last+1))) (by kernel_rfl) ⟨k9,o9⟩ (fun hHeld5=>?_)
 refine wpAnyH_take (i:=0) (oi:={ dst:=some 72,op:=_,type:=_,pos:=_,after:=_,guard:=_ }) (v:=?_) rfl (by kernel_rfl) (by kernel_rfl) (by kernel_rfl) (fun _ _ _ h=>h) (Or.inl ⟨by rfl,?_⟩) (by assumption) ?_
 case refine_2 =>
  intro w hSw
  try dsimp only at hSw
  go_simp
  try with_reducible rfl
 simp only[Act.put,sA,sB,sC]
 refine wpAnyH_take (i:=1) (oi:={ dst:=some 73,op:=_,type:=_,pos:=_,after:=_,guard:=_ }) (v:=?_) rfl (by kernel_rfl) (by kernel_rfl) (by kernel_rfl) (fun _ _ _ h=>h) (Or.inl ⟨by rfl,?_⟩) (by assumption) ?_
 case refine_2 =>
  intro w hSw
  try dsimp only at hSw
  go_simp
  try with_reducible rfl
 simp only[Act.put,sA,sB,sC]
 refine wpAnyH_take (i:=2) (oi:={ dst:=some 74,op:=_,type:=_,pos:=_,after:=_,guard:=_ }) (v:=?_) rfl (by kernel_rfl) (by kernel_rfl) (by kernel_rfl) (fun _ _ _ h=>h) (Or.inl ⟨by rfl,?_⟩) (by assumption) ?_
 case refine_2 =>
  intro w hSw
  try dsimp only at hSw
  go_simp
  try with_reducible rfl
 simp only[Act.put,sA,sB,sC]
 refine wpAnyH_take (i:=3) (oi:={ dst:=some 75,op:=_,type:=_,pos:=_,after:=_,guard:=_ }) (v:=?_) rfl (by kernel_rfl) (by kernel_rfl) (by kernel_rfl) (fun _ _ _ h=>h) (Or.inl ⟨by rfl,?_⟩) (by assumption) ?_
 case refine_2 =>
  intro w hSw
  try dsimp only at hSw
  go_simp
  try with_reducible rfl
 simp only[Act.put,sA,sB,sC]
 refine wpAnyH_take (i:=4) (oi:={ dst:=some 76,op:=_,type:=_,pos:=_,after:=_,guard:=_ }) (v:=?_) rfl (by kernel_rfl) (by kernel_rfl) (by kernel_rfl) (fun _ _ _ h=>h) (Or.inl ⟨by rfl,?_⟩) (by assumption) ?_
 case refine_2 =>
  intro w hSw
  try dsimp only at hSw
  go_simp
  try with_reducible rfl
 simp only[Act.put,sA,sB,sC]
 refine wpAnyH_take (i:=5) (oi:={ dst:=some 77,op:=_,type:=_,pos:=_,after:=_,guard:=_ }) (v:=?_) rfl (by kernel_rfl) (by kernel_rfl) (by kernel_rfl) (fun _ _ _ h=>h) (Or.inl ⟨by rfl,?_⟩) (by assumption) ?_
 case refine_2 =>
  intro w hSw
  try dsimp only at hSw
  go_simp
  try with_reducible rfl
 simp only[Act.put,sA,sB,sC]
 refine wpAnyH_take (i:=6) (oi:={ dst:=some 78,op:=_,type:=_,pos:=_,after:=_,guard:=_ }) (v:=?_) rfl (by kernel_rfl) (by kernel_rfl) (by kernel_rfl) (fun _ _ _ h=>h) (Or.inl ⟨by rfl,?_⟩) (by assumption) ?_
 case refine_2 =>
  intro w hSw
  try dsimp only at hSw
  go_simp
  try with_reducible rfl
 simp only[Act.put,sA,sB,sC]
 refine wpAnyH_ready (rs:=[7]) (by kernel_rfl) (by simp) ?_
 refine AllReadyH.cons (o:={ dst:=none,op:=_,type:=_,pos:=_,after:=_,guard:=_ }) rfl (fun K hK=>?_) AllReadyH.nil
 go_simp
 refine hK.out _ _ ⟨u9,u2⟩ (fun hHeld6=>?_)
 clear hK K
 refine wpAnyH_done (by kernel_rfl) ?_ _
 clear hrun k9 o9
 go_wp2_with fail
 go_ret2
 have z1:=(za HB1).size
 have z2:=za HS2
 have z3:=(za HB3).size
 have z4:=(za HF4).size
 have z5:=(za HG5).size
 have z6:=hlt (za H1).at'.blk
 refine⟨rfl,vo',vf',za H5,fun k hk h1 h2 h3 h4=>?_,?_,?_,by omega,?_,?_,?_⟩
 ·rw[(za HG5).block k (by omega) (fun e=>h2 (Option.some.inj e)),(za HF4).block k (by omega) h1 h3 h4,(za HB3).block k (by omega),za HK2 k (by omega) h1]
  exact(za HB1).block k hk
 ·exact(za HA4).imp id (fun q j hj=>by have:=q j hj;omega)
 ·exact(za HB4).imp id (fun q j hj=>by have:=q j hj;omega)
 ·exact(za HG5).os.trans ((za HF4).os.trans ((za HB3).os.trans ((za HT2).1.trans (za HB1).os)))
 ·exact(za HG5).tape.trans ((za HF4).tape.trans ((za HB3).tape.trans ((za HT2).2.1.trans (za HB1).tape)))
 ·exact(za HG5).output.trans ((za HF4).output.trans ((za HB3).output.trans ((za HT2).2.2.trans (za HB1).output)))
end
end Go.Proofs.YtpnghfghdbijlaaGreatDoor
