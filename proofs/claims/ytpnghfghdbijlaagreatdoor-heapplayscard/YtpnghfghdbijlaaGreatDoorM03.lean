/- A part. -/
import Derived.Test.YtpnghfghdbijlaaGreatDoorM02
import Derived.Maps.OwnSet
import Derived.Maps.OwnOps
open Go.Proofs.Tryz
namespace Go.Proofs.YtpnghfghdbijlaaGreatDoor
open Go.RowKit
set_option linter.unusedVariables false
set_option linter.unusedSimpArgs false
set_option maxRecDepth 100000
set_option maxHeartbeats 40000000
structure PtAt (B:Nat) (w:World) (b o:Nat) (l:List HO) (vo vf:Value):Prop where
 c1:w.cell? ⟨b,o+1,none⟩=some vo
 c2:w.cell? ⟨b,o+2,none⟩=some vf
 objs:w.ownsRow B 61 6 vo l.length (aa7 0 l)
 flds:w.ownsRow B 69 3 vf (zg l).length (acg l)
 few:(zg l).length≤10000000
theorem PtAt.keep {B:Nat} {w w':World} {b o:Nat} {l:List HO} {vo vf:Value} (h:PtAt B w b o l vo vf) (hb:Below w.heap.size w w'):PtAt B w' b o l vo vf :=
 ⟨zj hb h.c1 (ze h.c1),zj hb h.c2 (ze h.c2),aa8 h.objs hb,aa8 h.flds hb,h.few⟩
theorem PtAt.obj {B:Nat} {w:World} {b o:Nat} {l:List HO} {vo vf:Value} (h:PtAt B w b o l vo vf) {i:Nat} {x:HO} (hx:l[i]?=some x):∃g cap,vo=.slice (some ⟨g,0,none⟩) l.length cap∧w.cell? ⟨g,i*6,none⟩=some (.int .i64 x.kind)∧w.cell? ⟨g,i*6+1,none⟩=some (.int .i64 x.tag)∧w.cell? ⟨g,i*6+2,none⟩=some (.int .i64 x.id)∧w.cell? ⟨g,i*6+3,none⟩=some (.int .i64 (zm l i))∧w.cell? ⟨g,i*6+4,none⟩=some (.int .i64 x.fs.length)∧w.cell? ⟨g,i*6+5,none⟩=some (.bool x.noted):=by
 have hi:=(List.getElem?_eq_some_iff.1 hx).1
 obtain⟨g,cap,rfl,hc⟩:∃g cap,vo=.slice (some ⟨g,0,none⟩) l.length cap∧∀j,j<l.length*6→w.cell? ⟨g,j,none⟩=(aa7 0 l)[j]?:=by
  rcases h.objs.2 with ⟨_,q⟩ | ⟨g,cap,cur,rfl,_,h3,_,_,_,h7⟩
  ·omega
  ·exact⟨g,cap,rfl,fun j hj=>by rw[zd h3 j,←h7,List.getElem?_take_of_lt hj];simp⟩
 have key:∀j,j<6→w.cell? ⟨g,i*6+j,none⟩=(aaz (zm l i) x)[j]?:=fun j hj=>by
  rw[hc _ (by omega),agn hx hj]
 exact⟨g,cap,rfl,key 0 (by omega),key 1 (by omega),key 2 (by omega),key 3 (by omega),key 4 (by omega),key 5 (by omega)⟩
def HasPost (l:List HO) (i:Nat) (x:HO) (vf:Value) (w:World) (e:Ending) (w':World):Prop:=Below w.heap.size w w'∧∃g' cap',e=.returned (.slice g' x.fs.length cap')∧x.fs.length≤cap'∧(0<x.fs.length→∃g cap,vf=.slice (some ⟨g,0,none⟩) (zg l).length cap∧g'=some ⟨g,zm l i*3,none⟩∧cap'=cap-zm l i)
theorem ad4 {B:Nat} {w:World} {b o:Nat} {l:List HO} {vo vf:Value} (h:PtAt B w b o l vo vf) {i:Nat} {x:HO} (hx:l[i]?=some x) :
  Calls prog 44 #[.pointer (some ⟨b,o,none⟩),.int .i64 i] w fun e w'=>HasPost l i x vf w e w':=by
 have hi:=(List.getElem?_eq_some_iff.1 hx).1
 have hbl:=ach hx
 have hfew:=h.few
 obtain⟨g,cap,rfl,a0,a1,a2,a3,a4,a5⟩:=h.obj hx
 obtain⟨gf,cf,hvf⟩:=aaa h.flds
 have HFL:=zc h.flds
 have k1:=h.c1
 have k2:=h.c2
 subst hvf
 have hcf:(zg l).length≤cf:=by
  rcases h.flds.2 with ⟨q,q2⟩ | ⟨_,_,_,q,_,_,q4,_⟩
  ·omega
  ·cases q
   exact q4
 have hi2:(i:Int)<(l.length:Int):=by omega
 have s1:(zm l i:Int)+(x.fs.length:Int)≤(cf:Int):=by omega
 have wr:IntKind.i64.wrap ((zm l i:Int)+(x.fs.length:Int))=(zm l i:Int)+(x.fs.length:Int):=aav (by omega) (by omega)
 have s0:(0:Int)≤(zm l i:Int)+(x.fs.length:Int):=by omega
 have hto:((zm l i:Int)+(x.fs.length:Int)).toNat=zm l i+x.fs.length:=by omega
 have hsub:zm l i+x.fs.length-zm l i=x.fs.length:=by omega
 have HCF:=zc hcf
 have HBL:=zc hbl
 clear h hx hcf hbl hfew
 by_cases hce:cf=zm l i
 ·have HCE:=zc hce
  have s3:(zm l i:Int)+(x.fs.length:Int)≤(zm l i:Int):=by have:=za HCF;have:=za HBL;omega
  go_enter func44,ntmps44
  go_wp2_with fail
  refine wp_region_held_drew (S:=(fun w'=>w'.cell? ⟨b,o+2,none⟩=some (.slice gf (zg l).length cf)∧w'.cell? ⟨w.heap.size,3,none⟩=some (.int .i64 (zm l i))∧w'.cell? ⟨w.heap.size,4,none⟩=some (.int .i64 x.fs.length))) (by kernel_rfl) ⟨aac k2 _,zd (aan _ _) 3,zd (aan _ _) 4⟩ (fun hHeld=>?_)
  refine wpAnyH_take (i:=0) (oi:={ dst:=some 13,op:=_,type:=_,pos:=_,after:=_,guard:=_ }) (v:=?_) rfl (by kernel_rfl) (by kernel_rfl) (by kernel_rfl) (fun _ _ _ h=>h) (Or.inl ⟨by rfl,?_⟩) (by assumption) ?_
  case refine_2 =>
   intro w hSw
   try dsimp only at hSw
   go_simp
   try with_reducible rfl
  simp only[Act.put,sA,sB,sC]
  refine wpAnyH_take (i:=1) (oi:={ dst:=some 14,op:=_,type:=_,pos:=_,after:=_,guard:=_ }) (v:=?_) rfl (by kernel_rfl) (by kernel_rfl) (by kernel_rfl) (fun _ _ _ h=>h) (Or.inl ⟨by rfl,?_⟩) (by assumption) ?_
  case refine_2 =>
   intro w hSw
   try dsimp only at hSw
   go_simp
   try with_reducible rfl
  simp only[Act.put,sA,sB,sC]
  refine wpAnyH_take (i:=2) (oi:={ dst:=some 15,op:=_,type:=_,pos:=_,after:=_,guard:=_ }) (v:=?_) rfl (by kernel_rfl) (by kernel_rfl) (by kernel_rfl) (fun _ _ _ h=>h) (Or.inl ⟨by rfl,?_⟩) (by assumption) ?_
  case refine_2 =>
   intro w hSw
   try dsimp only at hSw
   go_simp
   try with_reducible rfl
  simp only[Act.put,sA,sB,sC]
  refine wpAnyH_take (i:=3) (oi:={ dst:=some 16,op:=_,type:=_,pos:=_,after:=_,guard:=_ }) (v:=?_) rfl (by kernel_rfl) (by kernel_rfl) (by kernel_rfl) (fun _ _ _ h=>h) (Or.inl ⟨by rfl,?_⟩) (by assumption) ?_
  case refine_2 =>
   intro w hSw
   try dsimp only at hSw
   go_simp
   try with_reducible rfl
  simp only[Act.put,sA,sB,sC]
  refine wpAnyH_take (i:=4) (oi:={ dst:=some 17,op:=_,type:=_,pos:=_,after:=_,guard:=_ }) (v:=?_) rfl (by kernel_rfl) (by kernel_rfl) (by kernel_rfl) (fun _ _ _ h=>h) (Or.inl ⟨by rfl,?_⟩) (by assumption) ?_
  case refine_2 =>
   intro w hSw
   try dsimp only at hSw
   go_simp
   try with_reducible rfl
  simp only[Act.put,sA,sB,sC]
  refine wpAnyH_take (i:=5) (oi:={ dst:=some 18,op:=_,type:=_,pos:=_,after:=_,guard:=_ }) (v:=?_) rfl (by kernel_rfl) (by kernel_rfl) (by kernel_rfl) (fun _ _ _ h=>h) (Or.inl ⟨by rfl,?_⟩) (by assumption) ?_
  case refine_2 =>
   intro w hSw
   try dsimp only at hSw
   go_simp
   try with_reducible rfl
  simp only[Act.put,sA,sB,sC]
  refine wpAnyH_take (i:=6) (oi:={ dst:=some 19,op:=_,type:=_,pos:=_,after:=_,guard:=_ }) (v:=?_) rfl (by kernel_rfl) (by kernel_rfl) (by kernel_rfl) (fun _ _ _ h=>h) (Or.inl ⟨by rfl,?_⟩) (by assumption) ?_
  case refine_2 =>
   intro w hSw
   try dsimp only at hSw
   go_simp
   try with_reducible rfl
  simp only[Act.put,sA,sB,sC]
  refine wpAnyH_take (i:=7) (oi:={ dst:=some 20,op:=_,type:=_,pos:=_,after:=_,guard:=_ }) (v:=?_) rfl (by kernel_rfl) (by kernel_rfl) (by kernel_rfl) (fun _ _ _ h=>h) (Or.inl ⟨by rfl,?_⟩) (by assumption) ?_
  case refine_2 =>
   intro w hSw
   try dsimp only at hSw
   go_simp
   try with_reducible rfl
  simp only[Act.put,sA,sB,sC]
  refine wpAnyH_take (i:=8) (oi:={ dst:=some 21,op:=_,type:=_,pos:=_,after:=_,guard:=_ }) (v:=?_) rfl (by kernel_rfl) (by kernel_rfl) (by kernel_rfl) (fun _ _ _ h=>h) (Or.inl ⟨by rfl,?_⟩) (by assumption) ?_
  case refine_2 =>
   intro w hSw
   try dsimp only at hSw
   go_simp
   try with_reducible rfl
  simp only[Act.put,sA,sB,sC]
  refine wpAnyH_take (i:=9) (oi:={ dst:=some 22,op:=_,type:=_,pos:=_,after:=_,guard:=_ }) (v:=?_) rfl (by kernel_rfl) (by kernel_rfl) (by kernel_rfl) (fun _ _ _ h=>h) (Or.inl ⟨by rfl,?_⟩) (by assumption) ?_
  case refine_2 =>
   intro w hSw
   try dsimp only at hSw
   go_simp
   try with_reducible rfl
  simp only[Act.put,sA,sB,sC]
  refine wpAnyH_take (i:=10) (oi:={ dst:=some 23,op:=_,type:=_,pos:=_,after:=_,guard:=_ }) (v:=?_) rfl (by kernel_rfl) (by kernel_rfl) (by kernel_rfl) (fun _ _ _ h=>h) (Or.inl ⟨by rfl,?_⟩) (by assumption) ?_
  case refine_2 =>
   intro w hSw
   try dsimp only at hSw
   go_simp
   try with_reducible rfl
  simp only[Act.put,sA,sB,sC]
  refine wpAnyH_take (i:=11) (oi:={ dst:=some 24,op:=_,type:=_,pos:=_,after:=_,guard:=_ }) (v:=?_) rfl (by kernel_rfl) (by kernel_rfl) (by kernel_rfl) (fun _ _ _ h=>h) (Or.inl ⟨by rfl,?_⟩) (by assumption) ?_
  case refine_2 =>
   intro w hSw
   try dsimp only at hSw
   go_simp
   try with_reducible rfl
  simp only[Act.put,sA,sB,sC]
  refine wpAnyH_take (i:=12) (oi:={ dst:=some 4,op:=_,type:=_,pos:=_,after:=_,guard:=_ }) (v:=?_) rfl (by kernel_rfl) (by kernel_rfl) (by kernel_rfl) (fun _ _ _ h=>h) (Or.inl ⟨by rfl,?_⟩) (by assumption) ?_
  case refine_2 =>
   intro w hSw
   try dsimp only at hSw
   go_simp
   try with_reducible rfl
  simp only[Act.put,sA,sB,sC]
  refine wpAnyH_done (by kernel_rfl) ?_ _
  go_wp2_with fail
  go_ret
  refine⟨Below.drew ((Below.refl _ _).alloc (Nat.le_refl _) _),_,_,rfl,by have:=za HCF;have:=za HBL;have:=za HCE;omega,fun hp=>?_⟩
  have:=za HCF
  have:=za HBL
  have:=za HCE
  omega
 ·have HCE:=zc hce
  go_enter func44,ntmps44
  go_wp2_with fail
  refine wp_region_held_drew (S:=(fun w'=>w'.cell? ⟨b,o+2,none⟩=some (.slice gf (zg l).length cf)∧w'.cell? ⟨w.heap.size,3,none⟩=some (.int .i64 (zm l i))∧w'.cell? ⟨w.heap.size,4,none⟩=some (.int .i64 x.fs.length))) (by kernel_rfl) ⟨aac k2 _,zd (aan _ _) 3,zd (aan _ _) 4⟩ (fun hHeld=>?_)
  refine wpAnyH_take (i:=0) (oi:={ dst:=some 13,op:=_,type:=_,pos:=_,after:=_,guard:=_ }) (v:=?_) rfl (by kernel_rfl) (by kernel_rfl) (by kernel_rfl) (fun _ _ _ h=>h) (Or.inl ⟨by rfl,?_⟩) (by assumption) ?_
  case refine_2 =>
   intro w hSw
   try dsimp only at hSw
   go_simp
   try with_reducible rfl
  simp only[Act.put,sA,sB,sC]
  refine wpAnyH_take (i:=1) (oi:={ dst:=some 14,op:=_,type:=_,pos:=_,after:=_,guard:=_ }) (v:=?_) rfl (by kernel_rfl) (by kernel_rfl) (by kernel_rfl) (fun _ _ _ h=>h) (Or.inl ⟨by rfl,?_⟩) (by assumption) ?_
  case refine_2 =>
   intro w hSw
   try dsimp only at hSw
   go_simp
   try with_reducible rfl
  simp only[Act.put,sA,sB,sC]
  refine wpAnyH_take (i:=2) (oi:={ dst:=some 15,op:=_,type:=_,pos:=_,after:=_,guard:=_ }) (v:=?_) rfl (by kernel_rfl) (by kernel_rfl) (by kernel_rfl) (fun _ _ _ h=>h) (Or.inl ⟨by rfl,?_⟩) (by assumption) ?_
  case refine_2 =>
   intro w hSw
   try dsimp only at hSw
   go_simp
   try with_reducible rfl
  simp only[Act.put,sA,sB,sC]
  refine wpAnyH_take (i:=3) (oi:={ dst:=some 16,op:=_,type:=_,pos:=_,after:=_,guard:=_ }) (v:=?_) rfl (by kernel_rfl) (by kernel_rfl) (by kernel_rfl) (fun _ _ _ h=>h) (Or.inl ⟨by rfl,?_⟩) (by assumption) ?_
  case refine_2 =>
   intro w hSw
   try dsimp only at hSw
   go_simp
   try with_reducible rfl
  simp only[Act.put,sA,sB,sC]
  refine wpAnyH_take (i:=4) (oi:={ dst:=some 17,op:=_,type:=_,pos:=_,after:=_,guard:=_ }) (v:=?_) rfl (by kernel_rfl) (by kernel_rfl) (by kernel_rfl) (fun _ _ _ h=>h) (Or.inl ⟨by rfl,?_⟩) (by assumption) ?_
  case refine_2 =>
   intro w hSw
   try dsimp only at hSw
   go_simp
   try with_reducible rfl
  simp only[Act.put,sA,sB,sC]
  refine wpAnyH_take (i:=5) (oi:={ dst:=some 18,op:=_,type:=_,pos:=_,after:=_,guard:=_ }) (v:=?_) rfl (by kernel_rfl) (by kernel_rfl) (by kernel_rfl) (fun _ _ _ h=>h) (Or.inl ⟨by rfl,?_⟩) (by assumption) ?_
  case refine_2 =>
   intro w hSw
   try dsimp only at hSw
   go_simp
   try with_reducible rfl
  simp only[Act.put,sA,sB,sC]
  refine wpAnyH_take (i:=6) (oi:={ dst:=some 19,op:=_,type:=_,pos:=_,after:=_,guard:=_ }) (v:=?_) rfl (by kernel_rfl) (by kernel_rfl) (by kernel_rfl) (fun _ _ _ h=>h) (Or.inl ⟨by rfl,?_⟩) (by assumption) ?_
  case refine_2 =>
   intro w hSw
   try dsimp only at hSw
   go_simp
   try with_reducible rfl
  simp only[Act.put,sA,sB,sC]
  refine wpAnyH_take (i:=7) (oi:={ dst:=some 20,op:=_,type:=_,pos:=_,after:=_,guard:=_ }) (v:=?_) rfl (by kernel_rfl) (by kernel_rfl) (by kernel_rfl) (fun _ _ _ h=>h) (Or.inl ⟨by rfl,?_⟩) (by assumption) ?_
  case refine_2 =>
   intro w hSw
   try dsimp only at hSw
   go_simp
   try with_reducible rfl
  simp only[Act.put,sA,sB,sC]
  refine wpAnyH_take (i:=8) (oi:={ dst:=some 21,op:=_,type:=_,pos:=_,after:=_,guard:=_ }) (v:=?_) rfl (by kernel_rfl) (by kernel_rfl) (by kernel_rfl) (fun _ _ _ h=>h) (Or.inl ⟨by rfl,?_⟩) (by assumption) ?_
  case refine_2 =>
   intro w hSw
   try dsimp only at hSw
   go_simp
   try with_reducible rfl
  simp only[Act.put,sA,sB,sC]
  refine wpAnyH_take (i:=9) (oi:={ dst:=some 22,op:=_,type:=_,pos:=_,after:=_,guard:=_ }) (v:=?_) rfl (by kernel_rfl) (by kernel_rfl) (by kernel_rfl) (fun _ _ _ h=>h) (Or.inl ⟨by rfl,?_⟩) (by assumption) ?_
  case refine_2 =>
   intro w hSw
   try dsimp only at hSw
   go_simp
   try with_reducible rfl
  simp only[Act.put,sA,sB,sC]
  refine wpAnyH_take (i:=10) (oi:={ dst:=some 23,op:=_,type:=_,pos:=_,after:=_,guard:=_ }) (v:=?_) rfl (by kernel_rfl) (by kernel_rfl) (by kernel_rfl) (fun _ _ _ h=>h) (Or.inl ⟨by rfl,?_⟩) (by assumption) ?_
  case refine_2 =>
   intro w hSw
   try dsimp only at hSw
   go_simp
   try with_reducible rfl
  simp only[Act.put,sA,sB,sC]
  refine wpAnyH_take (i:=11) (oi:={ dst:=some 24,op:=_,type:=_,pos:=_,after:=_,guard:=_ }) (v:=?_) rfl (by kernel_rfl) (by kernel_rfl) (by kernel_rfl) (fun _ _ _ h=>h) (Or.inl ⟨by rfl,?_⟩) (by assumption) ?_
  case refine_2 =>
   intro w hSw
   try dsimp only at hSw
   go_simp
   try with_reducible rfl
  simp only[Act.put,sA,sB,sC]
  refine wpAnyH_take (i:=12) (oi:={ dst:=some 4,op:=_,type:=_,pos:=_,after:=_,guard:=_ }) (v:=?_) rfl (by kernel_rfl) (by kernel_rfl) (by kernel_rfl) (fun _ _ _ h=>h) (Or.inl ⟨by rfl,?_⟩) (by assumption) ?_
  case refine_2 =>
   intro w hSw
   try dsimp only at hSw
   go_simp
   try with_reducible rfl
  simp only[Act.put,sA,sB,sC]
  refine wpAnyH_done (by kernel_rfl) ?_ _
  go_wp2_with fail
  go_ret
  refine⟨Below.drew ((Below.refl _ _).alloc (Nat.le_refl _) _),_,_,rfl,by have:=za HCF;have:=za HBL;omega,fun hp=>?_⟩
  rcases(za HFL).2 with ⟨q,q2⟩ | ⟨g2,cap2,_,q,_⟩
  ·have:=za HBL
   omega
  ·cases q
   exact⟨g2,_,rfl,by simp[Addr.add];intro hh;omega,rfl⟩
structure Few (P:PHp):Prop where
 y:(zg P.Y).length≤10000000
 o:(zg P.O).length≤10000000
theorem HpAt.young {B:Nat} {w:World} {h mb:Nat} {P:PHp} {vyo vyf voo vof vn:Value} (k:HpAt B w h mb P vyo vyf voo vof vn) (hf:Few P):PtAt B w h 0 P.Y vyo vyf:=⟨zd k.blk 1,zd k.blk 2,k.yo,k.yf,hf.y⟩
theorem HpAt.old {B:Nat} {w:World} {h mb:Nat} {P:PHp} {vyo vyf voo vof vn:Value} (k:HpAt B w h mb P vyo vyf voo vof vn) (hf:Few P):PtAt B w h 3 P.O voo vof:=⟨zd k.blk 4,zd k.blk 5,k.oo,k.of',hf.o⟩
def aa5 (P:PHp):Option (Bool×Nat)→Option (Nat×HO)
 | some (true,i)=>P.Y[i]?.map fun x=>(zm P.Y i,x)
 | some (false,i)=>P.O[i]?.map fun x=>(zm P.O i,x)
 | none=>none
def ae9:HO:=⟨0,0,0,[],false⟩
def adi:Option (Nat×HO)→Value
 | some (b,x)=>.agg (aaz b x).toArray
 | none=>.agg (aaz 0 ae9).toArray
def ObjPost (P:PHp) (a:Int) (w:World) (e:Ending) (w':World):Prop:=∃r,Found P a r∧e=.returned (adi (aa5 P r))∧Below w.heap.size w w'
theorem ac7 {B:Nat} {w:World} {h mb:Nat} {P:PHp} {vyo vyf voo vof vn:Value} (k:HpAt B w h mb P vyo vyf voo vof vn) (hs:Small P) (hfw:Few P) {a:Int} (ha:I64 a) :
  Calls prog 42 #[.pointer (some ⟨h,0,none⟩),.int .i64 a] w fun e w'=>ObjPost P a w e w':=by
 have K:=zc k
 have HS:=zc hs
 have HFW:=zc hfw
 have HBA:=zc (fun o=>(Below.refl w.heap.size w).alloc (Nat.le_refl _) o)
 clear k hs hfw
 go_enter func42,ntmps42
 go_wp2_with fail
 refine(aeg ((za K).keep (za HBA _)) (za HS) ha).mono ?_
 rintro e w1 ⟨r,hr,rfl,hb1⟩
 have hk:=(hb1.block w.heap.size (by simp)).trans (aan w _)
 have k0:=zd hk 0
 have f0:=zt hk 0
 have k1:=zd hk 1
 have f1:=zt hk 1
 have k2:=zd hk 2
 have f2:=zt hk 2
 have k3:=zd hk 3
 have f3:=zt hk 3
 have k4:=zd hk 4
 have f4:=zt hk 4
 have k5:=zd hk 5
 have f5:=zt hk 5
 have HB:=zc ((za HBA _).trans (hb1.mono (by simp)))
 have HK:=zc hk
 clear hb1 hk ha
 cases r,hr using Found.parts with
 | young i hi he =>
  obtain⟨x,hx⟩:∃x,P.Y[i]?=some x:=⟨P.Y[i],List.getElem?_eq_getElem hi⟩
  obtain⟨g,cap,hvo,a0,a1,a2,a3,a4,a5⟩:=(((za K).keep (za HB)).young (za HFW)).obj hx
  subst hvo
  have c1:w1.cell? ⟨h,1,none⟩=some (.slice (some ⟨g,0,none⟩) P.Y.length cap):=(((za K).keep (za HB)).young (za HFW)).c1
  have hi2:(i:Int)<(P.Y.length:Int):=by omega
  have HF:=zc (show Found P a (some (true,i)) from .young i hi he)
  have HX:=zc hx
  clear hi he hx
  simp only[adm]
  go_wp2_with fail
  have hz:=(aad (aad (aad (aad (aad (aad (za HK) 0 (.int .i64 x.kind)) 1 (.int .i64 x.tag)) 2 (.int .i64 x.id)) 3 (.int .i64 (zm P.Y i))) 4 (.int .i64 x.fs.length)) 5 (.bool x.noted))
  have HBZ:=(((((((za HB).setCell (p:=⟨w.heap.size,0,none⟩) (Nat.le_refl _) (.int .i64 x.kind)).setCell (p:=⟨w.heap.size,1,none⟩) (Nat.le_refl _) (.int .i64 x.tag)).setCell (p:=⟨w.heap.size,2,none⟩) (Nat.le_refl _) (.int .i64 x.id)).setCell (p:=⟨w.heap.size,3,none⟩) (Nat.le_refl _) (.int .i64 (zm P.Y i))).setCell (p:=⟨w.heap.size,4,none⟩) (Nat.le_refl _) (.int .i64 x.fs.length)).setCell (p:=⟨w.heap.size,5,none⟩) (Nat.le_refl _) (.bool x.noted))
  generalize ((((((w1.setCell ⟨w.heap.size,0,none⟩ (.int .i64 x.kind)).setCell ⟨w.heap.size,1,none⟩ (.int .i64 x.tag)).setCell ⟨w.heap.size,2,none⟩ (.int .i64 x.id)).setCell ⟨w.heap.size,3,none⟩ (.int .i64 (zm P.Y i))).setCell ⟨w.heap.size,4,none⟩ (.int .i64 x.fs.length)).setCell ⟨w.heap.size,5,none⟩ (.bool x.noted))=wz at *
  clear k0 f0 k1 f1 k2 f2 k3 f3 k4 f4 k5 f5
  refine bodyPost_ret (v:=.agg #[.int .i64 x.kind,.int .i64 x.tag,.int .i64 x.id,.int .i64 (zm P.Y i),.int .i64 x.fs.length,.bool x.noted]) (results_cell_row Tryz.results42 _ _ w.heap.size 61 _ (0,0) _ rfl hz underlying61 rfl (by kernel_rfl)) rfl ?_
  exact⟨_,za HF,by simp[aa5,za HX,adi,aaz],HBZ⟩
 | old i hi he =>
  obtain⟨x,hx⟩:∃x,P.O[i]?=some x:=⟨P.O[i],List.getElem?_eq_getElem hi⟩
  obtain⟨g,cap,hvo,a0,a1,a2,a3,a4,a5⟩:=(((za K).keep (za HB)).old (za HFW)).obj hx
  subst hvo
  have c1:w1.cell? ⟨h,4,none⟩=some (.slice (some ⟨g,0,none⟩) P.O.length cap):=(((za K).keep (za HB)).old (za HFW)).c1
  have hi2:(i:Int)<(P.O.length:Int):=by omega
  have HF:=zc (show Found P a (some (false,i)) from .old i hi he)
  have HX:=zc hx
  clear hi he hx
  simp only[adm]
  go_wp2_with fail
  have hz:=(aad (aad (aad (aad (aad (aad (za HK) 0 (.int .i64 x.kind)) 1 (.int .i64 x.tag)) 2 (.int .i64 x.id)) 3 (.int .i64 (zm P.O i))) 4 (.int .i64 x.fs.length)) 5 (.bool x.noted))
  have HBZ:=(((((((za HB).setCell (p:=⟨w.heap.size,0,none⟩) (Nat.le_refl _) (.int .i64 x.kind)).setCell (p:=⟨w.heap.size,1,none⟩) (Nat.le_refl _) (.int .i64 x.tag)).setCell (p:=⟨w.heap.size,2,none⟩) (Nat.le_refl _) (.int .i64 x.id)).setCell (p:=⟨w.heap.size,3,none⟩) (Nat.le_refl _) (.int .i64 (zm P.O i))).setCell (p:=⟨w.heap.size,4,none⟩) (Nat.le_refl _) (.int .i64 x.fs.length)).setCell (p:=⟨w.heap.size,5,none⟩) (Nat.le_refl _) (.bool x.noted))
  generalize ((((((w1.setCell ⟨w.heap.size,0,none⟩ (.int .i64 x.kind)).setCell ⟨w.heap.size,1,none⟩ (.int .i64 x.tag)).setCell ⟨w.heap.size,2,none⟩ (.int .i64 x.id)).setCell ⟨w.heap.size,3,none⟩ (.int .i64 (zm P.O i))).setCell ⟨w.heap.size,4,none⟩ (.int .i64 x.fs.length)).setCell ⟨w.heap.size,5,none⟩ (.bool x.noted))=wz at *
  clear k0 f0 k1 f1 k2 f2 k3 f3 k4 f4 k5 f5
  refine bodyPost_ret (v:=.agg #[.int .i64 x.kind,.int .i64 x.tag,.int .i64 x.id,.int .i64 (zm P.O i),.int .i64 x.fs.length,.bool x.noted]) (results_cell_row Tryz.results42 _ _ w.heap.size 61 _ (0,0) _ rfl hz underlying61 rfl (by kernel_rfl)) rfl ?_
  exact⟨_,za HF,by simp[aa5,za HX,adi,aaz],HBZ⟩
 | none hy ho =>
  have HF:=zc (show Found P a none from .none hy ho)
  clear hy ho
  simp only[adm]
  go_wp2_with fail
  have hz:=(aad (aad (aad (aad (aad (aad (za HK) 0 (.int .i64 0)) 1 (.int .i64 0)) 2 (.int .i64 0)) 3 (.int .i64 0)) 4 (.int .i64 0)) 5 (.bool false))
  have HBZ:=(((((((za HB).setCell (p:=⟨w.heap.size,0,none⟩) (Nat.le_refl _) (.int .i64 0)).setCell (p:=⟨w.heap.size,1,none⟩) (Nat.le_refl _) (.int .i64 0)).setCell (p:=⟨w.heap.size,2,none⟩) (Nat.le_refl _) (.int .i64 0)).setCell (p:=⟨w.heap.size,3,none⟩) (Nat.le_refl _) (.int .i64 0)).setCell (p:=⟨w.heap.size,4,none⟩) (Nat.le_refl _) (.int .i64 0)).setCell (p:=⟨w.heap.size,5,none⟩) (Nat.le_refl _) (.bool false))
  generalize ((((((w1.setCell ⟨w.heap.size,0,none⟩ (.int .i64 0)).setCell ⟨w.heap.size,1,none⟩ (.int .i64 0)).setCell ⟨w.heap.size,2,none⟩ (.int .i64 0)).setCell ⟨w.heap.size,3,none⟩ (.int .i64 0)).setCell ⟨w.heap.size,4,none⟩ (.int .i64 0)).setCell ⟨w.heap.size,5,none⟩ (.bool false))=wz at *
  clear k0 f0 k1 f1 k2 f2 k3 f3 k4 f4 k5 f5
  refine bodyPost_ret (v:=.agg #[.int .i64 0,.int .i64 0,.int .i64 0,.int .i64 0,.int .i64 0,.bool false]) (results_cell_row Tryz.results42 _ _ w.heap.size 61 _ (0,0) _ rfl hz underlying61 rfl (by kernel_rfl)) rfl ?_
  exact⟨_,za HF,by simp[aa5,adi,aaz,ae9],HBZ⟩
theorem akp {B:Nat} {w:World} {h mb:Nat} {P:PHp} {vyo vyf voo vof vn:Value} (k:HpAt B w h mb P vyo vyf voo vof vn) (hs:Small P) (hfw:Few P) {a:Int} (ha:I64 a) :
  Calls prog 21 #[.pointer (some ⟨h,0,none⟩),.int .i64 a] w fun e w'=>∃r,Found P a r∧e=.returned (.int .i64 (match aa5 P r with | some (_,x)=>x.kind | none=>0))∧Below w.heap.size w w':=by
 have hf:∀(x0 x1 x2 x3 x4:Int) (x5:Bool) (w:World),(Go.Instr.field 61 (.agg #[.int .i64 x0,.int .i64 x1,.int .i64 x2,.int .i64 x3,.int .i64 x4,.bool x5]) 0).run prog w=.ok (.int .i64 x0) w:=fun _ _ _ _ _ _ w=>by kernel_rfl
 go_enter func21,ntmps21
 go_wp2_with fail
 refine(ac7 k hs hfw ha).mono ?_
 rintro e w1 ⟨r,hr,rfl,hb1⟩
 have HB:=zc hb1
 have HR:=zc hr
 clear hb1 hr
 cases hx:aa5 P r with
 | none =>
  simp only[adi,aaz,ae9]
  go_wp2_with fail
  go_ret
  exact⟨r,za HR,by rw[hx];rfl,za HB⟩
 | some bx =>
  obtain⟨b,x⟩:=bx
  simp only[adi,aaz]
  go_wp2_with fail
  go_ret
  exact⟨r,za HR,by rw[hx];rfl,za HB⟩
def adu:Value:=.agg #[.int .i64 0,.int .i64 0,.string ⟨#[]⟩]
def ac8 (n:Int):Value:=.iface 29 (.int .i64 n)
def acx (o:Option (Nat×HO)) (i:Int):Value:=match o with
 | none=>.tuple #[adu,ac8 7]
 | some (_,x)=>if 0≤i then (match x.fs[i.toNat]? with
  | some v=>.tuple #[.agg #[.int .i64 v.kind,.int .i64 v.n,.string v.s],.nilIface]
  | none=>.tuple #[adu,ac8 2]) else .tuple #[adu,ac8 2]
def GetPost (P:PHp) (a i:Int) (w:World) (e:Ending) (w':World):Prop:=∃r,Found P a r∧e=.returned (acx (aa5 P r) i)∧Below w.heap.size w w'
theorem PtAt.fld {B:Nat} {w:World} {b o:Nat} {l:List HO} {vo vf:Value} (h:PtAt B w b o l vo vf) {i:Nat} {x:HO} (hx:l[i]?=some x) {k:Nat} {v:HV} (hv:x.fs[k]?=some v) {g cap:Nat} (e:vf=.slice (some ⟨g,0,none⟩) (zg l).length cap) :
  w.cell? ⟨g,zm l i*3+k*3,none⟩=some (.int .i64 v.kind)∧w.cell? ⟨g,zm l i*3+k*3+1,none⟩=some (.int .i64 v.n)∧w.cell? ⟨g,zm l i*3+k*3+2,none⟩=some (.string v.s):=by
 have hk:=(List.getElem?_eq_some_iff.1 hv).1
 have hb:=ach hx
 have hg:(zg l)[zm l i+k]?=some v:=(aef hx hk).trans hv
 have key:∀j,j<3→w.cell? ⟨g,zm l i*3+k*3+j,none⟩=(aaw v)[j]?:=fun j hj=>by
  obtain⟨g',cap',e2,_,hc,_⟩:=aa1 h.flds (j:=zm l i*3+k*3+j) (by omega)
  rw[e] at e2
  cases e2
  rw[hc,acg,show zm l i*3+k*3+j=(zm l i+k)*3+j by omega,ac6 hg hj]
 exact⟨key 0 (by omega),key 1 (by omega),key 2 (by omega)⟩
theorem aeh {B:Nat} {w:World} {h mb:Nat} {P:PHp} {vyo vyf voo vof vn:Value} (k:HpAt B w h mb P vyo vyf voo vof vn) (hs:Small P) (hfw:Few P) {a i:Int} (ha:I64 a) :
  Calls prog 25 #[.pointer (some ⟨h,0,none⟩),.int .i64 a,.int .i64 i] w fun e w'=>GetPost P a i w e w':=by
 have K:=zc k
 have HS:=zc hs
 have HFW:=zc hfw
 have HBA:=zc (fun o=>(Below.refl w.heap.size w).alloc (Nat.le_refl _) o)
 clear k hs hfw
 go_enter func25,ntmps25
 go_wp2_with fail
 refine(aeg ((za K).keep (za HBA _)) (za HS) ha).mono ?_
 rintro e W0 ⟨r,hr,rfl,hb0⟩
 have HK0:=zc ((hb0.block w.heap.size (by simp)).trans (aan w _))
 have HB0:=zc ((za HBA _).trans (hb0.mono (by simp)))
 clear hb0 ha
 cases r,hr using Found.parts with
 | young j hi he =>
  obtain⟨x,hx⟩:∃x,P.Y[j]?=some x:=⟨P.Y[j],List.getElem?_eq_getElem hi⟩
  have HF:=zc (show Found P a (some (true,j)) from .young j hi he)
  have HX:=zc hx
  clear hi he hx
  simp only[adm]
  go_wp2_with fail
  refine(ad4 (((za K).keep (za HB0)).young (za HFW)) (za HX)).mono ?_
  rintro e W1 ⟨hb1,g',cap',rfl,hcap,hg⟩
  have HB:=zc ((za HB0).trans (hb1.mono (za HB0).size))
  have hk:=(hb1.block w.heap.size (hlt (za HK0))).trans (za HK0)
  have k0:=zd hk 0
  have f0:=zt hk 0
  have k1:=zd hk 1
  have f1:=zt hk 1
  have k2:=zd hk 2
  have f2:=zt hk 2
  have HK:=zc hk
  have HG:=zc hg
  clear hb1 hk hg
  by_cases h0:i<0
  ·have HN:=zc h0
   go_wp2_with fail
   have hz:=(aad (aad (aad (za HK) 0 (.int .i64 0)) 1 (.int .i64 0)) 2 (.string ⟨#[]⟩))
   have HBZ:=((((za HB).setCell (p:=⟨w.heap.size,0,none⟩) (Nat.le_refl _) (.int .i64 0)).setCell (p:=⟨w.heap.size,1,none⟩) (Nat.le_refl _) (.int .i64 0)).setCell (p:=⟨w.heap.size,2,none⟩) (Nat.le_refl _) (.string ⟨#[]⟩))
   generalize (((W1.setCell ⟨w.heap.size,0,none⟩ (.int .i64 0)).setCell ⟨w.heap.size,1,none⟩ (.int .i64 0)).setCell ⟨w.heap.size,2,none⟩ (.string ⟨#[]⟩))=wz at *
   have z0:=zd hz 0
   have z1:=zd hz 1
   have z2:=zd hz 2
   clear hz k0 k1 k2 f0 f1 f2
   exact bodyPost_ret (v:=.tuple #[.agg #[.int .i64 0,.int .i64 0,.string ⟨#[]⟩],.iface 29 (.int .i64 2)]) (by simp[results,Tryz.results25,go_sem,z0,z1,z2]) rfl ⟨_,za HF,by simp[aa5,za HX,acx,adu,ac8];intro hh;have:=za HN;omega,HBZ⟩
  ·obtain⟨k,rfl⟩:=Int.eq_ofNat_of_zero_le (show 0≤i by omega)
   by_cases h1:k<x.fs.length
   ·have h1':¬(x.fs.length:Int)≤(k:Int):=by omega
    have h1'':(k:Int)<(x.fs.length:Int):=by omega
    obtain⟨v,hv⟩:∃v,x.fs[k]?=some v:=⟨x.fs[k],List.getElem?_eq_getElem h1⟩
    obtain⟨g,cap,hvf,rfl,rfl⟩:=(za HG) (by omega)
    obtain⟨a0,a1,a2⟩:=(((za K).keep (za HB)).young (za HFW)).fld (za HX) hv hvf
    have HV:=zc hv
    clear hv hvf
    go_wp2_with fail
    have hz:=(aad (aad (aad (za HK) 0 (.int .i64 v.kind)) 1 (.int .i64 v.n)) 2 (.string v.s))
    have HBZ:=((((za HB).setCell (p:=⟨w.heap.size,0,none⟩) (Nat.le_refl _) (.int .i64 v.kind)).setCell (p:=⟨w.heap.size,1,none⟩) (Nat.le_refl _) (.int .i64 v.n)).setCell (p:=⟨w.heap.size,2,none⟩) (Nat.le_refl _) (.string v.s))
    generalize (((W1.setCell ⟨w.heap.size,0,none⟩ (.int .i64 v.kind)).setCell ⟨w.heap.size,1,none⟩ (.int .i64 v.n)).setCell ⟨w.heap.size,2,none⟩ (.string v.s))=wz at *
    have z0:=zd hz 0
    have z1:=zd hz 1
    have z2:=zd hz 2
    clear hz k0 k1 k2 f0 f1 f2
    exact bodyPost_ret (v:=.tuple #[.agg #[.int .i64 v.kind,.int .i64 v.n,.string v.s],.nilIface]) (by simp[results,Tryz.results25,go_sem,z0,z1,z2]) rfl ⟨_,za HF,by simp[aa5,za HX,acx,za HV],HBZ⟩
   ·have h1':(x.fs.length:Int)≤(k:Int):=by omega
    have HN:=zc (show x.fs[k]?=none from List.getElem?_eq_none (by omega))
    go_wp2_with fail
    have hz:=(aad (aad (aad (za HK) 0 (.int .i64 0)) 1 (.int .i64 0)) 2 (.string ⟨#[]⟩))
    have HBZ:=((((za HB).setCell (p:=⟨w.heap.size,0,none⟩) (Nat.le_refl _) (.int .i64 0)).setCell (p:=⟨w.heap.size,1,none⟩) (Nat.le_refl _) (.int .i64 0)).setCell (p:=⟨w.heap.size,2,none⟩) (Nat.le_refl _) (.string ⟨#[]⟩))
    generalize (((W1.setCell ⟨w.heap.size,0,none⟩ (.int .i64 0)).setCell ⟨w.heap.size,1,none⟩ (.int .i64 0)).setCell ⟨w.heap.size,2,none⟩ (.string ⟨#[]⟩))=wz at *
    have z0:=zd hz 0
    have z1:=zd hz 1
    have z2:=zd hz 2
    clear hz k0 k1 k2 f0 f1 f2
    exact bodyPost_ret (v:=.tuple #[.agg #[.int .i64 0,.int .i64 0,.string ⟨#[]⟩],.iface 29 (.int .i64 2)]) (by simp[results,Tryz.results25,go_sem,z0,z1,z2]) rfl ⟨_,za HF,by simp[aa5,za HX,acx,za HN,adu,ac8],HBZ⟩
 | old j hi he =>
  obtain⟨x,hx⟩:∃x,P.O[j]?=some x:=⟨P.O[j],List.getElem?_eq_getElem hi⟩
  have HF:=zc (show Found P a (some (false,j)) from .old j hi he)
  have HX:=zc hx
  clear hi he hx
  simp only[adm]
  go_wp2_with fail
  refine(ad4 (((za K).keep (za HB0)).old (za HFW)) (za HX)).mono ?_
  rintro e W1 ⟨hb1,g',cap',rfl,hcap,hg⟩
  have HB:=zc ((za HB0).trans (hb1.mono (za HB0).size))
  have hk:=(hb1.block w.heap.size (hlt (za HK0))).trans (za HK0)
  have k0:=zd hk 0
  have f0:=zt hk 0
  have k1:=zd hk 1
  have f1:=zt hk 1
  have k2:=zd hk 2
  have f2:=zt hk 2
  have HK:=zc hk
  have HG:=zc hg
  clear hb1 hk hg
  by_cases h0:i<0
  ·have HN:=zc h0
   go_wp2_with fail
   have hz:=(aad (aad (aad (za HK) 0 (.int .i64 0)) 1 (.int .i64 0)) 2 (.string ⟨#[]⟩))
   have HBZ:=((((za HB).setCell (p:=⟨w.heap.size,0,none⟩) (Nat.le_refl _) (.int .i64 0)).setCell (p:=⟨w.heap.size,1,none⟩) (Nat.le_refl _) (.int .i64 0)).setCell (p:=⟨w.heap.size,2,none⟩) (Nat.le_refl _) (.string ⟨#[]⟩))
   generalize (((W1.setCell ⟨w.heap.size,0,none⟩ (.int .i64 0)).setCell ⟨w.heap.size,1,none⟩ (.int .i64 0)).setCell ⟨w.heap.size,2,none⟩ (.string ⟨#[]⟩))=wz at *
   have z0:=zd hz 0
   have z1:=zd hz 1
   have z2:=zd hz 2
   clear hz k0 k1 k2 f0 f1 f2
   exact bodyPost_ret (v:=.tuple #[.agg #[.int .i64 0,.int .i64 0,.string ⟨#[]⟩],.iface 29 (.int .i64 2)]) (by simp[results,Tryz.results25,go_sem,z0,z1,z2]) rfl ⟨_,za HF,by simp[aa5,za HX,acx,adu,ac8];intro hh;have:=za HN;omega,HBZ⟩
  ·obtain⟨k,rfl⟩:=Int.eq_ofNat_of_zero_le (show 0≤i by omega)
   by_cases h1:k<x.fs.length
   ·have h1':¬(x.fs.length:Int)≤(k:Int):=by omega
    have h1'':(k:Int)<(x.fs.length:Int):=by omega
    obtain⟨v,hv⟩:∃v,x.fs[k]?=some v:=⟨x.fs[k],List.getElem?_eq_getElem h1⟩
    obtain⟨g,cap,hvf,rfl,rfl⟩:=(za HG) (by omega)
    obtain⟨a0,a1,a2⟩:=(((za K).keep (za HB)).old (za HFW)).fld (za HX) hv hvf
    have HV:=zc hv
    clear hv hvf
    go_wp2_with fail
    have hz:=(aad (aad (aad (za HK) 0 (.int .i64 v.kind)) 1 (.int .i64 v.n)) 2 (.string v.s))
    have HBZ:=((((za HB).setCell (p:=⟨w.heap.size,0,none⟩) (Nat.le_refl _) (.int .i64 v.kind)).setCell (p:=⟨w.heap.size,1,none⟩) (Nat.le_refl _) (.int .i64 v.n)).setCell (p:=⟨w.heap.size,2,none⟩) (Nat.le_refl _) (.string v.s))
    generalize (((W1.setCell ⟨w.heap.size,0,none⟩ (.int .i64 v.kind)).setCell ⟨w.heap.size,1,none⟩ (.int .i64 v.n)).setCell ⟨w.heap.size,2,none⟩ (.string v.s))=wz at *
    have z0:=zd hz 0
    have z1:=zd hz 1
    have z2:=zd hz 2
    clear hz k0 k1 k2 f0 f1 f2
    exact bodyPost_ret (v:=.tuple #[.agg #[.int .i64 v.kind,.int .i64 v.n,.string v.s],.nilIface]) (by simp[results,Tryz.results25,go_sem,z0,z1,z2]) rfl ⟨_,za HF,by simp[aa5,za HX,acx,za HV],HBZ⟩
   ·have h1':(x.fs.length:Int)≤(k:Int):=by omega
    have HN:=zc (show x.fs[k]?=none from List.getElem?_eq_none (by omega))
    go_wp2_with fail
    have hz:=(aad (aad (aad (za HK) 0 (.int .i64 0)) 1 (.int .i64 0)) 2 (.string ⟨#[]⟩))
    have HBZ:=((((za HB).setCell (p:=⟨w.heap.size,0,none⟩) (Nat.le_refl _) (.int .i64 0)).setCell (p:=⟨w.heap.size,1,none⟩) (Nat.le_refl _) (.int .i64 0)).setCell (p:=⟨w.heap.size,2,none⟩) (Nat.le_refl _) (.string ⟨#[]⟩))
    generalize (((W1.setCell ⟨w.heap.size,0,none⟩ (.int .i64 0)).setCell ⟨w.heap.size,1,none⟩ (.int .i64 0)).setCell ⟨w.heap.size,2,none⟩ (.string ⟨#[]⟩))=wz at *
    have z0:=zd hz 0
    have z1:=zd hz 1
    have z2:=zd hz 2
    clear hz k0 k1 k2 f0 f1 f2
    exact bodyPost_ret (v:=.tuple #[.agg #[.int .i64 0,.int .i64 0,.string ⟨#[]⟩],.iface 29 (.int .i64 2)]) (by simp[results,Tryz.results25,go_sem,z0,z1,z2]) rfl ⟨_,za HF,by simp[aa5,za HX,acx,za HN,adu,ac8],HBZ⟩
 | none hy ho =>
  have HF:=zc (show Found P a none from .none hy ho)
  have hk:=za HK0
  have k0:=zd hk 0
  have f0:=zt hk 0
  have k1:=zd hk 1
  have f1:=zt hk 1
  have k2:=zd hk 2
  have f2:=zt hk 2
  have HK:=zc hk
  have HB:=zc (za HB0)
  clear hy ho hk
  simp only[adm]
  rename World=>W1
  go_wp2_with fail
  have hz:=(aad (aad (aad (za HK) 0 (.int .i64 0)) 1 (.int .i64 0)) 2 (.string ⟨#[]⟩))
  have HBZ:=((((za HB).setCell (p:=⟨w.heap.size,0,none⟩) (Nat.le_refl _) (.int .i64 0)).setCell (p:=⟨w.heap.size,1,none⟩) (Nat.le_refl _) (.int .i64 0)).setCell (p:=⟨w.heap.size,2,none⟩) (Nat.le_refl _) (.string ⟨#[]⟩))
  generalize (((W1.setCell ⟨w.heap.size,0,none⟩ (.int .i64 0)).setCell ⟨w.heap.size,1,none⟩ (.int .i64 0)).setCell ⟨w.heap.size,2,none⟩ (.string ⟨#[]⟩))=wz at *
  have z0:=zd hz 0
  have z1:=zd hz 1
  have z2:=zd hz 2
  clear hz k0 k1 k2 f0 f1 f2
  exact bodyPost_ret (v:=.tuple #[.agg #[.int .i64 0,.int .i64 0,.string ⟨#[]⟩],.iface 29 (.int .i64 7)]) (by simp[results,Tryz.results25,go_sem,z0,z1,z2]) rfl ⟨_,za HF,by simp[aa5,acx,adu,ac8],HBZ⟩
theorem abl {B:Nat} {w:World} {b o:Nat} {l:List HO} {vo vf:Value} (h:PtAt B w b o l vo vf) (hn:l.length≤10000000) :
  Calls prog 15 #[.pointer (some ⟨b,o,none⟩)] w fun e w'=>e=.returned (.int .i64 (l.length+(zg l).length:Nat))∧Below w.heap.size w w':=by
 obtain⟨go,co,rfl⟩:=aaa h.objs
 obtain⟨gf,cf,rfl⟩:=aaa h.flds
 have k1:=h.c1
 have k2:=h.c2
 have wr:IntKind.i64.wrap ((l.length:Int)+((zg l).length:Int))=(l.length:Int)+((zg l).length:Int):=by have:=h.few;exact aav (by omega) (by omega)
 clear h hn
 go_enter func15,ntmps15
 go_wp2_with fail
 refine wp_region_held_drew (S:=(fun w'=>w'.cell? ⟨b,o+1,none⟩=some (.slice go l.length co)∧w'.cell? ⟨b,o+2,none⟩=some (.slice gf (zg l).length cf))) (by kernel_rfl) ⟨k1,k2⟩ (fun hHeld=>?_)
 refine wpAnyH_take (i:=0) (oi:={ dst:=some 3,op:=_,type:=_,pos:=_,after:=_,guard:=_ }) (v:=?_) rfl (by kernel_rfl) (by kernel_rfl) (by kernel_rfl) (fun _ _ _ h=>h) (Or.inl ⟨by rfl,?_⟩) (by assumption) ?_
 case refine_2 =>
  intro w hSw
  try dsimp only at hSw
  go_simp
  try with_reducible rfl
 simp only[Act.put,sA,sB,sC]
 refine wpAnyH_take (i:=1) (oi:={ dst:=some 4,op:=_,type:=_,pos:=_,after:=_,guard:=_ }) (v:=?_) rfl (by kernel_rfl) (by kernel_rfl) (by kernel_rfl) (fun _ _ _ h=>h) (Or.inl ⟨by rfl,?_⟩) (by assumption) ?_
 case refine_2 =>
  intro w hSw
  try dsimp only at hSw
  go_simp
  try with_reducible rfl
 simp only[Act.put,sA,sB,sC]
 refine wpAnyH_take (i:=2) (oi:={ dst:=some 5,op:=_,type:=_,pos:=_,after:=_,guard:=_ }) (v:=?_) rfl (by kernel_rfl) (by kernel_rfl) (by kernel_rfl) (fun _ _ _ h=>h) (Or.inl ⟨by rfl,?_⟩) (by assumption) ?_
 case refine_2 =>
  intro w hSw
  try dsimp only at hSw
  go_simp
  try with_reducible rfl
 simp only[Act.put,sA,sB,sC]
 refine wpAnyH_take (i:=3) (oi:={ dst:=some 6,op:=_,type:=_,pos:=_,after:=_,guard:=_ }) (v:=?_) rfl (by kernel_rfl) (by kernel_rfl) (by kernel_rfl) (fun _ _ _ h=>h) (Or.inl ⟨by rfl,?_⟩) (by assumption) ?_
 case refine_2 =>
  intro w hSw
  try dsimp only at hSw
  go_simp
  try with_reducible rfl
 simp only[Act.put,sA,sB,sC]
 refine wpAnyH_take (i:=4) (oi:={ dst:=some 7,op:=_,type:=_,pos:=_,after:=_,guard:=_ }) (v:=?_) rfl (by kernel_rfl) (by kernel_rfl) (by kernel_rfl) (fun _ _ _ h=>h) (Or.inl ⟨by rfl,?_⟩) (by assumption) ?_
 case refine_2 =>
  intro w hSw
  try dsimp only at hSw
  go_simp
  try with_reducible rfl
 simp only[Act.put,sA,sB,sC]
 refine wpAnyH_take (i:=5) (oi:={ dst:=some 8,op:=_,type:=_,pos:=_,after:=_,guard:=_ }) (v:=?_) rfl (by kernel_rfl) (by kernel_rfl) (by kernel_rfl) (fun _ _ _ h=>h) (Or.inl ⟨by rfl,?_⟩) (by assumption) ?_
 case refine_2 =>
  intro w hSw
  try dsimp only at hSw
  go_simp
  try with_reducible rfl
 simp only[Act.put,sA,sB,sC]
 refine wpAnyH_take (i:=6) (oi:={ dst:=some 9,op:=_,type:=_,pos:=_,after:=_,guard:=_ }) (v:=?_) rfl (by kernel_rfl) (by kernel_rfl) (by kernel_rfl) (fun _ _ _ h=>h) (Or.inl ⟨by rfl,?_⟩) (by assumption) ?_
 case refine_2 =>
  intro w hSw
  try dsimp only at hSw
  go_simp
  try with_reducible rfl
 simp only[Act.put,sA,sB,sC]
 refine wpAnyH_take (i:=7) (oi:={ dst:=some 10,op:=_,type:=_,pos:=_,after:=_,guard:=_ }) (v:=?_) rfl (by kernel_rfl) (by kernel_rfl) (by kernel_rfl) (fun _ _ _ h=>h) (Or.inl ⟨by rfl,?_⟩) (by assumption) ?_
 case refine_2 =>
  intro w hSw
  try dsimp only at hSw
  go_simp
  try with_reducible rfl
 simp only[Act.put,sA,sB,sC]
 refine wpAnyH_take (i:=8) (oi:={ dst:=some 11,op:=_,type:=_,pos:=_,after:=_,guard:=_ }) (v:=?_) rfl (by kernel_rfl) (by kernel_rfl) (by kernel_rfl) (fun _ _ _ h=>h) (Or.inl ⟨by rfl,?_⟩) (by assumption) ?_
 case refine_2 =>
  intro w hSw
  try dsimp only at hSw
  go_simp
  try with_reducible rfl
 simp only[Act.put,sA,sB,sC]
 refine wpAnyH_take (i:=9) (oi:={ dst:=some 12,op:=_,type:=_,pos:=_,after:=_,guard:=_ }) (v:=?_) rfl (by kernel_rfl) (by kernel_rfl) (by kernel_rfl) (fun _ _ _ h=>h) (Or.inl ⟨by rfl,?_⟩) (by assumption) ?_
 case refine_2 =>
  intro w hSw
  try dsimp only at hSw
  go_simp
  try with_reducible rfl
 simp only[Act.put,sA,sB,sC]
 refine wpAnyH_take (i:=10) (oi:={ dst:=some 13,op:=_,type:=_,pos:=_,after:=_,guard:=_ }) (v:=?_) rfl (by kernel_rfl) (by kernel_rfl) (by kernel_rfl) (fun _ _ _ h=>h) (Or.inl ⟨by rfl,?_⟩) (by assumption) ?_
 case refine_2 =>
  intro w hSw
  try dsimp only at hSw
  go_simp
  try with_reducible rfl
 simp only[Act.put,sA,sB,sC]
 refine wpAnyH_take (i:=11) (oi:={ dst:=some 2,op:=_,type:=_,pos:=_,after:=_,guard:=_ }) (v:=?_) rfl (by kernel_rfl) (by kernel_rfl) (by kernel_rfl) (fun _ _ _ h=>h) (Or.inl ⟨by rfl,?_⟩) (by assumption) ?_
 case refine_2 =>
  intro w hSw
  try dsimp only at hSw
  go_simp
  try with_reducible rfl
 simp only[Act.put,sA,sB,sC]
 refine wpAnyH_done (by kernel_rfl) ?_ _
 go_wp2_with fail
 go_ret
 exact⟨by simp,Below.drew (Below.refl _ _)⟩
theorem adv {w:World} {b o:Nat} {f:Int} (h0:w.cell? ⟨b,o,none⟩=some (.int .i64 f)) {i:Nat} (hf:0≤f) (hs:f+2*i≤4611686018427387904) :
  Calls prog 33 #[.pointer (some ⟨b,o,none⟩),.int .i64 i] w fun e w'=>e=.returned (.int .i64 (f+2*i))∧w'=w:=by
 have w1:IntKind.i64.wrap (2*(i:Int))=2*(i:Int):=aav (by omega) (by omega)
 have w2:IntKind.i64.wrap (f+2*(i:Int))=f+2*(i:Int):=aav (by omega) (by omega)
 clear hf hs
 go_enter func33,ntmps33
 go_wp2_with fail
 go_ret
 exact⟨rfl,rfl⟩
abbrev sv (g c n:Nat):Value:=.slice (some ⟨g,0,none⟩) n c
structure Ob (w:World) (og co fg cf:Nat) (x0 x1:Int):Prop where
 o:∃cur,w.heap[og]?=some (.cells cur 61 (0,0))∧cur[0]?=some (.int .i64 2)∧cur[1]?=some (.int .i64 7)∧cur[2]?=some (.int .i64 1)∧cur[3]?=some (.int .i64 0)∧cur[4]?=some (.int .i64 2)∧cur[5]?=some (.bool false)
 f:∃cur,w.heap[fg]?=some (.cells cur 69 (0,0))∧cur[0]?=some (.int .i64 x0)∧cur[1]?=some (.int .i64 x1)∧cur[2]?=some (.string ⟨#[]⟩)∧cur[3]?=some (.int .i64 0)∧cur[4]?=some (.int .i64 0)∧cur[5]?=some (.string ⟨#[]⟩)
 co1:1≤co
 cf2:2≤cf
 ne:og≠fg
theorem Ob.keep {w w':World} {og co fg cf:Nat} {x0 x1:Int} (k:Ob w og co fg cf x0 x1) (hb:Below w.heap.size w w'):Ob w' og co fg cf x0 x1:=by
 obtain⟨⟨c,h1,h2⟩,⟨d,h3,h4⟩,h5,h6,h7⟩:=k
 exact⟨⟨c,(hb.block _ (hlt h1)).trans h1,h2⟩,⟨d,(hb.block _ (hlt h3)).trans h3,h4⟩,h5,h6,h7⟩
theorem Ob.oc {w:World} {og co fg cf:Nat} {x0 x1:Int} (k:Ob w og co fg cf x0 x1):w.cell? ⟨og,0,none⟩=some (.int .i64 2)∧w.cell? ⟨og,1,none⟩=some (.int .i64 7)∧w.cell? ⟨og,2,none⟩=some (.int .i64 1)∧w.cell? ⟨og,3,none⟩=some (.int .i64 0)∧w.cell? ⟨og,4,none⟩=some (.int .i64 2)∧w.cell? ⟨og,5,none⟩=some (.bool false):=by
 obtain⟨c,h1,h2,h3,h4,h5,h6,h7⟩:=k.o
 exact⟨(zd h1 0).trans h2,(zd h1 1).trans h3,(zd h1 2).trans h4,(zd h1 3).trans h5,(zd h1 4).trans h6,(zd h1 5).trans h7⟩
section
open Go.RowKit Go.Maps
theorem keyInt:Keyed prog 3:=int_keyed underlying3
def k1:Lit:=.int .i64 1
theorem k1_wf:(Lit.int .i64 1).wf=true:=by decide
theorem k1_key:keyOf prog 3 (.int .i64 1)=some k1:=keyOf_int_mk underlying3 k1_wf
def MapIs (w:World) (b n:Nat):Prop:=∃D:DataW Unit,w.ownsMap prog 3 (plainElem prog 3) b n D
theorem MapIs.keep {w w':World} {b n:Nat} (h:MapIs w b n) (hb:w'.heap[b]?=w.heap[b]?):MapIs w' b n:=by
 obtain⟨D,es,clock,h1,h2⟩:=h
 exact⟨D,es,clock,hb.trans h1,h2⟩
theorem MapIs.lt {w:World} {b n:Nat} (h:MapIs w b n):b<w.heap.size:=by
 obtain⟨D,h1⟩:=h
 exact h1.lt
theorem MapIs.put {w:World} {b n:Nat} (h:MapIs w b n) (hn:n≤100000) :
  ∃w',(Go.Instr.mapUpdate 48 (.map (some b)) (.int .i64 1) (.int .i64 1)).run prog w=.ok () w'∧w.grownBy w' (some b):=by
 obtain⟨D,h1⟩:=h
 obtain⟨w',hrun,_,hg⟩:=h1.update keyInt underlying48 (by unfold maxLen;omega) k1_key (plainElem_int underlying3 k1_wf)
 exact⟨w',hrun,hg⟩
theorem MapIs.made (w:World):MapIs (w.alloc (.map #[] 0)) w.heap.size 0:=⟨_,World.ownsMap_made w _ _ _⟩
theorem ab2 (w:World) (o:Obj) {n:Nat} (hn:w.heap.size=n):(w.alloc o).heap[n]?=some o:=by
 rw[←hn];exact aan w o
def NewPost (w:World) (e:Ending) (w':World):Prop:=∃h mb,e=.returned (.tuple #[.pointer (some ⟨h,0,none⟩),.nilIface])∧Below w.heap.size w w'∧Hp w' h mb (.slice none 0 0) (.slice none 0 0) 0∧MapIs w' mb 0∧w.heap.size≤h∧w.heap.size≤mb∧h≠mb
end
structure Fr (h:Nat) (w w':World):Prop where
 os:w'.os=w.os
 tape:w'.tape=w.tape
 output:w'.output=w.output
 size:w.heap.size≤w'.heap.size
 block:∀k,k<w.heap.size→k≠h→w'.heap[k]?=w.heap[k]?
theorem Fr.trans {h:Nat} {a b c:World} (x:Fr h a b) (y:Fr h b c):Fr h a c :=
 ⟨y.os.trans x.os,y.tape.trans x.tape,y.output.trans x.output,Nat.le_trans x.size y.size,fun k hk hn=>(y.block k (Nat.lt_of_lt_of_le hk x.size) hn).trans (x.block k hk hn)⟩
theorem Fr.of_below {h:Nat} {a b:World} (x:Below a.heap.size a b):Fr h a b:=⟨x.os,x.tape,x.output,x.size,fun k hk _=>x.block k hk⟩
theorem Fr.set {h:Nat} (a:World) (j:Nat) (v:Value):Fr h a (a.setCell ⟨h,j,none⟩ v):=⟨rfl,rfl,rfl,by simp[World.setCell],fun _ _ hn=>zo v hn⟩
theorem Fr.below {h:Nat} {B:Nat} {a b:World} (x:Fr h a b) (h1:B≤h) (h2:B≤a.heap.size):Below B a b:=⟨x.os,x.tape,x.output,x.size,fun k hk=>x.block k (by omega) (by omega)⟩
theorem aht:(prog.info? 61).map (fun i=>(i.zero,i.size,i.bytes))=some (some (.agg #[.int .i64 0,.int .i64 0,.int .i64 0,.int .i64 0,.int .i64 0,.bool false]),6,48):=by kernel_rfl
theorem agd:(prog.info? 69).map (fun i=>(i.zero,i.size,i.bytes))=some (some (.agg #[.int .i64 0,.int .i64 0,.string ByteArray.empty]),3,32):=by kernel_rfl
def AddPost (w:World) (h mb:Nat) (last:Int) (e:Ending) (w':World):Prop:=e=.returned (.int .i64 1)∧Fr h w w'∧∃og co fg cf,Hp w' h mb (sv og co 1) (sv fg cf 2) last∧Ob w' og co fg cf 0 0∧w.heap.size≤og∧w.heap.size≤fg
end Go.Proofs.YtpnghfghdbijlaaGreatDoor
