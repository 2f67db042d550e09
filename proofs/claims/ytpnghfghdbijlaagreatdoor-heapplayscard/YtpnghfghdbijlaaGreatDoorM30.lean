/- A part. -/
import Derived.Test.YtpnghfghdbijlaaGreatDoorM10
import Derived.Test.YtpnghfghdbijlaaGreatDoorM29
import Derived.Laws.Externs
import Derived.MapKept
import Derived.Lib.SmallJoins
open Go.Proofs.Tryz
namespace Go.Proofs.YtpnghfghdbijlaaGreatDoor
open Go.RowKit
set_option linter.unusedVariables false
set_option linter.unusedSimpArgs false
set_option maxRecDepth 100000
set_option maxHeartbeats 40000000
section
open Go.RowKit Go.Maps Go.Shelf
theorem ads {w:World} {B B':Nat} {e:TypeId} {k:Nat} {v:Value} {n:Nat} {xs:List Value} (h:w.ownsRow B e k v n xs) (hb:B'≤B):w.ownsRow B' e k v n xs:=by
 refine⟨h.1,h.2.imp id ?_⟩
 rintro ⟨g,cap,cur,h1,h2,h3⟩
 exact⟨g,cap,cur,h1,Nat.le_trans hb h2,h3⟩
theorem alk:∀(l:List HO) (b:Nat),∀u∈aa7 b l,u.oneCell'=true
 | [],_,u,hu=>by cases hu
 | x :: r,b,u,hu=>by
  rcases List.mem_append.1 hu with h | h
  ·exact aey _ _ _ _ _ _ u h
  ·exact alk r _ u h
theorem one_iv2 (l:List Int):∀u∈l.map iv,u.oneCell'=true:=fun u hu=>by
 obtain⟨x,_,rfl⟩:=List.mem_map.1 hu
 rfl
def ahr (B:Nat) (e:TypeId) (k:Nat) (n:Nat) (xs:List Value) (w:World) (en:Ending) (w':World):Prop:=∃v',en=.returned v'∧w'.ownsRow w.heap.size e k v' n xs∧Below w.heap.size w w'
theorem ann {B:Nat} {w:World} {v:Value} {n:Nat} {xs:List Value} (h:w.ownsRow B 61 6 v n xs) (hn:n≤1000000000) (h1:∀u∈xs,u.oneCell'=true) :
  Calls prog 30 #[v] w fun e w'=>ahr B 61 6 n xs w e w':=by
 obtain⟨i0,hi,hz0,hz1,hz2⟩:=info_parts aht
 have hl:=h.1
 rcases h.2 with ⟨rfl,rfl⟩ | ⟨g,cap,cur,rfl,h2,h3,h4,h5,h6,h7⟩
 ·refine(AnyE.slices_Clone_nil Tryz.cloneO 0 0 w).mono ?_
  rintro e w' ⟨rfl,rfl⟩
  have:xs=[]:=List.eq_nil_of_length_eq_zero (by omega)
  subst this
  exact⟨_,rfl,World.ownsRow_nil _ _ _ _,Below.refl _ _⟩
 ·refine(AnyE.slices_Clone Tryz.cloneO i0 _ 6 48 hi hz0 hz1 hz2 rfl (by omega) Tryz.sizeOf61 g 0 n cap xs w hl (by unfold maxLen;omega) (by omega) (fun j u hj=>?_) h1).mono ?_
  ·have hjl:=(List.getElem?_eq_some_iff.1 hj).1
   obtain⟨g',c',e',_,q,_⟩:=aa1 h (j:=j) (by omega)
   cases e'
   rw[Nat.zero_add,q,hj]
  ·rintro e w' ⟨v',rfl,q1,q2,q3⟩
   exact⟨v',rfl,q1,q3⟩
theorem ano {B:Nat} {w:World} {v:Value} {n:Nat} {xs:List Value} (h:w.ownsRow B 69 3 v n xs) (hn:n≤1000000000) (h1:∀u∈xs,u.oneCell'=true) :
  Calls prog 31 #[v] w fun e w'=>ahr B 69 3 n xs w e w':=by
 obtain⟨i0,hi,hz0,hz1,hz2⟩:=info_parts agd
 have hl:=h.1
 rcases h.2 with ⟨rfl,rfl⟩ | ⟨g,cap,cur,rfl,h2,h3,h4,h5,h6,h7⟩
 ·refine(AnyE.slices_Clone_nil Tryz.cloneV 0 0 w).mono ?_
  rintro e w' ⟨rfl,rfl⟩
  have:xs=[]:=List.eq_nil_of_length_eq_zero (by omega)
  subst this
  exact⟨_,rfl,World.ownsRow_nil _ _ _ _,Below.refl _ _⟩
 ·refine(AnyE.slices_Clone Tryz.cloneV i0 _ 3 32 hi hz0 hz1 hz2 rfl (by omega) Tryz.sizeOf69 g 0 n cap xs w hl (by unfold maxLen;omega) (by omega) (fun j u hj=>?_) h1).mono ?_
  ·have hjl:=(List.getElem?_eq_some_iff.1 hj).1
   obtain⟨g',c',e',_,q,_⟩:=aa1 h (j:=j) (by omega)
   cases e'
   rw[Nat.zero_add,q,hj]
  ·rintro e w' ⟨v',rfl,q1,q2,q3⟩
   exact⟨v',rfl,q1,q3⟩
theorem anp {B:Nat} {w:World} {v:Value} {n:Nat} {xs:List Value} (h:w.ownsRow B 3 1 v n xs) (hn:n≤1000000000) (h1:∀u∈xs,u.oneCell'=true) :
  Calls prog 13 #[v] w fun e w'=>ahr B 3 1 n xs w e w':=by
 obtain⟨i0,hi,hz0,hz1,hz2⟩:=info_parts aei
 have hl:=h.1
 rcases h.2 with ⟨rfl,rfl⟩ | ⟨g,cap,cur,rfl,h2,h3,h4,h5,h6,h7⟩
 ·refine(AnyE.slices_Clone_nil Tryz.cloneI 0 0 w).mono ?_
  rintro e w' ⟨rfl,rfl⟩
  have:xs=[]:=List.eq_nil_of_length_eq_zero (by omega)
  subst this
  exact⟨_,rfl,World.ownsRow_nil _ _ _ _,Below.refl _ _⟩
 ·refine(AnyE.slices_Clone Tryz.cloneI i0 _ 1 8 hi hz0 hz1 hz2 rfl (by omega) Tryz.sizeOf3 g 0 n cap xs w hl (by unfold maxLen;omega) (by omega) (fun j u hj=>?_) h1).mono ?_
  ·have hjl:=(List.getElem?_eq_some_iff.1 hj).1
   obtain⟨g',c',e',_,q,_⟩:=aa1 h (j:=j) (by omega)
   cases e'
   rw[Nat.zero_add,q,hj]
  ·rintro e w' ⟨v',rfl,q1,q2,q3⟩
   exact⟨v',rfl,q1,q3⟩
theorem al0 (w:World) (b:Nat):(binOp .eql 48 (.map (some b)) (.map none)).run prog w=.ok (.bool false) w:=by kernel_rfl
theorem anq (w:World) (b:Nat):(Instr.typeAssert (.iface 48 (.map (some b))) 20 48 false).run prog w=.ok (.map (some b)) w:=by kernel_rfl
theorem ao0 {w:World} {r:Nat} {es:Array MapEntry} {clock:Nat} (t:TypeId) (hb:w.heap[r]?=some (.map es clock)) :
  (Extern.MapsClone.clone #[.iface t (.map (some r))]).run prog w=.ok (.iface t (.map (some w.heap.size))) (w.alloc (.map es clock)):=by
 have e:Extern.MapsClone.clone #[.iface t (.map (some r))]=(getObj r >>= fun o=>match o with
   | .map entries clock=>(newObj (.map entries clock) >>= fun n=>pure (.iface t (.map (some n))))
   | _ => stuck "maps.clone: a map expected") := rfl
 rw[e]
 simp[MapKept.run_getObj_map hb,Result.andThen,go_sem]
theorem anr {w:World} {b:Nat} {es:Array MapEntry} {clock:Nat} (hb:w.heap[b]?=some (.map es clock)) :
  Calls prog 14 #[.map (some b)] w fun e w'=>e=.returned (.map (some w.heap.size))∧w'=w.alloc (.map es clock):=by
 have q:=al0
 have q2:=anq
 go_enter func14,ntmps14
 go_wp2
 rw[run_callFunc_extern func32 (by kernel_rfl) (by kernel_rfl) (by kernel_rfl) (e:=Extern.MapsClone.clone) (by kernel_rfl),ao0 _ hb]
 simp only[Result.andThen]
 rw[Oper.upon_value]
 go_wp2
 go_ret
 exact⟨rfl,rfl⟩
end
section
open Go.RowKit Go.Maps
def CopiedP (l:List HO) (f:Int) (w:World) (e:Ending) (w':World):Prop :=
 ∃vo vf,e=.returned (.agg #[.int .i64 f,vo,vf])∧w'.ownsRow w.heap.size 61 6 vo l.length (aa7 0 l)∧w'.ownsRow w.heap.size 69 3 vf (zg l).length (acg l)∧Below w.heap.size w w'
theorem ag5 {w w':World} {B:Nat} {e:TypeId} {k:Nat} {v:Value} {n:Nat} {xs:List Value} (h:w.ownsRow B e k v n xs) (hb:Below w.heap.size w w'):w'.ownsRow B e k v n xs:=zs h fun j hj=>hb.block j (zp h j hj).2.1
theorem ajc {B:Nat} {w:World} {hb po:Nat} {l:List HO} {f:Int} {vo vf:Value} (h:PtAt B w hb po l vo vf) (h0:w.cell? ⟨hb,po,none⟩=some (.int .i64 f)) (hlo:l.length≤10000000) :
  Calls prog 12 #[.pointer (some ⟨hb,po,none⟩)] w fun e w'=>CopiedP l f w e w':=by
 obtain⟨go,co,hvo⟩:=aaa h.objs
 obtain⟨gf,cf,hvf⟩:=aaa h.flds
 have c1:w.cell? ⟨hb,po+1,none⟩=some (.slice go l.length co):=by rw[←hvo];exact h.c1
 have c2:w.cell? ⟨hb,po+2,none⟩=some (.slice gf (zg l).length cf):=by rw[←hvf];exact h.c2
 have hfw:=h.few
 have HBA:=zc (fun o=>(Below.refl w.heap.size w).alloc (Nat.le_refl _) o)
 have HCO:Hid (∀X,Below w.heap.size w X→Calls prog 30 #[.slice go l.length co] X fun e w'=>ahr B 61 6 l.length (aa7 0 l) X e w'):=fun X hX=>by
  rw[←hvo]
  exact ann (ag5 h.objs hX) (by omega) (alk l 0)
 have HCF:Hid (∀X,Below w.heap.size w X→Calls prog 31 #[.slice gf (zg l).length cf] X fun e w'=>ahr B 69 3 (zg l).length (acg l) X e w'):=fun X hX=>by
  rw[←hvf]
  exact ano (ag5 h.flds hX) (by omega) (aie _)
 have entO:∀w:World,Sem.run prog (callFunc 30 #[.slice go l.length co]) w=.ok (.enter 30 #[.slice go l.length co]) w:=fun _=>by kernel_rfl
 have entF:∀w:World,Sem.run prog (callFunc 31 #[.slice gf (zg l).length cf]) w=.ok (.enter 31 #[.slice gf (zg l).length cf]) w:=fun _=>by kernel_rfl
 clear h hvo hvf hfw
 go_enter func12,ntmps12
 go_wp2_with fail
 have HX1:=zc ((za HBA (.cells #[.int .i64 0,.slice none 0 0,.slice none 0 0] 47)).drew)
 have HR1:=zc (aan w (.cells #[.int .i64 0,.slice none 0 0,.slice none 0 0] 47))
 refine wp_region_held_drew (S:=fun w'=>w'.cell? ⟨hb,po,none⟩=some (.int .i64 f)∧w'.cell? ⟨hb,po+1,none⟩=some (.slice go l.length co)∧w'.cell? ⟨hb,po+2,none⟩=some (.slice gf (zg l).length cf)) (by kernel_rfl) ⟨zj (za HX1) h0 (ze h0),zj (za HX1) c1 (ze c1),zj (za HX1) c2 (ze c2)⟩ (fun hHeld=>?_)
 refine wpAnyH_take (i:=0) (oi:={ dst:=some 3,op:=_,type:=_,pos:=_,after:=_,guard:=_ }) (v:=?_) rfl (by kernel_rfl) (by kernel_rfl) (by kernel_rfl) (fun _ _ _ h=>h) (Or.inl ⟨by rfl,?_⟩) (by assumption) ?_
 case refine_2 =>
  intro w hSw
  try dsimp only at hSw
  try obtain⟨hS1,hS2,hS3⟩:=hSw
  go_simp
  try with_reducible rfl
 simp only[Act.put,sA,sB,sC]
 refine wpAnyH_take (i:=1) (oi:={ dst:=some 4,op:=_,type:=_,pos:=_,after:=_,guard:=_ }) (v:=?_) rfl (by kernel_rfl) (by kernel_rfl) (by kernel_rfl) (fun _ _ _ h=>h) (Or.inl ⟨by rfl,?_⟩) (by assumption) ?_
 case refine_2 =>
  intro w hSw
  try dsimp only at hSw
  try obtain⟨hS1,hS2,hS3⟩:=hSw
  go_simp
  try with_reducible rfl
 simp only[Act.put,sA,sB,sC]
 refine wpAnyH_take (i:=2) (oi:={ dst:=some 5,op:=_,type:=_,pos:=_,after:=_,guard:=_ }) (v:=?_) rfl (by kernel_rfl) (by kernel_rfl) (by kernel_rfl) (fun _ _ _ h=>h) (Or.inl ⟨by rfl,?_⟩) (by assumption) ?_
 case refine_2 =>
  intro w hSw
  try dsimp only at hSw
  try obtain⟨hS1,hS2,hS3⟩:=hSw
  go_simp
  try with_reducible rfl
 simp only[Act.put,sA,sB,sC]
 refine wpAnyH_take (i:=3) (oi:={ dst:=some 6,op:=_,type:=_,pos:=_,after:=_,guard:=_ }) (v:=?_) rfl (by kernel_rfl) (by kernel_rfl) (by kernel_rfl) (fun _ _ _ h=>h) (Or.inl ⟨by rfl,?_⟩) (by assumption) ?_
 case refine_2 =>
  intro w hSw
  try dsimp only at hSw
  try obtain⟨hS1,hS2,hS3⟩:=hSw
  go_simp
  try with_reducible rfl
 simp only[Act.put,sA,sB,sC]
 refine wpAnyH_take (i:=4) (oi:={ dst:=some 7,op:=_,type:=_,pos:=_,after:=_,guard:=_ }) (v:=?_) rfl (by kernel_rfl) (by kernel_rfl) (by kernel_rfl) (fun _ _ _ h=>h) (Or.inl ⟨by rfl,?_⟩) (by assumption) ?_
 case refine_2 =>
  intro w hSw
  try dsimp only at hSw
  try obtain⟨hS1,hS2,hS3⟩:=hSw
  go_simp
  try with_reducible rfl
 simp only[Act.put,sA,sB,sC]
 refine wpAnyH_take (i:=5) (oi:={ dst:=some 8,op:=_,type:=_,pos:=_,after:=_,guard:=_ }) (v:=?_) rfl (by kernel_rfl) (by kernel_rfl) (by kernel_rfl) (fun _ _ _ h=>h) (Or.inl ⟨by rfl,?_⟩) (by assumption) ?_
 case refine_2 =>
  intro w hSw
  try dsimp only at hSw
  try obtain⟨hS1,hS2,hS3⟩:=hSw
  go_simp
  try with_reducible rfl
 simp only[Act.put,sA,sB,sC]
 refine wpAnyH_take (i:=6) (oi:={ dst:=some 9,op:=_,type:=_,pos:=_,after:=_,guard:=_ }) (v:=?_) rfl (by kernel_rfl) (by kernel_rfl) (by kernel_rfl) (fun _ _ _ h=>h) (Or.inl ⟨by rfl,?_⟩) (by assumption) ?_
 case refine_2 =>
  intro w hSw
  try dsimp only at hSw
  try obtain⟨hS1,hS2,hS3⟩:=hSw
  go_simp
  try with_reducible rfl
 simp only[Act.put,sA,sB,sC]
 refine wpAnyH_take (i:=7) (oi:={ dst:=some 10,op:=_,type:=_,pos:=_,after:=_,guard:=_ }) (v:=?_) rfl (by kernel_rfl) (by kernel_rfl) (by kernel_rfl) (fun _ _ _ h=>h) (Or.inl ⟨by rfl,?_⟩) (by assumption) ?_
 case refine_2 =>
  intro w hSw
  try dsimp only at hSw
  try obtain⟨hS1,hS2,hS3⟩:=hSw
  go_simp
  try with_reducible rfl
 simp only[Act.put,sA,sB,sC]
 refine wpAnyH_take (i:=9) (oi:={ dst:=some 12,op:=_,type:=_,pos:=_,after:=_,guard:=_ }) (v:=?_) rfl (by kernel_rfl) (by kernel_rfl) (by kernel_rfl) (fun _ _ _ h=>h) (Or.inl ⟨by rfl,?_⟩) (by assumption) ?_
 case refine_2 =>
  intro w hSw
  try dsimp only at hSw
  try obtain⟨hS1,hS2,hS3⟩:=hSw
  go_simp
  try with_reducible rfl
 simp only[Act.put,sA,sB,sC]
 refine wpAnyH_take (i:=10) (oi:={ dst:=some 13,op:=_,type:=_,pos:=_,after:=_,guard:=_ }) (v:=?_) rfl (by kernel_rfl) (by kernel_rfl) (by kernel_rfl) (fun _ _ _ h=>h) (Or.inl ⟨by rfl,?_⟩) (by assumption) ?_
 case refine_2 =>
  intro w hSw
  try dsimp only at hSw
  try obtain⟨hS1,hS2,hS3⟩:=hSw
  go_simp
  try with_reducible rfl
 simp only[Act.put,sA,sB,sC]
 refine wpAnyH_take (i:=11) (oi:={ dst:=some 14,op:=_,type:=_,pos:=_,after:=_,guard:=_ }) (v:=?_) rfl (by kernel_rfl) (by kernel_rfl) (by kernel_rfl) (fun _ _ _ h=>h) (Or.inl ⟨by rfl,?_⟩) (by assumption) ?_
 case refine_2 =>
  intro w hSw
  try dsimp only at hSw
  try obtain⟨hS1,hS2,hS3⟩:=hSw
  go_simp
  try with_reducible rfl
 simp only[Act.put,sA,sB,sC]
 refine wpAnyH_take (i:=12) (oi:={ dst:=some 15,op:=_,type:=_,pos:=_,after:=_,guard:=_ }) (v:=?_) rfl (by kernel_rfl) (by kernel_rfl) (by kernel_rfl) (fun _ _ _ h=>h) (Or.inl ⟨by rfl,?_⟩) (by assumption) ?_
 case refine_2 =>
  intro w hSw
  try dsimp only at hSw
  try obtain⟨hS1,hS2,hS3⟩:=hSw
  go_simp
  try with_reducible rfl
 simp only[Act.put,sA,sB,sC]
 refine wpAnyH_ready (rs:=[8]) (by kernel_rfl) (by simp) ?_
 refine AllReadyH.cons (o:={ dst:=some 11,op:=_,type:=_,pos:=_,after:=_,guard:=_ }) rfl (fun K hK=>?_) AllReadyH.nil
 refine aag rfl (by simp[Act.eval,entO,go_sem]) (((za HCO) _ (za HX1)).mono ?_)
 rintro e x2 ⟨vo',rfl,q1,q2⟩
 obtain⟨ga,ca,rfl⟩:=aaa q1
 have HQ1:=zc q1
 have HS2:=zc q2
 have HX2:=zc ((za HX1).trans (q2.mono (za HX1).size))
 clear q1 q2
 refine hK.out _ _ ⟨zj (za HX2) h0 (ze h0),zj (za HX2) c1 (ze c1),zj (za HX2) c2 (ze c2)⟩ (fun hHeld2=>?_)
 clear hK K
 simp only[Act.put,sA,sB,sC]
 refine wpAnyH_ready (rs:=[13]) (by kernel_rfl) (by simp) ?_
 refine AllReadyH.cons (o:={ dst:=some 16,op:=_,type:=_,pos:=_,after:=_,guard:=_ }) rfl (fun K hK=>?_) AllReadyH.nil
 refine aag rfl (by simp[Act.eval,entF,go_sem]) (((za HCF) _ (za HX2)).mono ?_)
 rintro e x3 ⟨vf',rfl,q1,q2⟩
 obtain⟨gb,cb,rfl⟩:=aaa q1
 have HQ2:=zc q1
 have HS3:=zc q2
 have HX3:=zc ((za HX2).trans (q2.mono (za HX2).size))
 clear q1 q2
 refine hK.out _ _ ⟨zj (za HX3) h0 (ze h0),zj (za HX3) c1 (ze c1),zj (za HX3) c2 (ze c2)⟩ (fun hHeld3=>?_)
 clear hK K
 simp only[Act.put,sA,sB,sC]
 refine wpAnyH_take (i:=14) (oi:={ dst:=some 17,op:=_,type:=_,pos:=_,after:=_,guard:=_ }) (v:=?_) rfl (by kernel_rfl) (by kernel_rfl) (by kernel_rfl) (fun _ _ _ h=>h) (Or.inl ⟨by rfl,?_⟩) (by assumption) ?_
 case refine_2 =>
  intro w hSw
  try dsimp only at hSw
  try obtain⟨hS1,hS2,hS3⟩:=hSw
  go_simp
  try with_reducible rfl
 simp only[Act.put,sA,sB,sC]
 have hs3:=(((za HS2).trans ((za HS3).mono (za HS2).size)).block w.heap.size (by simp[World.drew])).trans (show (w.alloc (.cells #[.int .i64 0,.slice none 0 0,.slice none 0 0] 47)).drew.heap[w.heap.size]?=_ from za HR1)
 have t0:=zd hs3 0
 have t1:=fun u=>aas (v:=u) (i:=0) (zd hs3 1) (by decide)
 have t2:=fun u u'=>aap (v:=u) (v':=u') (i:=0) (i':=1) (zd hs3 2) (by decide) (by decide)
 have y0:=zt hs3 0
 have y1:=zt hs3 1
 have y2:=zt hs3 2
 have HT:=zc hs3
 have hhb:hb≠w.heap.size:=Nat.ne_of_lt (ze h0)
 have K0:=zc (zj (za HX3) h0 (ze h0))
 have K1:=zc (zj (za HX3) c1 (ze c1))
 have K2:=zc (zj (za HX3) c2 (ze c2))
 clear hs3 h0 c1 c2
 refine wpAnyH_ready (rs:=[15]) (by kernel_rfl) (by simp) ?_
 refine AllReadyH.cons (o:={ dst:=none,op:=_,type:=_,pos:=_,after:=_,guard:=_ }) rfl (fun K hK=>?_) AllReadyH.nil
 go_simp
 have oth:∀(a b c:Value) (k:Nat),k≠w.heap.size→(((x3.setCell ⟨w.heap.size,0,none⟩ a).setCell ⟨w.heap.size,1,none⟩ b).setCell ⟨w.heap.size,2,none⟩ c).heap[k]?=x3.heap[k]?:=fun a b c k hk=>by rw[zo _ hk,zo _ hk,zo _ hk]
 refine hK.out _ _ ⟨(World.cell?_of_block (oth _ _ _ hb hhb)).trans (za K0),(World.cell?_of_block (oth _ _ _ hb hhb)).trans (za K1),(World.cell?_of_block (oth _ _ _ hb hhb)).trans (za K2)⟩ (fun _=>?_)
 clear hK K
 refine wpAnyH_done (by kernel_rfl) ?_ _
 go_wp2_with fail
 have hk3:=set3 (za HT) (.int .i64 f) (.slice ga l.length ca) (.slice gb (zg l).length cb)
 have f0:=zd hk3 0
 have f1:=zd hk3 1
 have f2:=zd hk3 2
 refine bodyPost_ret (v:=.agg #[.int .i64 f,.slice ga l.length ca,.slice gb (zg l).length cb]) (by simp[results,Tryz.results12,f0,f1,f2,go_sem]) rfl ?_
 have hn:∀{X:World} {e:TypeId} {k n:Nat} {v:Value} {xs:List Value},w.heap.size<X.heap.size→x3.ownsRow X.heap.size e k v n xs→(((x3.setCell ⟨w.heap.size,0,none⟩ (.int .i64 f)).setCell ⟨w.heap.size,1,none⟩ (.slice ga l.length ca)).setCell ⟨w.heap.size,2,none⟩ (.slice gb (zg l).length cb)).ownsRow w.heap.size e k v n xs:=fun hX h=>ads (zs h fun j hj=>oth _ _ _ j (by have:=(zp h j hj).1;omega)) (Nat.le_of_lt hX)
 refine⟨_,_,rfl,hn (by simp[World.drew]) (ag5 (za HQ1) (za HS3)),hn (Nat.lt_of_lt_of_le (by simp[World.drew]) (za HS2).size) (za HQ2),(((za HX3).setCell (Nat.le_refl _) _).setCell (Nat.le_refl _) _).setCell (Nat.le_refl _) _⟩
end
section
open Go.RowKit Go.Maps
structure Qs (q:Nat) (X X':World):Prop where
 size:X.heap.size≤X'.heap.size
 block:∀k,k<X.heap.size→k≠q→X'.heap[k]?=X.heap[k]?
theorem Qs.trans {q:Nat} {X Y Z:World} (h:Qs q X Y) (k:Qs q Y Z):Qs q X Z:=⟨Nat.le_trans h.size k.size,fun j hj hn=>(k.block j (Nat.lt_of_lt_of_le hj h.size) hn).trans (h.block j hj hn)⟩
theorem Qs.set (X:World) (q i:Nat) (v:Value):Qs q X (X.setCell ⟨q,i,none⟩ v):=⟨by simp[World.setCell],fun k _ hn=>zo _ hn⟩
theorem Qs.of {q:Nat} {X Y:World} (h:Below X.heap.size X Y):Qs q X Y:=⟨h.size,fun k hk _=>h.block k hk⟩
theorem Qs.owns {q:Nat} {X Y:World} (h:Qs q X Y) {B:Nat} {e:TypeId} {k:Nat} {v:Value} {n:Nat} {xs:List Value} (ho:X.ownsRow B e k v n xs) (hq:q<B):Y.ownsRow B e k v n xs:=zs ho fun j hj=>h.block j (zp ho j hj).2.1 (by have:=(zp ho j hj).1;omega)
theorem aqr {w w':World} {B q:Nat} {e:TypeId} {k:Nat} {v:Value} {n:Nat} {xs:List Value} (h:w.ownsRow B e k v n xs) (hq:w.heap.size=q) (hb:Below q w w'):w'.ownsRow B e k v n xs:=zs h fun j hj=>hb.block j (by have:=(zp h j hj).2.1;omega)
def CopyH (B:Nat) (P:PHp) (D:DataW Unit) (n:Nat) (w:World) (e:Ending) (w':World):Prop :=
 ∃hq mq vyo vyf voo vof vn,e=.returned (.pointer (some ⟨hq,0,none⟩))∧w.heap.size≤hq∧w.heap.size≤mq∧HpG w.heap.size w' hq mq P D n vyo vyf voo vof vn∧Below w.heap.size w w'
theorem aqs {B:Nat} {w:World} {hp mb:Nat} {P:PHp} {D:DataW Unit} {n:Nat} {vyo vyf voo vof vn:Value} (h:HpG B w hp mb P D n vyo vyf voo vof vn) (hnl:P.noted.length≤1000000) :
  Calls prog 6 #[.pointer (some ⟨hp,0,none⟩)] w fun e w'=>CopyH B P D n w e w':=by
 obtain⟨gyo,cyo,hvyo⟩:=aaa h.at'.yo
 obtain⟨gyf,cyf,hvyf⟩:=aaa h.at'.yf
 obtain⟨goo,coo,hvoo⟩:=aaa h.at'.oo
 obtain⟨gof,cof,hvof⟩:=aaa h.at'.of'
 obtain⟨gn,cn,hvn⟩:=aaa h.at'.nt
 subst hvyo hvyf hvoo hvof hvn
 have H:=zc h
 have c0:w.cell? ⟨hp,0,none⟩=some (.int .i64 P.fy):=zd h.at'.blk 0
 have c1:w.cell? ⟨hp,1,none⟩=some (.slice gyo P.Y.length cyo):=zd h.at'.blk 1
 have c2:w.cell? ⟨hp,2,none⟩=some (.slice gyf (zg P.Y).length cyf):=zd h.at'.blk 2
 have c3:w.cell? ⟨hp,3,none⟩=some (.int .i64 P.fo):=zd h.at'.blk 3
 have c4:w.cell? ⟨hp,4,none⟩=some (.slice goo P.O.length coo):=zd h.at'.blk 4
 have c5:w.cell? ⟨hp,5,none⟩=some (.slice gof (zg P.O).length cof):=zd h.at'.blk 5
 have c6:w.cell? ⟨hp,6,none⟩=some (.int .i64 P.ry):=zd h.at'.blk 6
 have c7:w.cell? ⟨hp,7,none⟩=some (.int .i64 P.ro):=zd h.at'.blk 7
 have c8:w.cell? ⟨hp,8,none⟩=some (.slice gn P.noted.length cn):=zd h.at'.blk 8
 have c9:w.cell? ⟨hp,9,none⟩=some (.map (some mb)):=zd h.at'.blk 9
 have c10:w.cell? ⟨hp,10,none⟩=some (.int .i64 P.last):=zd h.at'.blk 10
 have c11:w.cell? ⟨hp,11,none⟩=some (.int .i64 P.minors):=zd h.at'.blk 11
 have c12:w.cell? ⟨hp,12,none⟩=some (.int .i64 P.majors):=zd h.at'.blk 12
 have hc1:=h.cnt
 have hc2:=h.pot
 obtain⟨es,cl,hm,hmr⟩:=h.own
 have HM:=zc hm
 have HMR:=zc hmr
 have HPY:=zc (h.at'.young h.few)
 have HPO:=zc (h.at'.old h.few)
 have HNT:=zc h.at'.nt
 clear h hm hmr
 have ent0:∀w:World,Sem.run prog (callFunc 12 #[.pointer (some ⟨hp,0,none⟩)]) w=.ok (.enter 12 #[.pointer (some ⟨hp,0,none⟩)]) w:=fun _=>by kernel_rfl
 have ent3:∀w:World,Sem.run prog (callFunc 12 #[.pointer (some ⟨hp,3,none⟩)]) w=.ok (.enter 12 #[.pointer (some ⟨hp,3,none⟩)]) w:=fun _=>by kernel_rfl
 have entI:∀w:World,Sem.run prog (callFunc 13 #[.slice gn P.noted.length cn]) w=.ok (.enter 13 #[.slice gn P.noted.length cn]) w:=fun _=>by kernel_rfl
 have entM:∀w:World,Sem.run prog (callFunc 14 #[.map (some mb)]) w=.ok (.enter 14 #[.map (some mb)]) w:=fun _=>by kernel_rfl
 go_enter func6,ntmps6
 go_wp2_with fail
 obtain⟨x0,hx0⟩:∃x0,w.alloc (Obj.cells #[.int .i64 P.fy,.slice gyo P.Y.length cyo,.slice gyf (zg P.Y).length cyf,.int .i64 P.fo,.slice goo P.O.length coo,.slice gof (zg P.O).length cof,.int .i64 P.ry,.int .i64 P.ro,.slice gn P.noted.length cn,.map (some mb),.int .i64 P.last,.int .i64 P.minors,.int .i64 P.majors] 51)=x0:=⟨_,rfl⟩
 have hq0:x0.heap[w.heap.size]?=some (.cells (zx P (.slice gyo P.Y.length cyo) (.slice gyf (zg P.Y).length cyf) (.slice goo P.O.length coo) (.slice gof (zg P.O).length cof) (.slice gn P.noted.length cn) mb) 51 (0,0)):=by rw[←hx0];exact aan w _
 have hb0:Below w.heap.size w x0:=by rw[←hx0];exact(Below.refl _ _).alloc (Nat.le_refl _) _
 have hs0:x0.heap.size=w.heap.size+1:=by rw[←hx0];simp
 rw[hx0]
 clear hx0
 obtain⟨q,hq⟩:∃q,w.heap.size=q:=⟨_,rfl⟩
 rw[hq] at hq0
 have HX1:=zc (hb0.drew)
 have hq1:x0.drew.heap[q]?=_:=hq0
 have HQ1:=zc hq1
 have HS1:=zc (show x0.drew.heap.size=q+1 from hs0.trans (by omega))
 clear hb0 hs0 hq0 hq1
 have hqhp:hp≠q:=by have:=ze c0;have:hp<w.heap.size:=this;omega
 have e03:x0.drew.cell? ⟨hp,3,none⟩=some (.int .i64 P.fo):=zj (za HX1) c3 (ze c3)
 rw[hq]
 refine wp_region_held_drew (S:=fun _=>True) (by kernel_rfl) trivial (fun hHeld=>?_)
 refine wpAnyH_take (i:=0) (oi:={ dst:=some 9,op:=_,type:=_,pos:=_,after:=_,guard:=_ }) (v:=?_) rfl (by kernel_rfl) (by kernel_rfl) (by kernel_rfl) (fun _ _ _ h=>h) (Or.inl ⟨by rfl,?_⟩) trivial ?_
 case refine_2 =>
  intro w hSw
  try dsimp only at hSw
  try obtain⟨hS1,hS2⟩:=hSw
  go_simp
  try with_reducible rfl
 simp only[Act.put,sA,sB,sC]
 refine wpAnyH_take (i:=1) (oi:={ dst:=some 10,op:=_,type:=_,pos:=_,after:=_,guard:=_ }) (v:=?_) rfl (by kernel_rfl) (by kernel_rfl) (by kernel_rfl) (fun _ _ _ h=>h) (Or.inl ⟨by rfl,?_⟩) trivial ?_
 case refine_2 =>
  intro w hSw
  try dsimp only at hSw
  try obtain⟨hS1,hS2⟩:=hSw
  go_simp
  try with_reducible rfl
 simp only[Act.put,sA,sB,sC]
 refine wpAnyH_take (i:=2) (oi:={ dst:=some 11,op:=_,type:=_,pos:=_,after:=_,guard:=_ }) (v:=?_) rfl (by kernel_rfl) (by kernel_rfl) (by kernel_rfl) (fun _ _ _ h=>h) (Or.inl ⟨by rfl,?_⟩) trivial ?_
 case refine_2 =>
  intro w hSw
  try dsimp only at hSw
  try obtain⟨hS1,hS2⟩:=hSw
  go_simp
  try with_reducible rfl
 simp only[Act.put,sA,sB,sC]
 refine wpAnyH_take (i:=4) (oi:={ dst:=some 13,op:=_,type:=_,pos:=_,after:=_,guard:=_ }) (v:=?_) rfl (by kernel_rfl) (by kernel_rfl) (by kernel_rfl) (fun _ _ _ h=>h) (Or.inl ⟨by rfl,?_⟩) trivial ?_
 case refine_2 =>
  intro w hSw
  try dsimp only at hSw
  try obtain⟨hS1,hS2⟩:=hSw
  go_simp
  try with_reducible rfl
 simp only[Act.put,sA,sB,sC]
 refine wpAnyH_take (i:=5) (oi:={ dst:=some 14,op:=_,type:=_,pos:=_,after:=_,guard:=_ }) (v:=?_) rfl (by kernel_rfl) (by kernel_rfl) (by kernel_rfl) (fun _ _ _ h=>h) (Or.inl ⟨by rfl,?_⟩) trivial ?_
 case refine_2 =>
  intro w hSw
  try dsimp only at hSw
  try obtain⟨hS1,hS2⟩:=hSw
  go_simp
  try with_reducible rfl
 simp only[Act.put,sA,sB,sC]
 refine wpAnyH_take (i:=6) (oi:={ dst:=some 15,op:=_,type:=_,pos:=_,after:=_,guard:=_ }) (v:=?_) rfl (by kernel_rfl) (by kernel_rfl) (by kernel_rfl) (fun _ _ _ h=>h) (Or.inl ⟨by rfl,?_⟩) trivial ?_
 case refine_2 =>
  intro w hSw
  try dsimp only at hSw
  try obtain⟨hS1,hS2⟩:=hSw
  go_simp
  try with_reducible rfl
 simp only[Act.put,sA,sB,sC]
 refine wpAnyH_ready (rs:=[3]) (by kernel_rfl) (by simp) ?_
 refine AllReadyH.cons (o:={ dst:=some 12,op:=_,type:=_,pos:=_,after:=_,guard:=_ }) rfl (fun K hK=>?_) AllReadyH.nil
 refine aag rfl (by simp[Act.eval,ent0,go_sem]) ((ajc ((za HPY).keep (za HX1)) (zj (za HX1) c0 (ze c0)) (by omega)).mono ?_)
 rintro e x2 ⟨ayo,ayf,rfl,q1,q2,q3⟩
 obtain⟨g1,k1,rfl⟩:=aaa q1
 obtain⟨g2,k2,rfl⟩:=aaa q2
 have HY1:=zc q1
 have HY2:=zc q2
 have HS2:=zc q3
 have HX2:=zc ((za HX1).trans (q3.mono (za HX1).size))
 clear q1 q2 q3
 refine hK.out _ _ trivial (fun hHeld2=>?_)
 clear hK K
 simp only[Act.put,sA,sB,sC]
 refine wpAnyH_ready (rs:=[7]) (by kernel_rfl) (by simp) ?_
 refine AllReadyH.cons (o:={ dst:=some 16,op:=_,type:=_,pos:=_,after:=_,guard:=_ }) rfl (fun K hK=>?_) AllReadyH.nil
 refine aag rfl (by simp[Act.eval,ent3,go_sem]) ((ajc ((za HPO).keep (za HX2)) (zj (za HX2) c3 (ze c3)) (by omega)).mono ?_)
 rintro e x3 ⟨aoo,aof,rfl,q1,q2,q3⟩
 obtain⟨g3,k3,rfl⟩:=aaa q1
 obtain⟨g4,k4,rfl⟩:=aaa q2
 have HO1:=zc q1
 have HO2:=zc q2
 have HS3:=zc q3
 have HX3:=zc ((za HX2).trans (q3.mono (za HX2).size))
 clear q1 q2 q3
 refine hK.out _ _ trivial (fun hHeld3=>?_)
 clear hK K
 simp only[Act.put,sA,sB,sC]
 refine wpAnyH_take (i:=8) (oi:={ dst:=some 17,op:=_,type:=_,pos:=_,after:=_,guard:=_ }) (v:=?_) rfl (by kernel_rfl) (by kernel_rfl) (by kernel_rfl) (fun _ _ _ h=>h) (Or.inl ⟨by rfl,?_⟩) trivial ?_
 case refine_2 =>
  intro w hSw
  try dsimp only at hSw
  try obtain⟨hS1,hS2⟩:=hSw
  go_simp
  try with_reducible rfl
 simp only[Act.put,sA,sB,sC]
 have hq3:=(((za HS2).trans ((za HS3).mono (za HS2).size)).block q (by have:=za HS1;omega)).trans (za HQ1)
 have t0:x3.cell? ⟨q,0,none⟩=some (.int .i64 P.fy):=zd hq3 0
 have t1:=fun u=>aas (v:=u) (i:=0) (show x3.cell? ⟨q,1,none⟩=some (.slice gyo P.Y.length cyo) from zd hq3 1) (by decide)
 have t2:=fun u u'=>aap (v:=u) (v':=u') (i:=0) (i':=1) (show x3.cell? ⟨q,2,none⟩=some (.slice gyf (zg P.Y).length cyf) from zd hq3 2) (by decide) (by decide)
 have y0:=zt hq3 0
 have y1:=zt hq3 1
 have y2:=zt hq3 2
 refine wpAnyH_ready (rs:=[9]) (by kernel_rfl) (by simp) ?_
 refine AllReadyH.cons (o:={ dst:=none,op:=_,type:=_,pos:=_,after:=_,guard:=_ }) rfl (fun K hK=>?_) AllReadyH.nil
 go_simp
 obtain⟨x4,hx4⟩:∃x4,((x3.setCell ⟨q,0,none⟩ (.int .i64 P.fy)).setCell ⟨q,1,none⟩ (.slice g1 P.Y.length k1)).setCell ⟨q,2,none⟩ (.slice g2 (zg P.Y).length k2)=x4:=⟨_,rfl⟩
 have hq4:x4.heap[q]?=some (.cells (zx P (.slice g1 P.Y.length k1) (.slice g2 (zg P.Y).length k2) (.slice goo P.O.length coo) (.slice gof (zg P.O).length cof) (.slice gn P.noted.length cn) mb) 51 (0,0)):=by
  rw[←hx4,aad (aad (aad hq3 0 (.int .i64 P.fy)) 1 (.slice g1 P.Y.length k1)) 2 (.slice g2 (zg P.Y).length k2)]
  rfl
 have HQS4:Hid (Qs q x3 x4):=by rw[←hx4];exact((Qs.set _ _ _ _).trans (Qs.set _ _ _ _)).trans (Qs.set _ _ _ _)
 have HX4:Hid (Below q w x4):=by rw[←hx4];rw[←hq];exact(((za HX3).setCell (Nat.le_refl _) _).setCell (Nat.le_refl _) _).setCell (Nat.le_refl _) _
 rw[hx4]
 clear hx4 hq3 t0 t1 t2 y0 y1 y2
 refine hK.out _ _ trivial (fun hHeld4=>?_)
 clear hK K
 refine wpAnyH_take (i:=10) (oi:={ dst:=some 18,op:=_,type:=_,pos:=_,after:=_,guard:=_ }) (v:=?_) rfl (by kernel_rfl) (by kernel_rfl) (by kernel_rfl) (fun _ _ _ h=>h) (Or.inl ⟨by rfl,?_⟩) trivial ?_
 case refine_2 =>
  intro w hSw
  try dsimp only at hSw
  try obtain⟨hS1,hS2⟩:=hSw
  go_simp
  try with_reducible rfl
 simp only[Act.put,sA,sB,sC]
 have t0:x4.cell? ⟨q,3,none⟩=some (.int .i64 P.fo):=zd hq4 3
 have t1:=fun u=>aas (v:=u) (i:=3) (show x4.cell? ⟨q,4,none⟩=some (.slice goo P.O.length coo) from zd hq4 4) (by decide)
 have t2:=fun u u'=>aap (v:=u) (v':=u') (i:=3) (i':=4) (show x4.cell? ⟨q,5,none⟩=some (.slice gof (zg P.O).length cof) from zd hq4 5) (by decide) (by decide)
 have y0:=zt hq4 3
 have y1:=zt hq4 4
 have y2:=zt hq4 5
 refine wpAnyH_ready (rs:=[11]) (by kernel_rfl) (by simp) ?_
 refine AllReadyH.cons (o:={ dst:=none,op:=_,type:=_,pos:=_,after:=_,guard:=_ }) rfl (fun K hK=>?_) AllReadyH.nil
 go_simp
 obtain⟨x5,hx5⟩:∃x5,((x4.setCell ⟨q,3,none⟩ (.int .i64 P.fo)).setCell ⟨q,4,none⟩ (.slice g3 P.O.length k3)).setCell ⟨q,5,none⟩ (.slice g4 (zg P.O).length k4)=x5:=⟨_,rfl⟩
 have hq5:x5.heap[q]?=some (.cells (zx P (.slice g1 P.Y.length k1) (.slice g2 (zg P.Y).length k2) (.slice g3 P.O.length k3) (.slice g4 (zg P.O).length k4) (.slice gn P.noted.length cn) mb) 51 (0,0)):=by
  rw[←hx5,aad (aad (aad hq4 3 (.int .i64 P.fo)) 4 (.slice g3 P.O.length k3)) 5 (.slice g4 (zg P.O).length k4)]
  rfl
 have HQS5:Hid (Qs q x4 x5):=by rw[←hx5];exact((Qs.set _ _ _ _).trans (Qs.set _ _ _ _)).trans (Qs.set _ _ _ _)
 have HX5:Hid (Below q w x5):=by rw[←hx5];exact(((za HX4).setCell (Nat.le_refl _) _).setCell (Nat.le_refl _) _).setCell (Nat.le_refl _) _
 rw[hx5]
 clear hx5 hq4 t0 t1 t2 y0 y1 y2
 refine hK.out _ _ trivial (fun hHeld5=>?_)
 clear hK K
 refine wpAnyH_done (by kernel_rfl) ?_ _
 have HQ5:=zc hq5
 have hl8:=ze c8
 have hl9:=ze c9
 have hl8:hp<q:=by rw[←hq];exact hl8
 have d8:x5.cell? ⟨hp,8,none⟩=some (.slice gn P.noted.length cn):=((za HX5).cell (p:=⟨hp,8,none⟩) hl8).trans c8
 have d9:x5.cell? ⟨hp,9,none⟩=some (.map (some mb)):=((za HX5).cell (p:=⟨hp,9,none⟩) hl8).trans c9
 clear hq5 hHeld hHeld2 hHeld3 hHeld4 hHeld5
 go_wp2_with fail
 have HX6:Hid (Below q w x5.drew):=(za HX5).drew
 refine wp_region_held_drew (S:=fun w'=>w'.cell? ⟨hp,8,none⟩=some (.slice gn P.noted.length cn)∧w'.cell? ⟨hp,9,none⟩=some (.map (some mb))) (by kernel_rfl) ⟨d8,d9⟩ (fun hHeld=>?_)
 refine wpAnyH_take (i:=0) (oi:={ dst:=some 19,op:=_,type:=_,pos:=_,after:=_,guard:=_ }) (v:=?_) rfl (by kernel_rfl) (by kernel_rfl) (by kernel_rfl) (fun _ _ _ h=>h) (Or.inl ⟨by rfl,?_⟩) (by assumption) ?_
 case refine_2 =>
  intro w hSw
  try dsimp only at hSw
  try obtain⟨hS1,hS2⟩:=hSw
  go_simp
  try with_reducible rfl
 simp only[Act.put,sA,sB,sC]
 refine wpAnyH_take (i:=1) (oi:={ dst:=some 20,op:=_,type:=_,pos:=_,after:=_,guard:=_ }) (v:=?_) rfl (by kernel_rfl) (by kernel_rfl) (by kernel_rfl) (fun _ _ _ h=>h) (Or.inl ⟨by rfl,?_⟩) (by assumption) ?_
 case refine_2 =>
  intro w hSw
  try dsimp only at hSw
  try obtain⟨hS1,hS2⟩:=hSw
  go_simp
  try with_reducible rfl
 simp only[Act.put,sA,sB,sC]
 refine wpAnyH_take (i:=2) (oi:={ dst:=some 21,op:=_,type:=_,pos:=_,after:=_,guard:=_ }) (v:=?_) rfl (by kernel_rfl) (by kernel_rfl) (by kernel_rfl) (fun _ _ _ h=>h) (Or.inl ⟨by rfl,?_⟩) (by assumption) ?_
 case refine_2 =>
  intro w hSw
  try dsimp only at hSw
  try obtain⟨hS1,hS2⟩:=hSw
  go_simp
  try with_reducible rfl
 simp only[Act.put,sA,sB,sC]
 refine wpAnyH_take (i:=3) (oi:={ dst:=some 22,op:=_,type:=_,pos:=_,after:=_,guard:=_ }) (v:=?_) rfl (by kernel_rfl) (by kernel_rfl) (by kernel_rfl) (fun _ _ _ h=>h) (Or.inl ⟨by rfl,?_⟩) (by assumption) ?_
 case refine_2 =>
  intro w hSw
  try dsimp only at hSw
  try obtain⟨hS1,hS2⟩:=hSw
  go_simp
  try with_reducible rfl
 simp only[Act.put,sA,sB,sC]
 refine wpAnyH_take (i:=5) (oi:={ dst:=some 24,op:=_,type:=_,pos:=_,after:=_,guard:=_ }) (v:=?_) rfl (by kernel_rfl) (by kernel_rfl) (by kernel_rfl) (fun _ _ _ h=>h) (Or.inl ⟨by rfl,?_⟩) (by assumption) ?_
 case refine_2 =>
  intro w hSw
  try dsimp only at hSw
  try obtain⟨hS1,hS2⟩:=hSw
  go_simp
  try with_reducible rfl
 simp only[Act.put,sA,sB,sC]
 refine wpAnyH_take (i:=6) (oi:={ dst:=some 25,op:=_,type:=_,pos:=_,after:=_,guard:=_ }) (v:=?_) rfl (by kernel_rfl) (by kernel_rfl) (by kernel_rfl) (fun _ _ _ h=>h) (Or.inl ⟨by rfl,?_⟩) (by assumption) ?_
 case refine_2 =>
  intro w hSw
  try dsimp only at hSw
  try obtain⟨hS1,hS2⟩:=hSw
  go_simp
  try with_reducible rfl
 simp only[Act.put,sA,sB,sC]
 refine wpAnyH_take (i:=7) (oi:={ dst:=some 26,op:=_,type:=_,pos:=_,after:=_,guard:=_ }) (v:=?_) rfl (by kernel_rfl) (by kernel_rfl) (by kernel_rfl) (fun _ _ _ h=>h) (Or.inl ⟨by rfl,?_⟩) (by assumption) ?_
 case refine_2 =>
  intro w hSw
  try dsimp only at hSw
  try obtain⟨hS1,hS2⟩:=hSw
  go_simp
  try with_reducible rfl
 simp only[Act.put,sA,sB,sC]
 refine wpAnyH_take (i:=8) (oi:={ dst:=some 27,op:=_,type:=_,pos:=_,after:=_,guard:=_ }) (v:=?_) rfl (by kernel_rfl) (by kernel_rfl) (by kernel_rfl) (fun _ _ _ h=>h) (Or.inl ⟨by rfl,?_⟩) (by assumption) ?_
 case refine_2 =>
  intro w hSw
  try dsimp only at hSw
  try obtain⟨hS1,hS2⟩:=hSw
  go_simp
  try with_reducible rfl
 simp only[Act.put,sA,sB,sC]
 refine wpAnyH_ready (rs:=[4]) (by kernel_rfl) (by simp) ?_
 refine AllReadyH.cons (o:={ dst:=some 23,op:=_,type:=_,pos:=_,after:=_,guard:=_ }) rfl (fun K hK=>?_) AllReadyH.nil
 refine aag rfl (by simp[Act.eval,entI,go_sem]) ((anp (aqr (za HNT) hq (za HX6)) (by omega) (one_iv2 _)).mono ?_)
 rintro e x7 ⟨an,rfl,q1,q2⟩
 obtain⟨g5,k5,rfl⟩:=aaa q1
 have HN7:=zc q1
 have HS7:=zc q2
 have HX7:=zc ((za HX6).trans (q2.mono (Nat.le_trans (by rw[hq];exact Nat.le_refl _) (za HX6).size)))
 clear q1 q2
 refine hK.out _ _ ⟨((za HX7).cell (p:=⟨hp,8,none⟩) hl8).trans c8,((za HX7).cell (p:=⟨hp,9,none⟩) hl8).trans c9⟩ (fun hHeld7=>?_)
 clear hK K
 simp only[Act.put,sA,sB,sC]
 have hm7:x7.heap[mb]?=some (.map es cl):=((za HX7).block mb (by rw[←hq];exact hlt (za HM))).trans (za HM)
 refine wpAnyH_ready (rs:=[9]) (by kernel_rfl) (by simp) ?_
 refine AllReadyH.cons (o:={ dst:=some 28,op:=_,type:=_,pos:=_,after:=_,guard:=_ }) rfl (fun K hK=>?_) AllReadyH.nil
 refine aag rfl (by simp[Act.eval,entM,go_sem]) ((anr hm7).mono ?_)
 rintro e x8 ⟨rfl,hx8⟩
 have hm8:x8.heap[x7.heap.size]?=some (.map es cl):=by rw[hx8];exact aan _ _
 have HS8:Hid (Below x7.heap.size x7 x8):=by rw[hx8];exact(Below.refl _ _).alloc (Nat.le_refl _) _
 have HX8:Hid (Below q w x8):=by rw[hx8];exact(za HX7).alloc (Nat.le_trans (by rw[hq];exact Nat.le_refl _) (za HX7).size) _
 have HM8:=zc hm8
 clear hx8 hm8 hm7
 refine hK.out _ _ ⟨((za HX8).cell (p:=⟨hp,8,none⟩) hl8).trans c8,((za HX8).cell (p:=⟨hp,9,none⟩) hl8).trans c9⟩ (fun hHeld8=>?_)
 clear hK K
 simp only[Act.put,sA,sB,sC]
 refine wpAnyH_take (i:=10) (oi:={ dst:=some 29,op:=_,type:=_,pos:=_,after:=_,guard:=_ }) (v:=?_) rfl (by kernel_rfl) (by kernel_rfl) (by kernel_rfl) (fun _ _ _ h=>h) (Or.inl ⟨by rfl,?_⟩) (by assumption) ?_
 case refine_2 =>
  intro w hSw
  try dsimp only at hSw
  try obtain⟨hS1,hS2⟩:=hSw
  go_simp
  try with_reducible rfl
 simp only[Act.put,sA,sB,sC]
 have hz5:q<x5.heap.size:=hlt (za HQ5)
 have hq8:x8.heap[q]?=some (.cells (zx P (.slice g1 P.Y.length k1) (.slice g2 (zg P.Y).length k2) (.slice g3 P.O.length k3) (.slice g4 (zg P.O).length k4) (.slice gn P.noted.length cn) mb) 51 (0,0)):=(((za HS7).trans ((za HS8).mono (za HS7).size)).block q hz5).trans (za HQ5)
 have t0:x8.cell? ⟨q,8,none⟩=some (.slice gn P.noted.length cn):=zd hq8 8
 have y0:=zt hq8 8
 refine wpAnyH_ready (rs:=[11]) (by kernel_rfl) (by simp) ?_
 refine AllReadyH.cons (o:={ dst:=none,op:=_,type:=_,pos:=_,after:=_,guard:=_ }) rfl (fun K hK=>?_) AllReadyH.nil
 go_simp
 obtain⟨x9,hx9⟩:∃x9,x8.setCell ⟨q,8,none⟩ (.slice g5 P.noted.length k5)=x9:=⟨_,rfl⟩
 have hq9:x9.heap[q]?=some (.cells (zx P (.slice g1 P.Y.length k1) (.slice g2 (zg P.Y).length k2) (.slice g3 P.O.length k3) (.slice g4 (zg P.O).length k4) (.slice g5 P.noted.length k5) mb) 51 (0,0)):=by
  rw[←hx9,aad hq8 8 (.slice g5 P.noted.length k5)]
  rfl
 have HQS9:Hid (Qs q x8 x9):=by rw[←hx9];exact Qs.set _ _ _ _
 have HX9:Hid (Below q w x9):=by rw[←hx9];exact(za HX8).setCell (Nat.le_refl _) _
 rw[hx9]
 clear hx9 hq8 t0 y0
 refine hK.out _ _ ⟨((za HX9).cell (p:=⟨hp,8,none⟩) hl8).trans c8,((za HX9).cell (p:=⟨hp,9,none⟩) hl8).trans c9⟩ (fun hHeld9=>?_)
 clear hK K
 refine wpAnyH_take (i:=12) (oi:={ dst:=some 30,op:=_,type:=_,pos:=_,after:=_,guard:=_ }) (v:=?_) rfl (by kernel_rfl) (by kernel_rfl) (by kernel_rfl) (fun _ _ _ h=>h) (Or.inl ⟨by rfl,?_⟩) (by assumption) ?_
 case refine_2 =>
  intro w hSw
  try dsimp only at hSw
  try obtain⟨hS1,hS2⟩:=hSw
  go_simp
  try with_reducible rfl
 simp only[Act.put,sA,sB,sC]
 have t0:x9.cell? ⟨q,9,none⟩=some (.map (some mb)):=zd hq9 9
 have y0:=zt hq9 9
 refine wpAnyH_ready (rs:=[13]) (by kernel_rfl) (by simp) ?_
 refine AllReadyH.cons (o:={ dst:=none,op:=_,type:=_,pos:=_,after:=_,guard:=_ }) rfl (fun K hK=>?_) AllReadyH.nil
 go_simp
 obtain⟨x10,hx10⟩:∃x10,x9.setCell ⟨q,9,none⟩ (.map (some x7.heap.size))=x10:=⟨_,rfl⟩
 have hq10:x10.heap[q]?=some (.cells (zx P (.slice g1 P.Y.length k1) (.slice g2 (zg P.Y).length k2) (.slice g3 P.O.length k3) (.slice g4 (zg P.O).length k4) (.slice g5 P.noted.length k5) x7.heap.size) 51 (0,0)):=by
  rw[←hx10,aad hq9 9 (.map (some x7.heap.size))]
  rfl
 have HQS10:Hid (Qs q x9 x10):=by rw[←hx10];exact Qs.set _ _ _ _
 have HX10:Hid (Below q w x10):=by rw[←hx10];exact(za HX9).setCell (Nat.le_refl _) _
 rw[hx10]
 clear hx10 hq9 t0 y0
 refine hK.out _ _ ⟨((za HX10).cell (p:=⟨hp,8,none⟩) hl8).trans c8,((za HX10).cell (p:=⟨hp,9,none⟩) hl8).trans c9⟩ (fun hHeld10=>?_)
 clear hK K
 refine wpAnyH_done (by kernel_rfl) ?_ _
 have HQ10:=zc hq10
 clear hq10 hHeld hHeld7 hHeld8 hHeld9 hHeld10
 go_wp2_with fail
 go_ret
 have h810:Qs q x8 x10:=(za HQS9).trans (za HQS10)
 have h710:Qs q x7 x10:=(Qs.of (za HS8)).trans h810
 have h510:Qs q x5 x10:=(Qs.of (za HS7):Qs q x5.drew x7).size |> fun _=>((⟨(za HS7).size,fun k hk _=>(za HS7).block k hk⟩:Qs q x5 x7).trans h710)
 have h310:Qs q x3 x10:=((za HQS4).trans (za HQS5)).trans h510
 have h210:Qs q x2 x10:=(Qs.of (za HS3)).trans h310
 have s1:x0.drew.heap.size=q+1:=za HS1
 have s2:q+1≤x2.heap.size:=by rw[←s1];exact(za HS2).size
 have s3:x2.heap.size≤x3.heap.size:=(za HS3).size
 have s5:x3.heap.size≤x5.heap.size:=((za HQS4).trans (za HQS5)).size
 have s7:x5.heap.size≤x7.heap.size:=(za HS7).size
 have r1:=h210.owns (za HY1) (by omega)
 have r2:=h210.owns (za HY2) (by omega)
 have r3:=h310.owns (za HO1) (by omega)
 have r4:=h310.owns (za HO2) (by omega)
 have r5:=h710.owns (za HN7) (by show q<x5.heap.size;omega)
 have hm10:x10.heap[x7.heap.size]?=some (.map es cl):=(h810.block _ (hlt (za HM8)) (by omega)).trans (za HM8)
 refine⟨q,x7.heap.size,_,_,_,_,_,rfl,by omega,by omega,⟨⟨za HQ10,ads r1 (by omega),ads r2 (by omega),ads r3 (by omega),ads r4 (by omega),ads r5 (by show w.heap.size≤x5.heap.size;omega)⟩,⟨es,cl,hm10,za HMR⟩,fun j h1 h2=>?_,fun j h1 h2=>?_,(za H).small,(za H).few,(za H).two,(za H).cnt,(za H).pot,(za H).top,(za H).vals,(za HX10).size⟩,by rw[hq];exact za HX10⟩
 ·have a1:=(zp (za HY1) j h1).2.1
  have a2:=(zp (za HO1) j h2).1
  omega
 ·have a1:=(zp (za HY2) j h1).2.1
  have a2:=(zp (za HO2) j h2).1
  omega
end
section
open Go.RowKit Go.Maps
def acc (n o:Int):PHp:={ fy:=1,fo:=2,ry:=n,ro:=o,Y:=[],O:=[],noted:=[],last:=0,minors:=0,majors:=0 }
theorem HpG.new {w:World} {hp mb:Nat} {n o:Int} (hb:w.heap[hp]?=some (.cells (zx (acc n o) (.slice none 0 0) (.slice none 0 0) (.slice none 0 0) (.slice none 0 0) (.slice none 0 0) mb) 51 (0,0))) (hm:w.heap[mb]?=some (.map #[] 0)) {B:Nat} (hB:B≤w.heap.size) :
  HpG B w hp mb (acc n o) (.map []) 0 (.slice none 0 0) (.slice none 0 0) (.slice none 0 0) (.slice none 0 0) (.slice none 0 0) :=
 ⟨⟨hb,World.ownsRow_nil _ _ _ _,World.ownsRow_nil _ _ _ _,World.ownsRow_nil _ _ _ _,World.ownsRow_nil _ _ _ _,World.ownsRow_nil _ _ _ _⟩,Go.Joins.ownsMap_empty hm,fun j hj=>(by cases hj),fun j hj=>(by cases hj),⟨by simp[acc],by simp[acc],by simp[acc],by simp[acc],by simp[acc],by simp[acc]⟩,⟨by simp[acc,zg],by simp[acc,zg]⟩,by simp[acc],by simp[acc],by simp[acc,zg],by simp[acc],fun x hx=>(by cases hx),hB⟩
end
end Go.Proofs.YtpnghfghdbijlaaGreatDoor
