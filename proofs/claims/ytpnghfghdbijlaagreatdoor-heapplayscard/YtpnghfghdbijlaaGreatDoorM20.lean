/- A part. -/
import Derived.Test.YtpnghfghdbijlaaGreatDoorM09
open Go.Proofs.Tryz
namespace Go.Proofs.YtpnghfghdbijlaaGreatDoor
open Go.RowKit
set_option linter.unusedVariables false
set_option linter.unusedSimpArgs false
set_option maxRecDepth 100000
set_option maxHeartbeats 40000000
section
open Go.RowKit Go.Maps
def ade (P:PHp) (l:List (Option (Nat×Nat×HV))):MS:=aai (Go.Proofs.YtpnghfghdbijlaaGreatDoor.pot (zv (zw P) (zy l))) (zv (zw P) (zy l)) 0
def MajSz (hp mb:Nat) (mj:Int) (w w':World):Prop:=w'.cell? ⟨hp,12,none⟩=some (.int .i64 mj)∧∀k,k<w.heap.size→k≠hp→k≠mb→∀cs t fr,w.heap[k]?=some (.cells cs t fr)→∃cs',w'.heap[k]?=some (.cells cs' t fr)∧cs'.size=cs.size
theorem aos {B:Nat} {w:World} {hp mb:Nat} {P:PHp} {D:DataW Unit} {n:Nat} {vyo vyf voo vof vn:Value} (h:HpG B w hp mb P D n vyo vyf voo vof vn) {g:Option Addr} {l:List (Option (Nat×Nat×HV))} (hr:RtFree w hp mb vyo vyf voo vof g l) (cap:Nat) (hnn:n≤500000000) (hroom:(((ade P l).T.length+(zg (ade P l).T).length:Nat):Int)≤P.ro) :
  Calls prog 39 #[.pointer (some ⟨hp,0,none⟩),.slice g l.length cap] w fun e w'=>e=.returned .nilIface∧MajorPost B P D n hp mb g l w w'∧MajSz hp mb (wrap64 (P.majors+1)) w w':=by
 have H:=zc h
 have HR:=zc hr
 have HPY:=zc (h.at'.young h.few)
 have HPO:=zc (h.at'.old h.few)
 have HFO:=zc (show w.cell? ⟨hp,3,none⟩=some (.int .i64 P.fo) from zd h.at'.blk 3)
 have hly:P.Y.length≤10000000:=by have:=h.cnt;omega
 have hlo:P.O.length≤10000000:=by have:=h.cnt;omega
 have hfo0:0≤P.fo:=h.small.o0
 have hfo1:=h.small.o1
 have ent0:∀w:World,Sem.run prog (callFunc 50 #[.pointer (some ⟨hp,0,none⟩)]) w=.ok (.enter 50 #[.pointer (some ⟨hp,0,none⟩)]) w:=fun _=>by kernel_rfl
 have ent3:∀w:World,Sem.run prog (callFunc 50 #[.pointer (some ⟨hp,3,none⟩)]) w=.ok (.enter 50 #[.pointer (some ⟨hp,3,none⟩)]) w:=fun _=>by kernel_rfl
 have entn:∀w:World,Sem.run prog (callFunc 56 #[.pointer (some ⟨hp,3,none⟩)]) w=.ok (.enter 56 #[.pointer (some ⟨hp,3,none⟩)]) w:=fun _=>by kernel_rfl
 have HROOM:=zc hroom
 clear h hr hroom
 go_enter func39,ntmps39
 go_wp2_with fail
 go_cut [5,6,7] (fun p q r wc=>∃l0 l1 tb wb0 wb1,p=.pointer (some ⟨l0,0,none⟩)∧q=.pointer (some ⟨l1,0,none⟩)∧r=.pointer (some ⟨tb,0,none⟩)∧MajBeg B w wc hp P vyo vyf voo vof l0 wb0 l1 wb1 tb)
 case first =>
  refine wp_region_held_drew (S:=fun _=>True) (by kernel_rfl) trivial (fun hHeld=>?_)
  refine wpAnyH_take (i:=0) (oi:={ dst:=some 11,op:=_,type:=_,pos:=_,after:=_,guard:=_ }) (v:=?_) rfl (by kernel_rfl) (by kernel_rfl) (by kernel_rfl) (fun _ _ _ h=>h) (Or.inl ⟨by rfl,?_⟩) trivial ?_
  case refine_2 =>
   intro w hSw
   try dsimp only at hSw
   go_simp
   try with_reducible rfl
  simp only[Act.put,sA,sB,sC]
  refine wpAnyH_take (i:=1) (oi:={ dst:=some 12,op:=_,type:=_,pos:=_,after:=_,guard:=_ }) (v:=?_) rfl (by kernel_rfl) (by kernel_rfl) (by kernel_rfl) (fun _ _ _ h=>h) (Or.inl ⟨by rfl,?_⟩) trivial ?_
  case refine_2 =>
   intro w hSw
   try dsimp only at hSw
   go_simp
   try with_reducible rfl
  simp only[Act.put,sA,sB,sC]
  refine wpAnyH_take (i:=2) (oi:={ dst:=some 13,op:=_,type:=_,pos:=_,after:=_,guard:=_ }) (v:=?_) rfl (by kernel_rfl) (by kernel_rfl) (by kernel_rfl) (fun _ _ _ h=>h) (Or.inl ⟨by rfl,?_⟩) trivial ?_
  case refine_2 =>
   intro w hSw
   try dsimp only at hSw
   go_simp
   try with_reducible rfl
  simp only[Act.put,sA,sB,sC]
  refine wpAnyH_take (i:=4) (oi:={ dst:=some 15,op:=_,type:=_,pos:=_,after:=_,guard:=_ }) (v:=?_) rfl (by kernel_rfl) (by kernel_rfl) (by kernel_rfl) (fun _ _ _ h=>h) (Or.inl ⟨by rfl,?_⟩) trivial ?_
  case refine_2 =>
   intro w hSw
   try dsimp only at hSw
   go_simp
   try with_reducible rfl
  simp only[Act.put,sA,sB,sC]
  refine wpAnyH_take (i:=5) (oi:={ dst:=some 16,op:=_,type:=_,pos:=_,after:=_,guard:=_ }) (v:=?_) rfl (by kernel_rfl) (by kernel_rfl) (by kernel_rfl) (fun _ _ _ h=>h) (Or.inl ⟨by rfl,?_⟩) trivial ?_
  case refine_2 =>
   intro w hSw
   try dsimp only at hSw
   go_simp
   try with_reducible rfl
  simp only[Act.put,sA,sB,sC]
  refine wpAnyH_take (i:=6) (oi:={ dst:=some 17,op:=_,type:=_,pos:=_,after:=_,guard:=_ }) (v:=?_) rfl (by kernel_rfl) (by kernel_rfl) (by kernel_rfl) (fun _ _ _ h=>h) (Or.inl ⟨by rfl,?_⟩) trivial ?_
  case refine_2 =>
   intro w hSw
   try dsimp only at hSw
   go_simp
   try with_reducible rfl
  simp only[Act.put,sA,sB,sC]
  refine wpAnyH_take (i:=8) (oi:={ dst:=some 19,op:=_,type:=_,pos:=_,after:=_,guard:=_ }) (v:=?_) rfl (by kernel_rfl) (by kernel_rfl) (by kernel_rfl) (fun _ _ _ h=>h) (Or.inl ⟨by rfl,?_⟩) trivial ?_
  case refine_2 =>
   intro w hSw
   try dsimp only at hSw
   go_simp
   try with_reducible rfl
  simp only[Act.put,sA,sB,sC]
  refine wpAnyH_take (i:=9) (oi:={ dst:=some 20,op:=_,type:=_,pos:=_,after:=_,guard:=_ }) (v:=?_) rfl (by kernel_rfl) (by kernel_rfl) (by kernel_rfl) (fun _ _ _ h=>h) (Or.inl ⟨by rfl,?_⟩) trivial ?_
  case refine_2 =>
   intro w hSw
   try dsimp only at hSw
   go_simp
   try with_reducible rfl
  simp only[Act.put,sA,sB,sC]
  refine wpAnyH_take (i:=10) (oi:={ dst:=some 21,op:=_,type:=_,pos:=_,after:=_,guard:=_ }) (v:=?_) rfl (by kernel_rfl) (by kernel_rfl) (by kernel_rfl) (fun _ _ _ h=>h) (Or.inl ⟨by rfl,?_⟩) trivial ?_
  case refine_2 =>
   intro w hSw
   try dsimp only at hSw
   go_simp
   try with_reducible rfl
  simp only[Act.put,sA,sB,sC]
  obtain⟨x0,hx0⟩:∃x0,w.drew=x0:=⟨_,rfl⟩
  have HX0:Hid (Below w.heap.size w x0):=by rw[←hx0];exact Below.drew (Below.refl _ _)
  rw[hx0]
  refine wpAnyH_ready (rs:=[3,12]) (by kernel_rfl) (by simp) ?_
  refine AllReadyH.cons (o:={ dst:=some 14,op:=_,type:=_,pos:=_,after:=_,guard:=_ }) rfl (fun K hK=>?_) ?_
  ·refine aag rfl (by simp[Act.eval,ent0,go_sem]) ((ab0 ((za HPY).keep (za HX0)) hly).mono ?_)
   rintro e x1 ⟨l0,wb0,rfl,LA0⟩
   have HX1:=zc ((za HX0).trans ((za LA0).below.mono (za HX0).size))
   have HS1:=zc (za LA0).below
   refine hK.out _ _ trivial (fun _=>?_)
   clear hK K
   simp only[Act.put,sA,sB,sC]
   refine wpAnyH_ready (rs:=[7,12]) (by kernel_rfl) (by simp) ?_
   refine AllReadyH.cons (o:={ dst:=some 18,op:=_,type:=_,pos:=_,after:=_,guard:=_ }) rfl (fun K hK=>?_) ?_
   ·refine aag rfl (by simp[Act.eval,ent3,go_sem]) ((ab0 ((za HPO).keep (za HX1)) hlo).mono ?_)
    rintro e x2 ⟨l1,wb1,rfl,LA1⟩
    have HX2:=zc ((za HX1).trans ((za LA1).below.mono (za HX1).size))
    have HS2:=zc (za LA1).below
    refine hK.out _ _ trivial (fun _=>?_)
    clear hK K
    simp only[Act.put,sA,sB,sC]
    refine wpAnyH_ready (rs:=[11,12]) (by kernel_rfl) (by simp) ?_
    refine AllReadyH.cons (o:={ dst:=some 22,op:=_,type:=_,pos:=_,after:=_,guard:=_ }) rfl (fun K hK=>?_) ?_
    ·refine aag rfl (by simp[Act.eval,entn,go_sem]) ((aca ((za HPO).keep (za HX2)) (zj (za HX2) (za HFO) (ze (za HFO))) hfo0 hfo1).mono ?_)
     rintro e x3 ⟨rfl,hbn⟩
     have HX3:=zc ((za HX2).trans (hbn.mono (za HX2).size))
     have HS3:=zc hbn
     clear hbn
     refine hK.out _ _ trivial (fun _=>?_)
     clear hK K
     simp only[Act.put,sA,sB,sC]
     refine wpAnyH_ready (rs:=[12]) (by kernel_rfl) (by simp) ?_
     refine AllReadyH.cons (o:={ dst:=some 7,op:=_,type:=_,pos:=_,after:=_,guard:=_ }) rfl (fun K hK=>?_) AllReadyH.nil
     obtain⟨x4,hx4⟩:∃x4,x3.alloc (.cells #[.int .i64 0,.slice none 0 0,.slice none 0 0] 47)=x4:=⟨_,rfl⟩
     have HS4:Hid (Below x3.heap.size x3 x4):=by rw[←hx4];exact(Below.refl _ _).alloc (Nat.le_refl _) _
     have HX4:=zc ((za HX3).trans ((za HS4).mono (za HX3).size))
     have HT:Hid (x4.heap[x3.heap.size]?=some (.cells #[.int .i64 0,.slice none 0 0,.slice none 0 0] 47 (0,0))):=by rw[←hx4];exact aan _ _
     go_simp
     refine hK.out _ _ trivial (fun _=>?_)
     clear hK K
     try simp only[Act.put,sA,sB,sC]
     refine wpAnyH_take (i:=13) (oi:={ dst:=some 5,op:=_,type:=_,pos:=_,after:=_,guard:=_ }) (v:=?_) rfl (by kernel_rfl) (by kernel_rfl) (by kernel_rfl) (fun _ _ _ h=>h) (Or.inl ⟨by rfl,?_⟩) trivial ?_
     case refine_2 =>
      intro w hSw
      try dsimp only at hSw
      go_simp
      try with_reducible rfl
     simp only[Act.put,sA,sB,sC]
     refine wpAnyH_take (i:=14) (oi:={ dst:=some 6,op:=_,type:=_,pos:=_,after:=_,guard:=_ }) (v:=?_) rfl (by kernel_rfl) (by kernel_rfl) (by kernel_rfl) (fun _ _ _ h=>h) (Or.inl ⟨by rfl,?_⟩) trivial ?_
     case refine_2 =>
      intro w hSw
      try dsimp only at hSw
      go_simp
      try with_reducible rfl
     simp only[Act.put,sA,sB,sC]
     have ht:=((Below.refl _ _).block x3.heap.size (hlt (za HT))).trans (za HT)
     have t0:=zd ht 0
     have t1:=fun u=>aas (v:=u) (i:=0) (zd ht 1) (by decide)
     have t2:=fun u u'=>aap (v:=u) (v':=u') (i:=0) (i':=1) (zd ht 2) (by decide) (by decide)
     have y0:=zt ht 0
     have y1:=zt ht 1
     have y2:=zt ht 2
     have HTT:=zc ht
     clear ht
     refine wpAnyH_ready (rs:=[15]) (by kernel_rfl) (by simp) ?_
     refine AllReadyH.cons (o:={ dst:=none,op:=_,type:=_,pos:=_,after:=_,guard:=_ }) rfl (fun K hK=>?_) AllReadyH.nil
     go_simp
     refine hK.out _ _ trivial (fun _=>?_)
     clear hK K
     refine wpAnyH_done (by kernel_rfl) ?_ _
     have hmb:=act (za H) (za LA0) (za HX0) (((za HS2).trans ((za HS3).mono (za HS2).size)).trans ((za HS4).mono ((za HS2).trans ((za HS3).mono (za HS2).size)).size)) (za LA1) (za HX1) ((za HS3).trans ((za HS4).mono (za HS3).size)) (Nat.le_refl _) (za HTT) (za HX4) (za HX3).size
     go_wp2_with fail
     go_meet
     exact⟨l0,l1,_,wb0,wb1,rfl,rfl,rfl,hmb⟩
    refine AllReadyH.cons (o:={ dst:=some 7,op:=_,type:=_,pos:=_,after:=_,guard:=_ }) rfl (fun K hK=>?_) AllReadyH.nil
    obtain⟨x3,hx3⟩:∃x3,x2.alloc (.cells #[.int .i64 0,.slice none 0 0,.slice none 0 0] 47)=x3:=⟨_,rfl⟩
    have HS3:Hid (Below x2.heap.size x2 x3):=by rw[←hx3];exact(Below.refl _ _).alloc (Nat.le_refl _) _
    have HX3:=zc ((za HX2).trans ((za HS3).mono (za HX2).size))
    have HT:Hid (x3.heap[x2.heap.size]?=some (.cells #[.int .i64 0,.slice none 0 0,.slice none 0 0] 47 (0,0))):=by rw[←hx3];exact aan _ _
    go_simp
    refine hK.out _ _ trivial (fun _=>?_)
    clear hK K
    try simp only[Act.put,sA,sB,sC]
    refine wpAnyH_ready (rs:=[11]) (by kernel_rfl) (by simp) ?_
    refine AllReadyH.cons (o:={ dst:=some 22,op:=_,type:=_,pos:=_,after:=_,guard:=_ }) rfl (fun K hK=>?_) AllReadyH.nil
    refine aag rfl (by simp[Act.eval,entn,go_sem]) ((aca ((za HPO).keep (za HX3)) (zj (za HX3) (za HFO) (ze (za HFO))) hfo0 hfo1).mono ?_)
    rintro e x4 ⟨rfl,hbn⟩
    have HX4:=zc ((za HX3).trans (hbn.mono (za HX3).size))
    have HS4:=zc hbn
    clear hbn
    refine hK.out _ _ trivial (fun _=>?_)
    clear hK K
    simp only[Act.put,sA,sB,sC]
    refine wpAnyH_take (i:=13) (oi:={ dst:=some 5,op:=_,type:=_,pos:=_,after:=_,guard:=_ }) (v:=?_) rfl (by kernel_rfl) (by kernel_rfl) (by kernel_rfl) (fun _ _ _ h=>h) (Or.inl ⟨by rfl,?_⟩) trivial ?_
    case refine_2 =>
     intro w hSw
     try dsimp only at hSw
     go_simp
     try with_reducible rfl
    simp only[Act.put,sA,sB,sC]
    refine wpAnyH_take (i:=14) (oi:={ dst:=some 6,op:=_,type:=_,pos:=_,after:=_,guard:=_ }) (v:=?_) rfl (by kernel_rfl) (by kernel_rfl) (by kernel_rfl) (fun _ _ _ h=>h) (Or.inl ⟨by rfl,?_⟩) trivial ?_
    case refine_2 =>
     intro w hSw
     try dsimp only at hSw
     go_simp
     try with_reducible rfl
    simp only[Act.put,sA,sB,sC]
    have ht:=((za HS4).block x2.heap.size (hlt (za HT))).trans (za HT)
    have t0:=zd ht 0
    have t1:=fun u=>aas (v:=u) (i:=0) (zd ht 1) (by decide)
    have t2:=fun u u'=>aap (v:=u) (v':=u') (i:=0) (i':=1) (zd ht 2) (by decide) (by decide)
    have y0:=zt ht 0
    have y1:=zt ht 1
    have y2:=zt ht 2
    have HTT:=zc ht
    clear ht
    refine wpAnyH_ready (rs:=[15]) (by kernel_rfl) (by simp) ?_
    refine AllReadyH.cons (o:={ dst:=none,op:=_,type:=_,pos:=_,after:=_,guard:=_ }) rfl (fun K hK=>?_) AllReadyH.nil
    go_simp
    refine hK.out _ _ trivial (fun _=>?_)
    clear hK K
    refine wpAnyH_done (by kernel_rfl) ?_ _
    have hmb:=act (za H) (za LA0) (za HX0) (((za HS2).trans ((za HS3).mono (za HS2).size)).trans ((za HS4).mono ((za HS2).trans ((za HS3).mono (za HS2).size)).size)) (za LA1) (za HX1) ((za HS3).trans ((za HS4).mono (za HS3).size)) (Nat.le_refl _) (za HTT) (za HX4) (za HX2).size
    go_wp2_with fail
    go_meet
    exact⟨l0,l1,_,wb0,wb1,rfl,rfl,rfl,hmb⟩
   refine AllReadyH.cons (o:={ dst:=some 7,op:=_,type:=_,pos:=_,after:=_,guard:=_ }) rfl (fun K hK=>?_) AllReadyH.nil
   obtain⟨x2,hx2⟩:∃x2,x1.alloc (.cells #[.int .i64 0,.slice none 0 0,.slice none 0 0] 47)=x2:=⟨_,rfl⟩
   have HS2:Hid (Below x1.heap.size x1 x2):=by rw[←hx2];exact(Below.refl _ _).alloc (Nat.le_refl _) _
   have HX2:=zc ((za HX1).trans ((za HS2).mono (za HX1).size))
   have HT:Hid (x2.heap[x1.heap.size]?=some (.cells #[.int .i64 0,.slice none 0 0,.slice none 0 0] 47 (0,0))):=by rw[←hx2];exact aan _ _
   go_simp
   refine hK.out _ _ trivial (fun _=>?_)
   clear hK K
   try simp only[Act.put,sA,sB,sC]
   refine wpAnyH_ready (rs:=[7]) (by kernel_rfl) (by simp) ?_
   refine AllReadyH.cons (o:={ dst:=some 18,op:=_,type:=_,pos:=_,after:=_,guard:=_ }) rfl (fun K hK=>?_) AllReadyH.nil
   refine aag rfl (by simp[Act.eval,ent3,go_sem]) ((ab0 ((za HPO).keep (za HX2)) hlo).mono ?_)
   rintro e x3 ⟨l1,wb1,rfl,LA1⟩
   have HX3:=zc ((za HX2).trans ((za LA1).below.mono (za HX2).size))
   have HS3:=zc (za LA1).below
   refine hK.out _ _ trivial (fun _=>?_)
   clear hK K
   simp only[Act.put,sA,sB,sC]
   refine wpAnyH_ready (rs:=[11]) (by kernel_rfl) (by simp) ?_
   refine AllReadyH.cons (o:={ dst:=some 22,op:=_,type:=_,pos:=_,after:=_,guard:=_ }) rfl (fun K hK=>?_) AllReadyH.nil
   refine aag rfl (by simp[Act.eval,entn,go_sem]) ((aca ((za HPO).keep (za HX3)) (zj (za HX3) (za HFO) (ze (za HFO))) hfo0 hfo1).mono ?_)
   rintro e x4 ⟨rfl,hbn⟩
   have HX4:=zc ((za HX3).trans (hbn.mono (za HX3).size))
   have HS4:=zc hbn
   clear hbn
   refine hK.out _ _ trivial (fun _=>?_)
   clear hK K
   simp only[Act.put,sA,sB,sC]
   refine wpAnyH_take (i:=13) (oi:={ dst:=some 5,op:=_,type:=_,pos:=_,after:=_,guard:=_ }) (v:=?_) rfl (by kernel_rfl) (by kernel_rfl) (by kernel_rfl) (fun _ _ _ h=>h) (Or.inl ⟨by rfl,?_⟩) trivial ?_
   case refine_2 =>
    intro w hSw
    try dsimp only at hSw
    go_simp
    try with_reducible rfl
   simp only[Act.put,sA,sB,sC]
   refine wpAnyH_take (i:=14) (oi:={ dst:=some 6,op:=_,type:=_,pos:=_,after:=_,guard:=_ }) (v:=?_) rfl (by kernel_rfl) (by kernel_rfl) (by kernel_rfl) (fun _ _ _ h=>h) (Or.inl ⟨by rfl,?_⟩) trivial ?_
   case refine_2 =>
    intro w hSw
    try dsimp only at hSw
    go_simp
    try with_reducible rfl
   simp only[Act.put,sA,sB,sC]
   have ht:=(((za HS3).trans ((za HS4).mono (za HS3).size)).block x1.heap.size (hlt (za HT))).trans (za HT)
   have t0:=zd ht 0
   have t1:=fun u=>aas (v:=u) (i:=0) (zd ht 1) (by decide)
   have t2:=fun u u'=>aap (v:=u) (v':=u') (i:=0) (i':=1) (zd ht 2) (by decide) (by decide)
   have y0:=zt ht 0
   have y1:=zt ht 1
   have y2:=zt ht 2
   have HTT:=zc ht
   clear ht
   refine wpAnyH_ready (rs:=[15]) (by kernel_rfl) (by simp) ?_
   refine AllReadyH.cons (o:={ dst:=none,op:=_,type:=_,pos:=_,after:=_,guard:=_ }) rfl (fun K hK=>?_) AllReadyH.nil
   go_simp
   refine hK.out _ _ trivial (fun _=>?_)
   clear hK K
   refine wpAnyH_done (by kernel_rfl) ?_ _
   have hmb:=act (za H) (za LA0) (za HX0) (((za HS2).trans ((za HS3).mono (za HS2).size)).trans ((za HS4).mono ((za HS2).trans ((za HS3).mono (za HS2).size)).size)) (za LA1) (za HX2) (za HS4) ((za HS2)).size (za HTT) (za HX4) (za HX1).size
   go_wp2_with fail
   go_meet
   exact⟨l0,l1,_,wb0,wb1,rfl,rfl,rfl,hmb⟩
  refine AllReadyH.cons (o:={ dst:=some 7,op:=_,type:=_,pos:=_,after:=_,guard:=_ }) rfl (fun K hK=>?_) AllReadyH.nil
  obtain⟨x1,hx1⟩:∃x1,x0.alloc (.cells #[.int .i64 0,.slice none 0 0,.slice none 0 0] 47)=x1:=⟨_,rfl⟩
  have HS1:Hid (Below x0.heap.size x0 x1):=by rw[←hx1];exact(Below.refl _ _).alloc (Nat.le_refl _) _
  have HX1:=zc ((za HX0).trans ((za HS1).mono (za HX0).size))
  have HT:Hid (x1.heap[x0.heap.size]?=some (.cells #[.int .i64 0,.slice none 0 0,.slice none 0 0] 47 (0,0))):=by rw[←hx1];exact aan _ _
  go_simp
  refine hK.out _ _ trivial (fun _=>?_)
  clear hK K
  try simp only[Act.put,sA,sB,sC]
  refine wpAnyH_ready (rs:=[3]) (by kernel_rfl) (by simp) ?_
  refine AllReadyH.cons (o:={ dst:=some 14,op:=_,type:=_,pos:=_,after:=_,guard:=_ }) rfl (fun K hK=>?_) AllReadyH.nil
  refine aag rfl (by simp[Act.eval,ent0,go_sem]) ((ab0 ((za HPY).keep (za HX1)) hly).mono ?_)
  rintro e x2 ⟨l0,wb0,rfl,LA0⟩
  have HX2:=zc ((za HX1).trans ((za LA0).below.mono (za HX1).size))
  have HS2:=zc (za LA0).below
  refine hK.out _ _ trivial (fun _=>?_)
  clear hK K
  simp only[Act.put,sA,sB,sC]
  refine wpAnyH_ready (rs:=[7]) (by kernel_rfl) (by simp) ?_
  refine AllReadyH.cons (o:={ dst:=some 18,op:=_,type:=_,pos:=_,after:=_,guard:=_ }) rfl (fun K hK=>?_) AllReadyH.nil
  refine aag rfl (by simp[Act.eval,ent3,go_sem]) ((ab0 ((za HPO).keep (za HX2)) hlo).mono ?_)
  rintro e x3 ⟨l1,wb1,rfl,LA1⟩
  have HX3:=zc ((za HX2).trans ((za LA1).below.mono (za HX2).size))
  have HS3:=zc (za LA1).below
  refine hK.out _ _ trivial (fun _=>?_)
  clear hK K
  simp only[Act.put,sA,sB,sC]
  refine wpAnyH_ready (rs:=[11]) (by kernel_rfl) (by simp) ?_
  refine AllReadyH.cons (o:={ dst:=some 22,op:=_,type:=_,pos:=_,after:=_,guard:=_ }) rfl (fun K hK=>?_) AllReadyH.nil
  refine aag rfl (by simp[Act.eval,entn,go_sem]) ((aca ((za HPO).keep (za HX3)) (zj (za HX3) (za HFO) (ze (za HFO))) hfo0 hfo1).mono ?_)
  rintro e x4 ⟨rfl,hbn⟩
  have HX4:=zc ((za HX3).trans (hbn.mono (za HX3).size))
  have HS4:=zc hbn
  clear hbn
  refine hK.out _ _ trivial (fun _=>?_)
  clear hK K
  simp only[Act.put,sA,sB,sC]
  refine wpAnyH_take (i:=13) (oi:={ dst:=some 5,op:=_,type:=_,pos:=_,after:=_,guard:=_ }) (v:=?_) rfl (by kernel_rfl) (by kernel_rfl) (by kernel_rfl) (fun _ _ _ h=>h) (Or.inl ⟨by rfl,?_⟩) trivial ?_
  case refine_2 =>
   intro w hSw
   try dsimp only at hSw
   go_simp
   try with_reducible rfl
  simp only[Act.put,sA,sB,sC]
  refine wpAnyH_take (i:=14) (oi:={ dst:=some 6,op:=_,type:=_,pos:=_,after:=_,guard:=_ }) (v:=?_) rfl (by kernel_rfl) (by kernel_rfl) (by kernel_rfl) (fun _ _ _ h=>h) (Or.inl ⟨by rfl,?_⟩) trivial ?_
  case refine_2 =>
   intro w hSw
   try dsimp only at hSw
   go_simp
   try with_reducible rfl
  simp only[Act.put,sA,sB,sC]
  have ht:=((((za HS2).trans ((za HS3).mono (za HS2).size)).trans ((za HS4).mono ((za HS2).trans ((za HS3).mono (za HS2).size)).size)).block x0.heap.size (hlt (za HT))).trans (za HT)
  have t0:=zd ht 0
  have t1:=fun u=>aas (v:=u) (i:=0) (zd ht 1) (by decide)
  have t2:=fun u u'=>aap (v:=u) (v':=u') (i:=0) (i':=1) (zd ht 2) (by decide) (by decide)
  have y0:=zt ht 0
  have y1:=zt ht 1
  have y2:=zt ht 2
  have HTT:=zc ht
  clear ht
  refine wpAnyH_ready (rs:=[15]) (by kernel_rfl) (by simp) ?_
  refine AllReadyH.cons (o:={ dst:=none,op:=_,type:=_,pos:=_,after:=_,guard:=_ }) rfl (fun K hK=>?_) AllReadyH.nil
  go_simp
  refine hK.out _ _ trivial (fun _=>?_)
  clear hK K
  refine wpAnyH_done (by kernel_rfl) ?_ _
  have hmb:=act (za H) (za LA0) (za HX1) ((za HS3).trans ((za HS4).mono (za HS3).size)) (za LA1) (za HX2) (za HS4) (Nat.le_refl _) (za HTT) (za HX4) (za HX0).size
  go_wp2_with fail
  go_meet
  exact⟨l0,l1,_,wb0,wb1,rfl,rfl,rfl,hmb⟩
 obtain⟨l0,l1,tb,wb0,wb1,rfl,rfl,rfl,hbeg⟩:=hcut
 have HBEG:=zc hbeg
 clear hbeg
 go_wp2_with fail
 refine(ado _ tb 0 wc.heap.size 2 2).mono ?_
 rintro e w4 ⟨rfl,hw4⟩
 have hz4:(wc.alloc (.cells #[.pointer (some ⟨l0,0,none⟩),.pointer (some ⟨l1,0,none⟩)] 108)).heap.size=wc.heap.size+1:=by simp
 have hw4':w4=afn wc tb l0 l1:=hw4
 have HM4:Hid (MvAt B w4 (ab1 wc hp tb l0 wb0 l1 wb1 vyo vyf voo vof) (zw P) #[.int .i64 (P.fo+2*P.O.length),.slice none 0 0,.slice none 0 0] 47 (.slice none 0 0) (.slice none 0 0)):=by rw[hw4'];exact aga (za H) (za HBEG)
 have HBC:Hid (Below wc.heap.size wc w4):=by rw[hw4'];exact afb _ _ _ _
 have HB4:=zc ((za HBEG).below.trans ((za HBC).mono (za HBEG).below.size))
 have HG4:=zc ((za H).keep (za HB4))
 have HR4:=zc ((za HR).keep (za HB4))
 have HFIT:=zc (ajk (za HBEG) (za HBC).size (za HB4) (za HR))
 have HIN0:=zc (MInv.start (M:=zw P) (abz P) (by have:=(za H).two;simp only[zw];omega))
 have HCP0:=zc (aji (za H))
 rw[hz4]
 clear hw4 hw4' hz4
 go_wp2_with fail
 refine(ae1 (za HM4) (za HCP0) (za HIN0) (za HR4).rt (za HFIT).out (za HR4).n64 (za HR4).few cap).mono ?_
 rintro e w5 ⟨rfl,hF5,cs5,vt5,vf5,hM5,a5,b5⟩
 obtain⟨hI5,hL5,hft5,hT5,hp5,hW5⟩:=(za HIN0).roots (zy l)
 have hC5:=Cap.roots (zy l) (za HCP0) (za HIN0) (fun v hv=>by
  unfold zy at hv
  obtain⟨r,hr1,hr2⟩:=List.mem_filterMap.1 hv
  cases r with
  | none=>cases hr2
  | some z =>
   obtain⟨rb,ro,u⟩:=z
   cases hr2
   exact(za HR4).n64 rb ro _ hr1)
 have HF5:=zc hF5
 have HM5:=zc hM5
 have HI5:=zc hI5
 have HC5:=zc hC5
 have HL5:=zc hL5
 have HW5:=zc hW5
 have HA5:=zc a5
 have HB5:=zc b5
 have HFT5:=zc hft5
 have HP5:=zc hp5
 clear hF5 hM5 hI5 hC5 hL5 hW5 a5 b5 hft5 hT5 hp5
 go_wp2_with fail
 refine(afl (za HM5) (za HC5) (za HI5)).mono ?_
 rintro e w6 ⟨rfl,hF6,cs6,vt6,vf6,hM6,a6,b6⟩
 obtain⟨hI6,hL6,hft6,_,_⟩:=(za HI5).rest (pot (zv (zw P) (zy l))-(zg (zw P).T).length) (by omega)
 have hC6:=Cap.rest (pot (zv (zw P) (zy l))-(zg (zw P).T).length) (za HC5) (za HI5)
 have hLL:=(za HL5).trans hL6
 have hFF:=(za HF5).trans hF6 (za HA5) (za HB5)
 have aa:=aa4 (za HA5) a6 (za HF5).size
 have bb:=aa4 (za HB5) b6 (za HF5).size
 have hto:agv (aai (pot (zv (zw P) (zy l))-(zg (zw P).T).length) (zv (zw P) (zy l)) (zg (zw P).T).length):=fun t _=>by
  rw[hLL.leads,show _=(zw P).ft from hft6.trans (za HFT5)]
  exact ajj (za H) t
 have hft:(aai (pot (zv (zw P) (zy l))-(zg (zw P).T).length) (zv (zw P) (zy l)) (zg (zw P).T).length).ft=(zw P).ft:=hft6.trans (za HFT5)
 have hwn:∀rb ro v,some (rb,ro,v)∈l→aa0 (aai (pot (zv (zw P) (zy l))-(zg (zw P).T).length) (zv (zw P) (zy l)) (zg (zw P).T).length).L v:=fun rb ro v hv=>hL6.went (za HW5 v (by
  unfold zy
  exact List.mem_filterMap.2 ⟨_,hv,rfl⟩))
 have hcn6:=(aek (pot (zv (zw P) (zy l))-(zg (zw P).T).length) (za HI5)).trans (ad6 (zy l) (za HIN0))
 have hpo6:=(aej (pot (zv (zw P) (zy l))-(zg (zw P).T).length) (za HI5)).trans (za HP5)
 have hM6e:aai (pot (zv (zw P) (zy l))-(zg (zw P).T).length) (zv (zw P) (zy l)) (zg (zw P).T).length=aai (pot (zv (zw P) (zy l))) (zv (zw P) (zy l)) 0:=by
  have hz:(zg (zw P).T).length=0:=by simp[zw,zg]
  rw[hz,Nat.sub_zero]
 have HM6E:=zc hM6e
 clear hft6 hL6 hM6e
 generalize aai (pot (zv (zw P) (zy l))-(zg (zw P).T).length) (zv (zw P) (zy l)) (zg (zw P).T).length=M6 at *
 have c7:w6.cell? ⟨hp,7,none⟩=some (.int .i64 P.ro):=by
  have o:=acb (za HBEG) (za HBC).size (hlt (za H).at'.blk)
  exact(World.cell?_of_block (o.same hFF)).trans (zd (za HG4).at'.blk 7)
 obtain⟨cm,hcm⟩:∃cm:Nat,M6.T.length+(zg M6.T).length=cm:=⟨_,rfl⟩
 have hcmr:(cm:Int)≤P.ro:=by
  rw[←hcm,za HM6E]
  exact za HROOM
 have HCM:Hid (∀X,Below w6.heap.size w6 X→Calls prog 15 #[.pointer (some ⟨tb,0,none⟩)] X fun e w'=>e=.returned (.int .i64 (cm:Int))∧Below X.heap.size X w'):=fun X hX=>by
  have pt:PtAt B w6 tb 0 M6.T vt6 vf6:=⟨(zd hM6.tpart.blk _).trans hM6.tpart.e1,(zd hM6.tpart.blk _).trans hM6.tpart.e2,hM6.tpart.objs,hM6.tpart.flds,hM6.tpart.few⟩
  have:=abl (pt.keep hX) hM6.tpart.fewo
  rw[hcm] at this
  exact this
 have entc:∀w:World,Sem.run prog (callFunc 15 #[.pointer (some ⟨tb,0,none⟩)]) w=.ok (.enter 15 #[.pointer (some ⟨tb,0,none⟩)]) w:=fun _=>by kernel_rfl
 have HI6:=zc hI6
 have HC6:=zc hC6
 have HM6:=zc hM6
 have HLL:=zc hLL
 have HFF:=zc hFF
 have HAA:=zc aa
 have HBB:=zc bb
 have HTO:=zc hto
 have HFTM:=zc hft
 have HWN:=zc hwn
 clear hI6 hC6 hM6 hLL hFF aa bb hto hft hwn hF6 a6 b6 hcm
 go_wp2_with fail
 refine wp_region_held_drew (S:=fun w'=>w'.cell? ⟨hp,7,none⟩=some (.int .i64 P.ro)) (by kernel_rfl) c7 (fun hHeld=>?_)
 refine wpAnyH_take (i:=1) (oi:={ dst:=some 33,op:=_,type:=_,pos:=_,after:=_,guard:=_ }) (v:=?_) rfl (by kernel_rfl) (by kernel_rfl) (by kernel_rfl) (fun _ _ _ h=>h) (Or.inl ⟨by rfl,?_⟩) (by assumption) ?_
 case refine_2 =>
  intro w hSw
  try dsimp only at hSw
  go_simp
  try with_reducible rfl
 simp only[Act.put,sA,sB,sC]
 refine wpAnyH_take (i:=2) (oi:={ dst:=some 34,op:=_,type:=_,pos:=_,after:=_,guard:=_ }) (v:=?_) rfl (by kernel_rfl) (by kernel_rfl) (by kernel_rfl) (fun _ _ _ h=>h) (Or.inl ⟨by rfl,?_⟩) (by assumption) ?_
 case refine_2 =>
  intro w hSw
  try dsimp only at hSw
  go_simp
  try with_reducible rfl
 simp only[Act.put,sA,sB,sC]
 refine wpAnyH_take (i:=3) (oi:={ dst:=some 35,op:=_,type:=_,pos:=_,after:=_,guard:=_ }) (v:=?_) rfl (by kernel_rfl) (by kernel_rfl) (by kernel_rfl) (fun _ _ _ h=>h) (Or.inl ⟨by rfl,?_⟩) (by assumption) ?_
 case refine_2 =>
  intro w hSw
  try dsimp only at hSw
  go_simp
  try with_reducible rfl
 simp only[Act.put,sA,sB,sC]
 refine wpAnyH_take (i:=4) (oi:={ dst:=some 36,op:=_,type:=_,pos:=_,after:=_,guard:=_ }) (v:=?_) rfl (by kernel_rfl) (by kernel_rfl) (by kernel_rfl) (fun _ _ _ h=>h) (Or.inl ⟨by rfl,?_⟩) (by assumption) ?_
 case refine_2 =>
  intro w hSw
  try dsimp only at hSw
  go_simp
  try with_reducible rfl
 simp only[Act.put,sA,sB,sC]
 refine wpAnyH_ready (rs:=[0]) (by kernel_rfl) (by simp) ?_
 refine AllReadyH.cons (o:={ dst:=some 32,op:=_,type:=_,pos:=_,after:=_,guard:=_ }) rfl (fun K hK=>?_) AllReadyH.nil
 refine aag rfl (by simp[Act.eval,entc,go_sem]) (((za HCM) _ (Below.drew (Below.refl _ _))).mono ?_)
 rintro e w7 ⟨rfl,hb7⟩
 have k7:=zj hb7 c7 (ze c7)
 have HB67:Hid (Below w6.heap.size w6 w7):=(Below.drew (Below.refl _ _)).trans hb7
 clear hb7
 refine hK.out _ _ k7 (fun hHeld0=>?_)
 clear hK K
 simp only[Act.put,sA,sB,sC]
 refine wpAnyH_take (i:=5) (oi:={ dst:=some 37,op:=_,type:=_,pos:=_,after:=_,guard:=_ }) (v:=?_) rfl (by kernel_rfl) (by kernel_rfl) (by kernel_rfl) (fun _ _ _ h=>h) (Or.inl ⟨by rfl,?_⟩) (by assumption) ?_
 case refine_2 =>
  intro w hSw
  try dsimp only at hSw
  go_simp
  try with_reducible rfl
 simp only[Act.put,sA,sB,sC]
 refine wpAnyH_done (by kernel_rfl) ?_ _
 go_wp2_with fail
 obtain⟨w8,hw8⟩:∃w8,w7.alloc (.cells #[.pointer (some ⟨l0,0,none⟩),.pointer (some ⟨l1,0,none⟩)] 108)=w8:=⟨_,rfl⟩
 have h78:Below w7.heap.size w7 w8:=by rw[←hw8];exact(Below.refl _ _).alloc (Nat.le_refl _) _
 have HB68:=zc ((za HB67).trans (h78.mono (za HB67).size))
 obtain⟨p0,p1,hp0,hpf,hpl,hpl1,hst⟩:=an6 (za H) (za HBEG) (za HBC) (za HR) (za HFF) (za HM6) (za HAA) (za HBB) (za HB67) hw8.symm
 have HM8:=zc ((za HM6).keep (za HB68))
 have HFIT8:=zc (((za HFIT).later (za HFF) (za HAA) (za HBB)).alloc (za HB68) (hlt (za HM6).tpart.blk))
 have HRT8:Hid (RtAt w8 g l):=by
  have q:=(za HR4).rt.same (za HFIT).out (za HFF)
  refine⟨fun k r hk=>?_,fun rb ro v hv=>?_⟩
  ·obtain⟨gb,go,e,hc⟩:=q.at' k r hk
   exact⟨gb,go,e,zj (za HB68) hc (ze (a:=⟨gb,go+k,none⟩) hc)⟩
  ·obtain⟨x,y,z⟩:=q.val rb ro v hv
   exact⟨zj (za HB68) x (ze x),zj (za HB68) y (ze y),zj (za HB68) z (ze z)⟩
 have HST8:=zc hst
 have HIDS8:Hid (∀q x,aak M6.L q=some x→I64 x.id):=fun q x hq=>by
  rw[(za HLL).objs] at hq
  have hx:x∈P.Y++P.O:=by
   unfold aak zw at hq
   obtain⟨i,k⟩:=q
   match i with
   | 0=>exact List.mem_append_left _ (List.mem_of_getElem? (by simpa using hq))
   | 1=>exact List.mem_append_right _ (List.mem_of_getElem? (by simpa using hq))
   | i+2=>simp at hq
  exact((za H).vals x hx).1
 have HCNT8:Hid (n+abo M6.L≤1000000000):=by
  show n+abo M6.L≤1000000000
  rw[hp0]
  have:=(za H).cnt
  simp[abo,hpl,hpl1]
  omega
 rw[hw8]
 clear hst h78 k7 hHeld
 refine(afa (c2:=2) (za HM8) (za HC6) (za HI6) (za HTO) (za HRT8) (za HFIT8) (za HR4).n64 (za HWN) (za HR4).few cap (za HST8) (za HIDS8) (za HCNT8)).mono ?_
 rintro e w9 ⟨rfl,wl,csl,vtl,vfl,hcs,T',n',s1,s2,s3,s4,s5,s6,s7,s8,s9,s10,s11,s12,s13,s14,s15⟩
 have z1:=(za HBEG).below.size
 have z2:=(za HBC).size
 have z3:=(za HFF).size
 have z4:=(za HB68).size
 have z5:=s2.size
 have tHw:Typ w hp 51:=⟨_,_,(za H).at'.blk⟩
 have u8:∀k,k<w.heap.size→w8.heap[k]?=w.heap[k]?:=fun k hk=>by
  rw[(za HB68).block k (by omega),(acb (za HBEG) (za HBC).size hk).same (za HFF)]
  exact(za HB4).block k hk
 have o8:∀k,k<w.heap.size→Out (ab1 wc hp tb l0 wb0 l1 wb1 vyo vyf voo vof) vt6 vf6 w8 k:=fun k hk=>((acb (za HBEG) (za HBC).size hk).later z3 (za HAA) (za HBB)).later z4 (Or.inl rfl) (Or.inl rfl)
 have hpl':wl.heap[hp]?=some (.cells (zx P vyo vyf voo vof vn mb) 51 (0,0)):=by
  rw[s2.block hp (o8 hp tHw.lt) (za HST8).hr,u8 hp tHw.lt]
  exact(za H).at'.blk
 have hTT:hcs=zx P vyo vyf voo vof vn mb∧T'=51:=by
  rw[s6] at hpl'
  cases hpl'
  exact⟨rfl,rfl⟩
 obtain⟨rfl,rfl⟩:=hTT
 obtain⟨es,cl,hm8,_⟩:=(za HST8).own
 have hml:wl.heap[mb]?=some (.map es cl):=(s2.block mb (za HST8).mo (za HST8).mr).trans hm8
 have tHl:Typ wl hp 51:=⟨_,_,s6⟩
 have tbl:wl.heap[tb]?=some (.cells csl 47 (0,0)):=s3.tpart.blk
 have tbT:Typ wl tb 47:=⟨_,_,tbl⟩
 have tb9:w9.heap[tb]?=some (.cells csl 47 (0,0)):=(s11 tb tbT.lt (abj hml tbT) (tbT.ne tHl (by decide))).trans tbl
 obtain⟨gt,ct,hvt⟩:=aaa s3.tpart.objs
 obtain⟨gf,cf,hvf⟩:=aaa s3.tpart.flds
 have e0:w9.cell? ⟨tb,0,none⟩=some (.int .i64 M6.ft):=(zd tb9 0).trans s3.tpart.e0
 have e1:w9.cell? ⟨tb,1,none⟩=some (.slice gt M6.T.length ct):=by rw[←hvt];exact(zd tb9 1).trans s3.tpart.e1
 have e2:w9.cell? ⟨tb,2,none⟩=some (.slice gf (zg M6.T).length cf):=by rw[←hvf];exact(zd tb9 2).trans s3.tpart.e2
 have gcell:∀c,c<13→∃u,w9.cell? ⟨hp,c,none⟩=some u:=fun c hc=>⟨_,(zd s10 c).trans (Array.getElem?_eq_getElem (by simp[zx];omega))⟩
 obtain⟨x3,c3⟩:=gcell 3 (by omega)
 obtain⟨x4,c4⟩:=gcell 4 (by omega)
 obtain⟨x5,c5⟩:=gcell 5 (by omega)
 have c12:w9.cell? ⟨hp,12,none⟩=some (.int .i64 P.majors):=zd s10 12
 have c4':=fun q=>aas (v:=q) (i:=3) c4 (by decide)
 have c5':=fun q q'=>aap (v:=q) (v':=q') (i:=3) (i':=4) c5 (by decide) (by decide)
 have c12':=fun q q' q''=>aas (v:=q'') (i:=5) (aap (v:=q) (v':=q') (i:=3) (i':=4) c12 (by decide) (by decide)) (by decide)
 have y3:=zt s10 3
 have y4:=zt s10 4
 have y5:=zt s10 5
 have y12:=zt s10 12
 have S1:=zc s1
 have S2:=zc s2
 have S3:=zc s3
 have S4:=zc s4
 have S5:=zc s5
 have S6:=zc s6
 have S8:=zc s8
 have S9:=zc s9
 have S10:=zc s10
 have S11:=zc s11
 have S12:=zc (⟨s12,s13,s14,s15⟩:wl.heap.size≤w9.heap.size∧w9.os=wl.os∧w9.tape=wl.tape∧w9.output=wl.output)
 have HU8:=zc u8
 have HO8:=zc o8
 have HML:=zc hml
 have HTHL:=zc tHl
 have HVT:=zc hvt
 have HVF:=zc hvf
 clear s1 s2 s3 s4 s5 s6 s8 s9 s10 s11 s12 s13 s14 s15 u8 o8 hml tHl hvt hvf hpl' hm8 tbl tb9 gcell c4 c5 c12
 go_wp2_with fail
 go_ret
 refine⟨rfl,?_⟩
 have hne:mb≠hp:=fun e=>by
  obtain⟨e8,c8,h8,_⟩:=za S8
  have q:=za S10
  rw[←e,h8] at q
  cases q
 rw[←za HVT,←za HVF]
 obtain⟨wz,hwz⟩:∃wz,((((w9.setCell ⟨hp,3,none⟩ (.int .i64 M6.ft)).setCell ⟨hp,4,none⟩ vtl).setCell ⟨hp,5,none⟩ vfl).setCell ⟨hp,12,none⟩ (.int .i64 (wrap64 (P.majors+1))))=wz:=⟨_,rfl⟩
 have hz:wz.heap[hp]?=some (.cells (zx (abd P M6.T (wrap64 (P.majors+1))) (.slice none 0 0) (.slice none 0 0) vtl vfl (.slice none 0 0) mb) 51 (0,0)):=by
  rw[←hwz,aad (aad (aad (aad (za S10) 3 (.int .i64 M6.ft)) 4 vtl) 5 vfl) 12 (.int .i64 (wrap64 (P.majors+1)))]
  rw[ajz (T:=M6.T) (by rw[hpf,hpl]) (za HFTM) rfl]
 have kz:∀k,k≠hp→wz.heap[k]?=w9.heap[k]?:=fun k hk=>by rw[←hwz,zo _ hk,zo _ hk,zo _ hk,zo _ hk]
 have sz:wz.heap.size=w9.heap.size:=by rw[←hwz];simp[World.setCell]
 have oz:wz.os=w9.os∧wz.tape=w9.tape∧wz.output=w9.output:=by rw[←hwz];exact⟨rfl,rfl,rfl⟩
 rw[hwz]
 clear hwz
 have kl:∀k t,Typ wl k t→t≠51→wz.heap[k]?=wl.heap[k]?:=fun k t hk hne'=>(kz k (hk.ne (za HTHL) hne')).trans (za S11 k hk.lt (abj (za HML) hk) (hk.ne (za HTHL) hne'))
 have zl:w.heap.size≤wl.heap.size:=by omega
 have kw:∀k t,Typ w k t→t≠51→wz.heap[k]?=wl.heap[k]?:=fun k t hk hne'=>by
  obtain⟨e8,c8,hm,_⟩:=(za H).own
  exact(kz k (hk.ne tHw hne')).trans (za S11 k (Nat.lt_of_lt_of_le hk.lt zl) (abj hm hk) (hk.ne tHw hne'))
 have g1:=an5 (za S1) (za HR) kw
 have g2:HpAt B wz hp mb (abd P M6.T (wrap64 (P.majors+1))) (.slice none 0 0) (.slice none 0 0) vtl vfl (.slice none 0 0):=⟨hz,World.ownsRow_nil _ _ _ _,World.ownsRow_nil _ _ _ _,zs (za S3).tpart.objs (fun j hj=>kl j _ (zu (za S3).tpart.objs hj) (by decide)),zs (za S3).tpart.flds (fun j hj=>kl j _ (zu (za S3).tpart.flds hj) (by decide)),World.ownsRow_nil _ _ _ _⟩
 have g3:wz.ownsMap prog 3 (plainElem prog 3) mb n' (abb D M6.L):=by
  obtain⟨e8,c8,h8,r8⟩:=za S8
  exact⟨e8,c8,(kz mb hne).trans h8,r8⟩
 have g4:n'≤n+(P.Y.length+P.O.length):=by
  have:=za S9
  rw[hp0] at this
  simp[hpl,hpl1] at this
  omega
 have g5:=ahx (c:=w.heap.size) (za HAA) (za S4) (by omega) (by omega)
 have g6:=ahx (c:=w.heap.size) (za HBB) (za S5) (by omega) (by omega)
 have g7:∀k,k<w.heap.size→k≠hp→k≠mb→¬acr l k→wz.heap[k]?=w.heap[k]?:=fun k hk h1 h2 h5=>by
  rw[kz k h1,za S11 k (Nat.lt_of_lt_of_le hk zl) h2 h1,(za S2).block k (za HO8 k hk) h5]
  exact za HU8 k hk
 have g8:w.heap.size≤wz.heap.size:=by
  have:=(za S12).1
  omega
 have g9:wz.os=w.os:=oz.1.trans ((za S12).2.1.trans ((za S2).os.trans ((za HB68).os.trans ((za HFF).os.trans (za HB4).os))))
 have g10:wz.tape=w.tape:=oz.2.1.trans ((za S12).2.2.1.trans ((za S2).tape.trans ((za HB68).tape.trans ((za HFF).tape.trans (za HB4).tape))))
 have g11:wz.output=w.output:=oz.2.2.trans ((za S12).2.2.2.trans ((za S2).output.trans ((za HB68).output.trans ((za HFF).output.trans (za HB4).output))))
 have g12:MajSz hp mb (wrap64 (P.majors+1)) w wz:=⟨zd hz 12,fun k hk h1 h2 cs t fr hc=>by
  obtain⟨c',e1,e2⟩:=(za S2).cl k (za HO8 k hk) cs t fr ((za HU8 k hk).trans hc)
  exact⟨c',by rw[kz k h1,za S11 k (Nat.lt_of_lt_of_le hk zl) h2 h1];exact e1,e2⟩⟩
 refine⟨?_,g12⟩
 exact⟨M6,n',vtl,vfl,wrap64 (P.majors+1),za HI6,za HC6,za HLL,za HFTM,za HM6E,za HWN,g1,g2,g3,g4,g5,g6,g7,g8,g9,g10,g11⟩
end
end Go.Proofs.YtpnghfghdbijlaaGreatDoor
