/- A part. -/
import Derived.Test.YtpnghfghdbijlaaGreatDoorM12
import Derived.Test.YtpnghfghdbijlaaGreatDoorM20
open Go.Proofs.Tryz
namespace Go.Proofs.YtpnghfghdbijlaaGreatDoor
open Go.RowKit
set_option linter.unusedVariables false
set_option linter.unusedSimpArgs false
set_option maxRecDepth 100000
set_option maxHeartbeats 40000000
section
open Go.RowKit Go.Maps
theorem ang {B:Nat} {w:World} {hp mb:Nat} {P:PHp} {D:DataW Unit} {n:Nat} {vyo vyf voo vof vn:Value} (h:HpG B w hp mb P D n vyo vyf voo vof vn) {g:Option Addr} {l:List (Option (Nat×Nat×HV))} (hr:RtFree w hp mb vyo vyf voo vof g l) (cap:Nat) (hnn:n≤500000000) (hroom:P.ro<(((ade P l).T.length+(zg (ade P l).T).length:Nat):Int)) :
  Calls prog 39 #[.pointer (some ⟨hp,0,none⟩),.slice g l.length cap] w fun e w'=>e=.returned (.iface 29 (.int .i64 12))∧Below w.heap.size w w':=by
 have H:=zc h
 have HR:=zc hr
 have HPY:=zc (h.at'.young h.few)
 have HPO:=zc (h.at'.old h.few)
 have HFO:=zc (show w.cell? ⟨hp,3,none⟩=some (.int .i64 P.fo) from zd h.at'.blk 3)
 have hly:P.Y.length≤10000000:=by have:=h.cnt;omega
 have hlo:P.O.length≤10000000:=by have:=h.cnt;omega
 have hfo0:0≤P.fo:=h.small.o0
 have hfo1:=h.small.o1
 have ent0:∀w:World,Sem.run prog (callFunc 50 #[.pointer (some ⟨hp,0,none⟩)]) w=.ok (.enter 50 #[.pointer (some ⟨hp,0,none⟩)]) w:=fun _=>by kernel_rfl
 have ent3:∀w:World,Sem.run prog (callFunc 50 #[.pointer (some ⟨hp,3,none⟩)]) w=.ok (.enter 50 #[.pointer (some ⟨hp,3,none⟩)]) w:=fun _=>by kernel_rfl
 have entn:∀w:World,Sem.run prog (callFunc 56 #[.pointer (some ⟨hp,3,none⟩)]) w=.ok (.enter 56 #[.pointer (some ⟨hp,3,none⟩)]) w:=fun _=>by kernel_rfl
 have HROOM:=zc hroom
 clear h hr hroom
 go_enter func39,ntmps39
 go_wp2_with fail
 go_cut [5,6,7] (fun p q r wc=>∃l0 l1 tb wb0 wb1,p=.pointer (some ⟨l0,0,none⟩)∧q=.pointer (some ⟨l1,0,none⟩)∧r=.pointer (some ⟨tb,0,none⟩)∧MajBeg B w wc hp P vyo vyf voo vof l0 wb0 l1 wb1 tb)
 case first =>
  refine wp_region_held_drew (S:=fun _=>True) (by kernel_rfl) trivial (fun hHeld=>?_)
  refine wpAnyH_take (i:=0) (oi:={ dst:=some 11,op:=_,type:=_,pos:=_,after:=_,guard:=_ }) (v:=?_) rfl (by kernel_rfl) (by kernel_rfl) (by kernel_rfl) (fun _ _ _ h=>h) (Or.inl ⟨by rfl,?_⟩) trivial ?_
  case refine_2 =>
   intro w hSw
   try dsimp only at hSw
   go_simp
   try with_reducible rfl
  simp only[Act.put,sA,sB,sC]
  refine wpAnyH_take (i:=1) (oi:={ dst:=some 12,op:=_,type:=_,pos:=_,after:=_,guard:=_ }) (v:=?_) rfl (by kernel_rfl) (by kernel_rfl) (by kernel_rfl) (fun _ _ _ h=>h) (Or.inl ⟨by rfl,?_⟩) trivial ?_
  case refine_2 =>
   intro w hSw
   try dsimp only at hSw
   go_simp
   try with_reducible rfl
  simp only[Act.put,sA,sB,sC]
  refine wpAnyH_take (i:=2) (oi:={ dst:=some 13,op:=_,type:=_,pos:=_,after:=_,guard:=_ }) (v:=?_) rfl (by kernel_rfl) (by kernel_rfl) (by kernel_rfl) (fun _ _ _ h=>h) (Or.inl ⟨by rfl,?_⟩) trivial ?_
  case refine_2 =>
   intro w hSw
   try dsimp only at hSw
   go_simp
   try with_reducible rfl
  simp only[Act.put,sA,sB,sC]
  refine wpAnyH_take (i:=4) (oi:={ dst:=some 15,op:=_,type:=_,pos:=_,after:=_,guard:=_ }) (v:=?_) rfl (by kernel_rfl) (by kernel_rfl) (by kernel_rfl) (fun _ _ _ h=>h) (Or.inl ⟨by rfl,?_⟩) trivial ?_
  case refine_2 =>
   intro w hSw
   try dsimp only at hSw
   go_simp
   try with_reducible rfl
  simp only[Act.put,sA,sB,sC]
  refine wpAnyH_take (i:=5) (oi:={ dst:=some 16,op:=_,type:=_,pos:=_,after:=_,guard:=_ }) (v:=?_) rfl (by kernel_rfl) (by kernel_rfl) (by kernel_rfl) (fun _ _ _ h=>h) (Or.inl ⟨by rfl,?_⟩) trivial ?_
  case refine_2 =>
   intro w hSw
   try dsimp only at hSw
   go_simp
   try with_reducible rfl
  simp only[Act.put,sA,sB,sC]
  refine wpAnyH_take (i:=6) (oi:={ dst:=some 17,op:=_,type:=_,pos:=_,after:=_,guard:=_ }) (v:=?_) rfl (by kernel_rfl) (by kernel_rfl) (by kernel_rfl) (fun _ _ _ h=>h) (Or.inl ⟨by rfl,?_⟩) trivial ?_
  case refine_2 =>
   intro w hSw
   try dsimp only at hSw
   go_simp
   try with_reducible rfl
  simp only[Act.put,sA,sB,sC]
  refine wpAnyH_take (i:=8) (oi:={ dst:=some 19,op:=_,type:=_,pos:=_,after:=_,guard:=_ }) (v:=?_) rfl (by kernel_rfl) (by kernel_rfl) (by kernel_rfl) (fun _ _ _ h=>h) (Or.inl ⟨by rfl,?_⟩) trivial ?_
  case refine_2 =>
   intro w hSw
   try dsimp only at hSw
   go_simp
   try with_reducible rfl
  simp only[Act.put,sA,sB,sC]
  refine wpAnyH_take (i:=9) (oi:={ dst:=some 20,op:=_,type:=_,pos:=_,after:=_,guard:=_ }) (v:=?_) rfl (by kernel_rfl) (by kernel_rfl) (by kernel_rfl) (fun _ _ _ h=>h) (Or.inl ⟨by rfl,?_⟩) trivial ?_
  case refine_2 =>
   intro w hSw
   try dsimp only at hSw
   go_simp
   try with_reducible rfl
  simp only[Act.put,sA,sB,sC]
  refine wpAnyH_take (i:=10) (oi:={ dst:=some 21,op:=_,type:=_,pos:=_,after:=_,guard:=_ }) (v:=?_) rfl (by kernel_rfl) (by kernel_rfl) (by kernel_rfl) (fun _ _ _ h=>h) (Or.inl ⟨by rfl,?_⟩) trivial ?_
  case refine_2 =>
   intro w hSw
   try dsimp only at hSw
   go_simp
   try with_reducible rfl
  simp only[Act.put,sA,sB,sC]
  obtain⟨x0,hx0⟩:∃x0,w.drew=x0:=⟨_,rfl⟩
  have HX0:Hid (Below w.heap.size w x0):=by rw[←hx0];exact Below.drew (Below.refl _ _)
  rw[hx0]
  refine wpAnyH_ready (rs:=[3,12]) (by kernel_rfl) (by simp) ?_
  refine AllReadyH.cons (o:={ dst:=some 14,op:=_,type:=_,pos:=_,after:=_,guard:=_ }) rfl (fun K hK=>?_) ?_
  ·refine aag rfl (by simp[Act.eval,ent0,go_sem]) ((ab0 ((za HPY).keep (za HX0)) hly).mono ?_)
   rintro e x1 ⟨l0,wb0,rfl,LA0⟩
   have HX1:=zc ((za HX0).trans ((za LA0).below.mono (za HX0).size))
   have HS1:=zc (za LA0).below
   refine hK.out _ _ trivial (fun _=>?_)
   clear hK K
   simp only[Act.put,sA,sB,sC]
   refine wpAnyH_ready (rs:=[7,12]) (by kernel_rfl) (by simp) ?_
   refine AllReadyH.cons (o:={ dst:=some 18,op:=_,type:=_,pos:=_,after:=_,guard:=_ }) rfl (fun K hK=>?_) ?_
   ·refine aag rfl (by simp[Act.eval,ent3,go_sem]) ((ab0 ((za HPO).keep (za HX1)) hlo).mono ?_)
    rintro e x2 ⟨l1,wb1,rfl,LA1⟩
    have HX2:=zc ((za HX1).trans ((za LA1).below.mono (za HX1).size))
    have HS2:=zc (za LA1).below
    refine hK.out _ _ trivial (fun _=>?_)
    clear hK K
    simp only[Act.put,sA,sB,sC]
    refine wpAnyH_ready (rs:=[11,12]) (by kernel_rfl) (by simp) ?_
    refine AllReadyH.cons (o:={ dst:=some 22,op:=_,type:=_,pos:=_,after:=_,guard:=_ }) rfl (fun K hK=>?_) ?_
    ·refine aag rfl (by simp[Act.eval,entn,go_sem]) ((aca ((za HPO).keep (za HX2)) (zj (za HX2) (za HFO) (ze (za HFO))) hfo0 hfo1).mono ?_)
     rintro e x3 ⟨rfl,hbn⟩
     have HX3:=zc ((za HX2).trans (hbn.mono (za HX2).size))
     have HS3:=zc hbn
     clear hbn
     refine hK.out _ _ trivial (fun _=>?_)
     clear hK K
     simp only[Act.put,sA,sB,sC]
     refine wpAnyH_ready (rs:=[12]) (by kernel_rfl) (by simp) ?_
     refine AllReadyH.cons (o:={ dst:=some 7,op:=_,type:=_,pos:=_,after:=_,guard:=_ }) rfl (fun K hK=>?_) AllReadyH.nil
     obtain⟨x4,hx4⟩:∃x4,x3.alloc (.cells #[.int .i64 0,.slice none 0 0,.slice none 0 0] 47)=x4:=⟨_,rfl⟩
     have HS4:Hid (Below x3.heap.size x3 x4):=by rw[←hx4];exact(Below.refl _ _).alloc (Nat.le_refl _) _
     have HX4:=zc ((za HX3).trans ((za HS4).mono (za HX3).size))
     have HT:Hid (x4.heap[x3.heap.size]?=some (.cells #[.int .i64 0,.slice none 0 0,.slice none 0 0] 47 (0,0))):=by rw[←hx4];exact aan _ _
     go_simp
     refine hK.out _ _ trivial (fun _=>?_)
     clear hK K
     try simp only[Act.put,sA,sB,sC]
     refine wpAnyH_take (i:=13) (oi:={ dst:=some 5,op:=_,type:=_,pos:=_,after:=_,guard:=_ }) (v:=?_) rfl (by kernel_rfl) (by kernel_rfl) (by kernel_rfl) (fun _ _ _ h=>h) (Or.inl ⟨by rfl,?_⟩) trivial ?_
     case refine_2 =>
      intro w hSw
      try dsimp only at hSw
      go_simp
      try with_reducible rfl
     simp only[Act.put,sA,sB,sC]
     refine wpAnyH_take (i:=14) (oi:={ dst:=some 6,op:=_,type:=_,pos:=_,after:=_,guard:=_ }) (v:=?_) rfl (by kernel_rfl) (by kernel_rfl) (by kernel_rfl) (fun _ _ _ h=>h) (Or.inl ⟨by rfl,?_⟩) trivial ?_
     case refine_2 =>
      intro w hSw
      try dsimp only at hSw
      go_simp
      try with_reducible rfl
     simp only[Act.put,sA,sB,sC]
     have ht:=((Below.refl _ _).block x3.heap.size (hlt (za HT))).trans (za HT)
     have t0:=zd ht 0
     have t1:=fun u=>aas (v:=u) (i:=0) (zd ht 1) (by decide)
     have t2:=fun u u'=>aap (v:=u) (v':=u') (i:=0) (i':=1) (zd ht 2) (by decide) (by decide)
     have y0:=zt ht 0
     have y1:=zt ht 1
     have y2:=zt ht 2
     have HTT:=zc ht
     clear ht
     refine wpAnyH_ready (rs:=[15]) (by kernel_rfl) (by simp) ?_
     refine AllReadyH.cons (o:={ dst:=none,op:=_,type:=_,pos:=_,after:=_,guard:=_ }) rfl (fun K hK=>?_) AllReadyH.nil
     go_simp
     refine hK.out _ _ trivial (fun _=>?_)
     clear hK K
     refine wpAnyH_done (by kernel_rfl) ?_ _
     have hmb:=act (za H) (za LA0) (za HX0) (((za HS2).trans ((za HS3).mono (za HS2).size)).trans ((za HS4).mono ((za HS2).trans ((za HS3).mono (za HS2).size)).size)) (za LA1) (za HX1) ((za HS3).trans ((za HS4).mono (za HS3).size)) (Nat.le_refl _) (za HTT) (za HX4) (za HX3).size
     go_wp2_with fail
     go_meet
     exact⟨l0,l1,_,wb0,wb1,rfl,rfl,rfl,hmb⟩
    refine AllReadyH.cons (o:={ dst:=some 7,op:=_,type:=_,pos:=_,after:=_,guard:=_ }) rfl (fun K hK=>?_) AllReadyH.nil
    obtain⟨x3,hx3⟩:∃x3,x2.alloc (.cells #[.int .i64 0,.slice none 0 0,.slice none 0 0] 47)=x3:=⟨_,rfl⟩
    have HS3:Hid (Below x2.heap.size x2 x3):=by rw[←hx3];exact(Below.refl _ _).alloc (Nat.le_refl _) _
    have HX3:=zc ((za HX2).trans ((za HS3).mono (za HX2).size))
    have HT:Hid (x3.heap[x2.heap.size]?=some (.cells #[.int .i64 0,.slice none 0 0,.slice none 0 0] 47 (0,0))):=by rw[←hx3];exact aan _ _
    go_simp
    refine hK.out _ _ trivial (fun _=>?_)
    clear hK K
    try simp only[Act.put,sA,sB,sC]
    refine wpAnyH_ready (rs:=[11]) (by kernel_rfl) (by simp) ?_
    refine AllReadyH.cons (o:={ dst:=some 22,op:=_,type:=_,pos:=_,after:=_,guard:=_ }) rfl (fun K hK=>?_) AllReadyH.nil
    refine aag rfl (by simp[Act.eval,entn,go_sem]) ((aca ((za HPO).keep (za HX3)) (zj (za HX3) (za HFO) (ze (za HFO))) hfo0 hfo1).mono ?_)
    rintro e x4 ⟨rfl,hbn⟩
    have HX4:=zc ((za HX3).trans (hbn.mono (za HX3).size))
    have HS4:=zc hbn
    clear hbn
    refine hK.out _ _ trivial (fun _=>?_)
    clear hK K
    simp only[Act.put,sA,sB,sC]
    refine wpAnyH_take (i:=13) (oi:={ dst:=some 5,op:=_,type:=_,pos:=_,after:=_,guard:=_ }) (v:=?_) rfl (by kernel_rfl) (by kernel_rfl) (by kernel_rfl) (fun _ _ _ h=>h) (Or.inl ⟨by rfl,?_⟩) trivial ?_
    case refine_2 =>
     intro w hSw
     try dsimp only at hSw
     go_simp
     try with_reducible rfl
    simp only[Act.put,sA,sB,sC]
    refine wpAnyH_take (i:=14) (oi:={ dst:=some 6,op:=_,type:=_,pos:=_,after:=_,guard:=_ }) (v:=?_) rfl (by kernel_rfl) (by kernel_rfl) (by kernel_rfl) (fun _ _ _ h=>h) (Or.inl ⟨by rfl,?_⟩) trivial ?_
    case refine_2 =>
     intro w hSw
     try dsimp only at hSw
     go_simp
     try with_reducible rfl
    simp only[Act.put,sA,sB,sC]
    have ht:=((za HS4).block x2.heap.size (hlt (za HT))).trans (za HT)
    have t0:=zd ht 0
    have t1:=fun u=>aas (v:=u) (i:=0) (zd ht 1) (by decide)
    have t2:=fun u u'=>aap (v:=u) (v':=u') (i:=0) (i':=1) (zd ht 2) (by decide) (by decide)
    have y0:=zt ht 0
    have y1:=zt ht 1
    have y2:=zt ht 2
    have HTT:=zc ht
    clear ht
    refine wpAnyH_ready (rs:=[15]) (by kernel_rfl) (by simp) ?_
    refine AllReadyH.cons (o:={ dst:=none,op:=_,type:=_,pos:=_,after:=_,guard:=_ }) rfl (fun K hK=>?_) AllReadyH.nil
    go_simp
    refine hK.out _ _ trivial (fun _=>?_)
    clear hK K
    refine wpAnyH_done (by kernel_rfl) ?_ _
    have hmb:=act (za H) (za LA0) (za HX0) (((za HS2).trans ((za HS3).mono (za HS2).size)).trans ((za HS4).mono ((za HS2).trans ((za HS3).mono (za HS2).size)).size)) (za LA1) (za HX1) ((za HS3).trans ((za HS4).mono (za HS3).size)) (Nat.le_refl _) (za HTT) (za HX4) (za HX2).size
    go_wp2_with fail
    go_meet
    exact⟨l0,l1,_,wb0,wb1,rfl,rfl,rfl,hmb⟩
   refine AllReadyH.cons (o:={ dst:=some 7,op:=_,type:=_,pos:=_,after:=_,guard:=_ }) rfl (fun K hK=>?_) AllReadyH.nil
   obtain⟨x2,hx2⟩:∃x2,x1.alloc (.cells #[.int .i64 0,.slice none 0 0,.slice none 0 0] 47)=x2:=⟨_,rfl⟩
   have HS2:Hid (Below x1.heap.size x1 x2):=by rw[←hx2];exact(Below.refl _ _).alloc (Nat.le_refl _) _
   have HX2:=zc ((za HX1).trans ((za HS2).mono (za HX1).size))
   have HT:Hid (x2.heap[x1.heap.size]?=some (.cells #[.int .i64 0,.slice none 0 0,.slice none 0 0] 47 (0,0))):=by rw[←hx2];exact aan _ _
   go_simp
   refine hK.out _ _ trivial (fun _=>?_)
   clear hK K
   try simp only[Act.put,sA,sB,sC]
   refine wpAnyH_ready (rs:=[7]) (by kernel_rfl) (by simp) ?_
   refine AllReadyH.cons (o:={ dst:=some 18,op:=_,type:=_,pos:=_,after:=_,guard:=_ }) rfl (fun K hK=>?_) AllReadyH.nil
   refine aag rfl (by simp[Act.eval,ent3,go_sem]) ((ab0 ((za HPO).keep (za HX2)) hlo).mono ?_)
   rintro e x3 ⟨l1,wb1,rfl,LA1⟩
   have HX3:=zc ((za HX2).trans ((za LA1).below.mono (za HX2).size))
   have HS3:=zc (za LA1).below
   refine hK.out _ _ trivial (fun _=>?_)
   clear hK K
   simp only[Act.put,sA,sB,sC]
   refine wpAnyH_ready (rs:=[11]) (by kernel_rfl) (by simp) ?_
   refine AllReadyH.cons (o:={ dst:=some 22,op:=_,type:=_,pos:=_,after:=_,guard:=_ }) rfl (fun K hK=>?_) AllReadyH.nil
   refine aag rfl (by simp[Act.eval,entn,go_sem]) ((aca ((za HPO).keep (za HX3)) (zj (za HX3) (za HFO) (ze (za HFO))) hfo0 hfo1).mono ?_)
   rintro e x4 ⟨rfl,hbn⟩
   have HX4:=zc ((za HX3).trans (hbn.mono (za HX3).size))
   have HS4:=zc hbn
   clear hbn
   refine hK.out _ _ trivial (fun _=>?_)
   clear hK K
   simp only[Act.put,sA,sB,sC]
   refine wpAnyH_take (i:=13) (oi:={ dst:=some 5,op:=_,type:=_,pos:=_,after:=_,guard:=_ }) (v:=?_) rfl (by kernel_rfl) (by kernel_rfl) (by kernel_rfl) (fun _ _ _ h=>h) (Or.inl ⟨by rfl,?_⟩) trivial ?_
   case refine_2 =>
    intro w hSw
    try dsimp only at hSw
    go_simp
    try with_reducible rfl
   simp only[Act.put,sA,sB,sC]
   refine wpAnyH_take (i:=14) (oi:={ dst:=some 6,op:=_,type:=_,pos:=_,after:=_,guard:=_ }) (v:=?_) rfl (by kernel_rfl) (by kernel_rfl) (by kernel_rfl) (fun _ _ _ h=>h) (Or.inl ⟨by rfl,?_⟩) trivial ?_
   case refine_2 =>
    intro w hSw
    try dsimp only at hSw
    go_simp
    try with_reducible rfl
   simp only[Act.put,sA,sB,sC]
   have ht:=(((za HS3).trans ((za HS4).mono (za HS3).size)).block x1.heap.size (hlt (za HT))).trans (za HT)
   have t0:=zd ht 0
   have t1:=fun u=>aas (v:=u) (i:=0) (zd ht 1) (by decide)
   have t2:=fun u u'=>aap (v:=u) (v':=u') (i:=0) (i':=1) (zd ht 2) (by decide) (by decide)
   have y0:=zt ht 0
   have y1:=zt ht 1
   have y2:=zt ht 2
   have HTT:=zc ht
   clear ht
   refine wpAnyH_ready (rs:=[15]) (by kernel_rfl) (by simp) ?_
   refine AllReadyH.cons (o:={ dst:=none,op:=_,type:=_,pos:=_,after:=_,guard:=_ }) rfl (fun K hK=>?_) AllReadyH.nil
   go_simp
   refine hK.out _ _ trivial (fun _=>?_)
   clear hK K
   refine wpAnyH_done (by kernel_rfl) ?_ _
   have hmb:=act (za H) (za LA0) (za HX0) (((za HS2).trans ((za HS3).mono (za HS2).size)).trans ((za HS4).mono ((za HS2).trans ((za HS3).mono (za HS2).size)).size)) (za LA1) (za HX2) (za HS4) ((za HS2)).size (za HTT) (za HX4) (za HX1).size
   go_wp2_with fail
   go_meet
   exact⟨l0,l1,_,wb0,wb1,rfl,rfl,rfl,hmb⟩
  refine AllReadyH.cons (o:={ dst:=some 7,op:=_,type:=_,pos:=_,after:=_,guard:=_ }) rfl (fun K hK=>?_) AllReadyH.nil
  obtain⟨x1,hx1⟩:∃x1,x0.alloc (.cells #[.int .i64 0,.slice none 0 0,.slice none 0 0] 47)=x1:=⟨_,rfl⟩
  have HS1:Hid (Below x0.heap.size x0 x1):=by rw[←hx1];exact(Below.refl _ _).alloc (Nat.le_refl _) _
  have HX1:=zc ((za HX0).trans ((za HS1).mono (za HX0).size))
  have HT:Hid (x1.heap[x0.heap.size]?=some (.cells #[.int .i64 0,.slice none 0 0,.slice none 0 0] 47 (0,0))):=by rw[←hx1];exact aan _ _
  go_simp
  refine hK.out _ _ trivial (fun _=>?_)
  clear hK K
  try simp only[Act.put,sA,sB,sC]
  refine wpAnyH_ready (rs:=[3]) (by kernel_rfl) (by simp) ?_
  refine AllReadyH.cons (o:={ dst:=some 14,op:=_,type:=_,pos:=_,after:=_,guard:=_ }) rfl (fun K hK=>?_) AllReadyH.nil
  refine aag rfl (by simp[Act.eval,ent0,go_sem]) ((ab0 ((za HPY).keep (za HX1)) hly).mono ?_)
  rintro e x2 ⟨l0,wb0,rfl,LA0⟩
  have HX2:=zc ((za HX1).trans ((za LA0).below.mono (za HX1).size))
  have HS2:=zc (za LA0).below
  refine hK.out _ _ trivial (fun _=>?_)
  clear hK K
  simp only[Act.put,sA,sB,sC]
  refine wpAnyH_ready (rs:=[7]) (by kernel_rfl) (by simp) ?_
  refine AllReadyH.cons (o:={ dst:=some 18,op:=_,type:=_,pos:=_,after:=_,guard:=_ }) rfl (fun K hK=>?_) AllReadyH.nil
  refine aag rfl (by simp[Act.eval,ent3,go_sem]) ((ab0 ((za HPO).keep (za HX2)) hlo).mono ?_)
  rintro e x3 ⟨l1,wb1,rfl,LA1⟩
  have HX3:=zc ((za HX2).trans ((za LA1).below.mono (za HX2).size))
  have HS3:=zc (za LA1).below
  refine hK.out _ _ trivial (fun _=>?_)
  clear hK K
  simp only[Act.put,sA,sB,sC]
  refine wpAnyH_ready (rs:=[11]) (by kernel_rfl) (by simp) ?_
  refine AllReadyH.cons (o:={ dst:=some 22,op:=_,type:=_,pos:=_,after:=_,guard:=_ }) rfl (fun K hK=>?_) AllReadyH.nil
  refine aag rfl (by simp[Act.eval,entn,go_sem]) ((aca ((za HPO).keep (za HX3)) (zj (za HX3) (za HFO) (ze (za HFO))) hfo0 hfo1).mono ?_)
  rintro e x4 ⟨rfl,hbn⟩
  have HX4:=zc ((za HX3).trans (hbn.mono (za HX3).size))
  have HS4:=zc hbn
  clear hbn
  refine hK.out _ _ trivial (fun _=>?_)
  clear hK K
  simp only[Act.put,sA,sB,sC]
  refine wpAnyH_take (i:=13) (oi:={ dst:=some 5,op:=_,type:=_,pos:=_,after:=_,guard:=_ }) (v:=?_) rfl (by kernel_rfl) (by kernel_rfl) (by kernel_rfl) (fun _ _ _ h=>h) (Or.inl ⟨by rfl,?_⟩) trivial ?_
  case refine_2 =>
   intro w hSw
   try dsimp only at hSw
   go_simp
   try with_reducible rfl
  simp only[Act.put,sA,sB,sC]
  refine wpAnyH_take (i:=14) (oi:={ dst:=some 6,op:=_,type:=_,pos:=_,after:=_,guard:=_ }) (v:=?_) rfl (by kernel_rfl) (by kernel_rfl) (by kernel_rfl) (fun _ _ _ h=>h) (Or.inl ⟨by rfl,?_⟩) trivial ?_
  case refine_2 =>
   intro w hSw
   try dsimp only at hSw
   go_simp
   try with_reducible rfl
  simp only[Act.put,sA,sB,sC]
  have ht:=((((za HS2).trans ((za HS3).mono (za HS2).size)).trans ((za HS4).mono ((za HS2).trans ((za HS3).mono (za HS2).size)).size)).block x0.heap.size (hlt (za HT))).trans (za HT)
  have t0:=zd ht 0
  have t1:=fun u=>aas (v:=u) (i:=0) (zd ht 1) (by decide)
  have t2:=fun u u'=>aap (v:=u) (v':=u') (i:=0) (i':=1) (zd ht 2) (by decide) (by decide)
  have y0:=zt ht 0
  have y1:=zt ht 1
  have y2:=zt ht 2
  have HTT:=zc ht
  clear ht
  refine wpAnyH_ready (rs:=[15]) (by kernel_rfl) (by simp) ?_
  refine AllReadyH.cons (o:={ dst:=none,op:=_,type:=_,pos:=_,after:=_,guard:=_ }) rfl (fun K hK=>?_) AllReadyH.nil
  go_simp
  refine hK.out _ _ trivial (fun _=>?_)
  clear hK K
  refine wpAnyH_done (by kernel_rfl) ?_ _
  have hmb:=act (za H) (za LA0) (za HX1) ((za HS3).trans ((za HS4).mono (za HS3).size)) (za LA1) (za HX2) (za HS4) (Nat.le_refl _) (za HTT) (za HX4) (za HX0).size
  go_wp2_with fail
  go_meet
  exact⟨l0,l1,_,wb0,wb1,rfl,rfl,rfl,hmb⟩
 obtain⟨l0,l1,tb,wb0,wb1,rfl,rfl,rfl,hbeg⟩:=hcut
 have HBEG:=zc hbeg
 clear hbeg
 go_wp2_with fail
 refine(ado _ tb 0 wc.heap.size 2 2).mono ?_
 rintro e w4 ⟨rfl,hw4⟩
 have hz4:(wc.alloc (.cells #[.pointer (some ⟨l0,0,none⟩),.pointer (some ⟨l1,0,none⟩)] 108)).heap.size=wc.heap.size+1:=by simp
 have hw4':w4=afn wc tb l0 l1:=hw4
 have HM4:Hid (MvAt B w4 (ab1 wc hp tb l0 wb0 l1 wb1 vyo vyf voo vof) (zw P) #[.int .i64 (P.fo+2*P.O.length),.slice none 0 0,.slice none 0 0] 47 (.slice none 0 0) (.slice none 0 0)):=by rw[hw4'];exact aga (za H) (za HBEG)
 have HBC:Hid (Below wc.heap.size wc w4):=by rw[hw4'];exact afb _ _ _ _
 have HB4:=zc ((za HBEG).below.trans ((za HBC).mono (za HBEG).below.size))
 have HG4:=zc ((za H).keep (za HB4))
 have HR4:=zc ((za HR).keep (za HB4))
 have HFIT:=zc (ajk (za HBEG) (za HBC).size (za HB4) (za HR))
 have HIN0:=zc (MInv.start (M:=zw P) (abz P) (by have:=(za H).two;simp only[zw];omega))
 have HCP0:=zc (aji (za H))
 rw[hz4]
 clear hw4 hw4' hz4
 go_wp2_with fail
 refine(ae1 (za HM4) (za HCP0) (za HIN0) (za HR4).rt (za HFIT).out (za HR4).n64 (za HR4).few cap).mono ?_
 rintro e w5 ⟨rfl,hF5,cs5,vt5,vf5,hM5,a5,b5⟩
 obtain⟨hI5,hL5,hft5,hT5,hp5,hW5⟩:=(za HIN0).roots (zy l)
 have hC5:=Cap.roots (zy l) (za HCP0) (za HIN0) (fun v hv=>by
  unfold zy at hv
  obtain⟨r,hr1,hr2⟩:=List.mem_filterMap.1 hv
  cases r with
  | none=>cases hr2
  | some z =>
   obtain⟨rb,ro,u⟩:=z
   cases hr2
   exact(za HR4).n64 rb ro _ hr1)
 have HF5:=zc hF5
 have HM5:=zc hM5
 have HI5:=zc hI5
 have HC5:=zc hC5
 have HL5:=zc hL5
 have HW5:=zc hW5
 have HA5:=zc a5
 have HB5:=zc b5
 have HFT5:=zc hft5
 have HP5:=zc hp5
 clear hF5 hM5 hI5 hC5 hL5 hW5 a5 b5 hft5 hT5 hp5
 go_wp2_with fail
 refine(afl (za HM5) (za HC5) (za HI5)).mono ?_
 rintro e w6 ⟨rfl,hF6,cs6,vt6,vf6,hM6,a6,b6⟩
 obtain⟨hI6,hL6,hft6,_,_⟩:=(za HI5).rest (pot (zv (zw P) (zy l))-(zg (zw P).T).length) (by omega)
 have hC6:=Cap.rest (pot (zv (zw P) (zy l))-(zg (zw P).T).length) (za HC5) (za HI5)
 have hLL:=(za HL5).trans hL6
 have hFF:=(za HF5).trans hF6 (za HA5) (za HB5)
 have aa:=aa4 (za HA5) a6 (za HF5).size
 have bb:=aa4 (za HB5) b6 (za HF5).size
 have hto:agv (aai (pot (zv (zw P) (zy l))-(zg (zw P).T).length) (zv (zw P) (zy l)) (zg (zw P).T).length):=fun t _=>by
  rw[hLL.leads,show _=(zw P).ft from hft6.trans (za HFT5)]
  exact ajj (za H) t
 have hft:(aai (pot (zv (zw P) (zy l))-(zg (zw P).T).length) (zv (zw P) (zy l)) (zg (zw P).T).length).ft=(zw P).ft:=hft6.trans (za HFT5)
 have hwn:∀rb ro v,some (rb,ro,v)∈l→aa0 (aai (pot (zv (zw P) (zy l))-(zg (zw P).T).length) (zv (zw P) (zy l)) (zg (zw P).T).length).L v:=fun rb ro v hv=>hL6.went (za HW5 v (by
  unfold zy
  exact List.mem_filterMap.2 ⟨_,hv,rfl⟩))
 have hcn6:=(aek (pot (zv (zw P) (zy l))-(zg (zw P).T).length) (za HI5)).trans (ad6 (zy l) (za HIN0))
 have hpo6:=(aej (pot (zv (zw P) (zy l))-(zg (zw P).T).length) (za HI5)).trans (za HP5)
 have hM6e:aai (pot (zv (zw P) (zy l))-(zg (zw P).T).length) (zv (zw P) (zy l)) (zg (zw P).T).length=aai (pot (zv (zw P) (zy l))) (zv (zw P) (zy l)) 0:=by
  have hz:(zg (zw P).T).length=0:=by simp[zw,zg]
  rw[hz,Nat.sub_zero]
 have HM6E:=zc hM6e
 clear hft6 hL6 hM6e
 generalize aai (pot (zv (zw P) (zy l))-(zg (zw P).T).length) (zv (zw P) (zy l)) (zg (zw P).T).length=M6 at *
 have c7:w6.cell? ⟨hp,7,none⟩=some (.int .i64 P.ro):=by
  have o:=acb (za HBEG) (za HBC).size (hlt (za H).at'.blk)
  exact(World.cell?_of_block (o.same hFF)).trans (zd (za HG4).at'.blk 7)
 obtain⟨cm,hcm⟩:∃cm:Nat,M6.T.length+(zg M6.T).length=cm:=⟨_,rfl⟩
 have hcmr:P.ro<(cm:Int):=by
  rw[←hcm,za HM6E]
  exact za HROOM
 have HCM:Hid (∀X,Below w6.heap.size w6 X→Calls prog 15 #[.pointer (some ⟨tb,0,none⟩)] X fun e w'=>e=.returned (.int .i64 (cm:Int))∧Below X.heap.size X w'):=fun X hX=>by
  have pt:PtAt B w6 tb 0 M6.T vt6 vf6:=⟨(zd hM6.tpart.blk _).trans hM6.tpart.e1,(zd hM6.tpart.blk _).trans hM6.tpart.e2,hM6.tpart.objs,hM6.tpart.flds,hM6.tpart.few⟩
  have:=abl (pt.keep hX) hM6.tpart.fewo
  rw[hcm] at this
  exact this
 have entc:∀w:World,Sem.run prog (callFunc 15 #[.pointer (some ⟨tb,0,none⟩)]) w=.ok (.enter 15 #[.pointer (some ⟨tb,0,none⟩)]) w:=fun _=>by kernel_rfl
 have HI6:=zc hI6
 have HC6:=zc hC6
 have HM6:=zc hM6
 have HLL:=zc hLL
 have HFF:=zc hFF
 have HAA:=zc aa
 have HBB:=zc bb
 have HTO:=zc hto
 have HFTM:=zc hft
 have HWN:=zc hwn
 clear hI6 hC6 hM6 hLL hFF aa bb hto hft hwn hF6 a6 b6 hcm
 go_wp2_with fail
 refine wp_region_held_drew (S:=fun w'=>w'.cell? ⟨hp,7,none⟩=some (.int .i64 P.ro)) (by kernel_rfl) c7 (fun hHeld=>?_)
 refine wpAnyH_take (i:=1) (oi:={ dst:=some 33,op:=_,type:=_,pos:=_,after:=_,guard:=_ }) (v:=?_) rfl (by kernel_rfl) (by kernel_rfl) (by kernel_rfl) (fun _ _ _ h=>h) (Or.inl ⟨by rfl,?_⟩) (by assumption) ?_
 case refine_2 =>
  intro w hSw
  try dsimp only at hSw
  go_simp
  try with_reducible rfl
 simp only[Act.put,sA,sB,sC]
 refine wpAnyH_take (i:=2) (oi:={ dst:=some 34,op:=_,type:=_,pos:=_,after:=_,guard:=_ }) (v:=?_) rfl (by kernel_rfl) (by kernel_rfl) (by kernel_rfl) (fun _ _ _ h=>h) (Or.inl ⟨by rfl,?_⟩) (by assumption) ?_
 case refine_2 =>
  intro w hSw
  try dsimp only at hSw
  go_simp
  try with_reducible rfl
 simp only[Act.put,sA,sB,sC]
 refine wpAnyH_take (i:=3) (oi:={ dst:=some 35,op:=_,type:=_,pos:=_,after:=_,guard:=_ }) (v:=?_) rfl (by kernel_rfl) (by kernel_rfl) (by kernel_rfl) (fun _ _ _ h=>h) (Or.inl ⟨by rfl,?_⟩) (by assumption) ?_
 case refine_2 =>
  intro w hSw
  try dsimp only at hSw
  go_simp
  try with_reducible rfl
 simp only[Act.put,sA,sB,sC]
 refine wpAnyH_take (i:=4) (oi:={ dst:=some 36,op:=_,type:=_,pos:=_,after:=_,guard:=_ }) (v:=?_) rfl (by kernel_rfl) (by kernel_rfl) (by kernel_rfl) (fun _ _ _ h=>h) (Or.inl ⟨by rfl,?_⟩) (by assumption) ?_
 case refine_2 =>
  intro w hSw
  try dsimp only at hSw
  go_simp
  try with_reducible rfl
 simp only[Act.put,sA,sB,sC]
 refine wpAnyH_ready (rs:=[0]) (by kernel_rfl) (by simp) ?_
 refine AllReadyH.cons (o:={ dst:=some 32,op:=_,type:=_,pos:=_,after:=_,guard:=_ }) rfl (fun K hK=>?_) AllReadyH.nil
 refine aag rfl (by simp[Act.eval,entc,go_sem]) (((za HCM) _ (Below.drew (Below.refl _ _))).mono ?_)
 rintro e w7 ⟨rfl,hb7⟩
 have k7:=zj hb7 c7 (ze c7)
 have HB67:Hid (Below w6.heap.size w6 w7):=(Below.drew (Below.refl _ _)).trans hb7
 clear hb7
 refine hK.out _ _ k7 (fun hHeld0=>?_)
 clear hK K
 simp only[Act.put,sA,sB,sC]
 refine wpAnyH_take (i:=5) (oi:={ dst:=some 37,op:=_,type:=_,pos:=_,after:=_,guard:=_ }) (v:=?_) rfl (by kernel_rfl) (by kernel_rfl) (by kernel_rfl) (fun _ _ _ h=>h) (Or.inl ⟨by rfl,?_⟩) (by assumption) ?_
 case refine_2 =>
  intro w hSw
  try dsimp only at hSw
  go_simp
  try with_reducible rfl
 simp only[Act.put,sA,sB,sC]
 refine wpAnyH_done (by kernel_rfl) ?_ _
 go_wp2_with fail
 go_ret
 have o:=fun k (hk:k<w.heap.size)=>acb (za HBEG) (za HBC).size hk
 refine⟨rfl,(za HB67).os.trans ((za HFF).os.trans (za HB4).os),(za HB67).tape.trans ((za HFF).tape.trans (za HB4).tape),(za HB67).output.trans ((za HFF).output.trans (za HB4).output),Nat.le_trans (za HB4).size (Nat.le_trans (za HFF).size (za HB67).size),fun k hk=>?_⟩
 have h4:k<w4.heap.size:=Nat.lt_of_lt_of_le hk (za HB4).size
 rw[(za HB67).block k (Nat.lt_of_lt_of_le h4 (za HFF).size),(o k hk).same (za HFF)]
 exact(za HB4).block k hk
end
section
open Go.RowKit Go.Maps
theorem aqb {B:Nat} {w:World} {hp mb:Nat} {P:PHp} {vyo vyf voo vof vn:Value} (h:HpAt B w hp mb P vyo vyf voo vof vn) :
  Calls prog 28 #[.pointer (some ⟨hp,0,none⟩)] w fun e w'=>e=.returned (.int .i64 P.last)∧w'=w:=by
 have c10:w.cell? ⟨hp,10,none⟩=some (.int .i64 P.last):=zd h.blk 10
 clear h
 go_enter func28,ntmps28
 go_wp2_with fail
 go_ret
 exact⟨rfl,rfl⟩
theorem aqc (w:World):(zeroValue 3).run prog w=.ok (.int .i64 0) w:=by kernel_rfl
theorem aqd {w:World} {mb n:Nat} {D:DataW Unit} (h:w.ownsMap prog 3 (plainElem prog 3) mb n D) {x:Int} (hx:I64 x) :
  ∃v:Int,D.atKey (.int .i64 x) (.lit (.int .i64 0))=.lit (.int .i64 v)∧(Go.Instr.lookup 48 (.map (some mb)) (.int .i64 x) true).run prog w=.ok (.tuple #[.int .i64 v,.bool (Maps.has D (.int .i64 x))]) w:=by
 obtain⟨v,ps,hrun,hv⟩:=h.look_ok ac3 underlying48 (aqc w) (plainElem_int underlying3 (by decide)) (keyOf_int_mk underlying3 (adj hx))
 obtain⟨c,rfl,hc,hwc⟩:=plainElem_int_inv underlying3 hv
 simp only[Prod.mk.injEq] at hc
 exact⟨c,hc.1,hrun⟩
theorem at_id {B:Nat} {w:World} {hp mb:Nat} {P:PHp} {D:DataW Unit} {n:Nat} {vyo vyf voo vof vn:Value} (h:HpG B w hp mb P D n vyo vyf voo vof vn) {x:Int} (hx:I64 x) :
  Calls prog 20 #[.pointer (some ⟨hp,0,none⟩),.int .i64 x] w fun e w'=>(∃v:Int,D.atKey (.int .i64 x) (.lit (.int .i64 0))=.lit (.int .i64 v)∧e=.returned (.tuple #[.int .i64 v,.bool (Maps.has D (.int .i64 x))]))∧w'=w:=by
 have c9:w.cell? ⟨hp,9,none⟩=some (.map (some mb)):=zd h.at'.blk 9
 obtain⟨v,hv,hl⟩:=aqd h.own hx
 have HV:=zc hv
 clear h hv
 go_enter func20,ntmps20
 go_wp2_with fail
 go_ret2
 exact⟨⟨v,za HV,rfl⟩,rfl⟩
theorem use_any {B:Nat} {w:World} {hp mb:Nat} {P:PHp} {D:DataW Unit} {n:Nat} {vyo vyf voo vof vn:Value} (h:HpG B w hp mb P D n vyo vyf voo vof vn) :
  Calls prog 26 #[.pointer (some ⟨hp,0,none⟩)] w fun e w'=>e=.returned (.tuple #[.int .i64 ((P.Y.length+(zg P.Y).length:Nat):Int),.int .i64 ((P.O.length+(zg P.O).length:Nat):Int),.int .i64 P.minors,.int .i64 P.majors])∧Below w.heap.size w w':=by
 have c11:w.cell? ⟨hp,11,none⟩=some (.int .i64 P.minors):=zd h.at'.blk 11
 have c12:w.cell? ⟨hp,12,none⟩=some (.int .i64 P.majors):=zd h.at'.blk 12
 have hc1:=h.cnt
 have hc2:=h.pot
 have HPY:=zc (h.at'.young h.few)
 have HPO:=zc (h.at'.old h.few)
 obtain⟨cy,hcy⟩:∃cy:Nat,P.Y.length+(zg P.Y).length=cy:=⟨_,rfl⟩
 obtain⟨co,hco⟩:∃co:Nat,P.O.length+(zg P.O).length=co:=⟨_,rfl⟩
 have HCY:Hid (∀X,Below w.heap.size w X→Calls prog 15 #[.pointer (some ⟨hp,0,none⟩)] X fun e w'=>e=.returned (.int .i64 (cy:Int))∧Below X.heap.size X w'):=fun X hX=>by
  have:=abl ((za HPY).keep hX) (by omega)
  rw[hcy] at this
  exact this
 have HCO:Hid (∀X,Below w.heap.size w X→Calls prog 15 #[.pointer (some ⟨hp,3,none⟩)] X fun e w'=>e=.returned (.int .i64 (co:Int))∧Below X.heap.size X w'):=fun X hX=>by
  have:=abl ((za HPO).keep hX) (by omega)
  rw[hco] at this
  exact this
 rw[hcy,hco]
 clear h hcy hco hc1 hc2
 have ent0:∀w:World,Sem.run prog (callFunc 15 #[.pointer (some ⟨hp,0,none⟩)]) w=.ok (.enter 15 #[.pointer (some ⟨hp,0,none⟩)]) w:=fun _=>by kernel_rfl
 have ent3:∀w:World,Sem.run prog (callFunc 15 #[.pointer (some ⟨hp,3,none⟩)]) w=.ok (.enter 15 #[.pointer (some ⟨hp,3,none⟩)]) w:=fun _=>by kernel_rfl
 go_enter func26,ntmps26
 go_wp2_with fail
 refine wp_region_held_drew (S:=fun w'=>w'.cell? ⟨hp,11,none⟩=some (.int .i64 P.minors)∧w'.cell? ⟨hp,12,none⟩=some (.int .i64 P.majors)) (by kernel_rfl) ⟨c11,c12⟩ (fun hHeld=>?_)
 refine wpAnyH_take (i:=0) (oi:={ dst:=some 8,op:=_,type:=_,pos:=_,after:=_,guard:=_ }) (v:=?_) rfl (by kernel_rfl) (by kernel_rfl) (by kernel_rfl) (fun _ _ _ h=>h) (Or.inl ⟨by rfl,?_⟩) (by assumption) ?_
 case refine_2 =>
  intro w hSw
  try dsimp only at hSw
  try obtain⟨hS1,hS2⟩:=hSw
  go_simp
  try with_reducible rfl
 simp only[Act.put,sA,sB,sC]
 refine wpAnyH_take (i:=1) (oi:={ dst:=some 9,op:=_,type:=_,pos:=_,after:=_,guard:=_ }) (v:=?_) rfl (by kernel_rfl) (by kernel_rfl) (by kernel_rfl) (fun _ _ _ h=>h) (Or.inl ⟨by rfl,?_⟩) (by assumption) ?_
 case refine_2 =>
  intro w hSw
  try dsimp only at hSw
  try obtain⟨hS1,hS2⟩:=hSw
  go_simp
  try with_reducible rfl
 simp only[Act.put,sA,sB,sC]
 refine wpAnyH_take (i:=2) (oi:={ dst:=some 10,op:=_,type:=_,pos:=_,after:=_,guard:=_ }) (v:=?_) rfl (by kernel_rfl) (by kernel_rfl) (by kernel_rfl) (fun _ _ _ h=>h) (Or.inl ⟨by rfl,?_⟩) (by assumption) ?_
 case refine_2 =>
  intro w hSw
  try dsimp only at hSw
  try obtain⟨hS1,hS2⟩:=hSw
  go_simp
  try with_reducible rfl
 simp only[Act.put,sA,sB,sC]
 refine wpAnyH_take (i:=4) (oi:={ dst:=some 12,op:=_,type:=_,pos:=_,after:=_,guard:=_ }) (v:=?_) rfl (by kernel_rfl) (by kernel_rfl) (by kernel_rfl) (fun _ _ _ h=>h) (Or.inl ⟨by rfl,?_⟩) (by assumption) ?_
 case refine_2 =>
  intro w hSw
  try dsimp only at hSw
  try obtain⟨hS1,hS2⟩:=hSw
  go_simp
  try with_reducible rfl
 simp only[Act.put,sA,sB,sC]
 refine wpAnyH_take (i:=5) (oi:={ dst:=some 13,op:=_,type:=_,pos:=_,after:=_,guard:=_ }) (v:=?_) rfl (by kernel_rfl) (by kernel_rfl) (by kernel_rfl) (fun _ _ _ h=>h) (Or.inl ⟨by rfl,?_⟩) (by assumption) ?_
 case refine_2 =>
  intro w hSw
  try dsimp only at hSw
  try obtain⟨hS1,hS2⟩:=hSw
  go_simp
  try with_reducible rfl
 simp only[Act.put,sA,sB,sC]
 refine wpAnyH_take (i:=6) (oi:={ dst:=some 14,op:=_,type:=_,pos:=_,after:=_,guard:=_ }) (v:=?_) rfl (by kernel_rfl) (by kernel_rfl) (by kernel_rfl) (fun _ _ _ h=>h) (Or.inl ⟨by rfl,?_⟩) (by assumption) ?_
 case refine_2 =>
  intro w hSw
  try dsimp only at hSw
  try obtain⟨hS1,hS2⟩:=hSw
  go_simp
  try with_reducible rfl
 simp only[Act.put,sA,sB,sC]
 refine wpAnyH_take (i:=8) (oi:={ dst:=some 16,op:=_,type:=_,pos:=_,after:=_,guard:=_ }) (v:=?_) rfl (by kernel_rfl) (by kernel_rfl) (by kernel_rfl) (fun _ _ _ h=>h) (Or.inl ⟨by rfl,?_⟩) (by assumption) ?_
 case refine_2 =>
  intro w hSw
  try dsimp only at hSw
  try obtain⟨hS1,hS2⟩:=hSw
  go_simp
  try with_reducible rfl
 simp only[Act.put,sA,sB,sC]
 refine wpAnyH_take (i:=9) (oi:={ dst:=some 17,op:=_,type:=_,pos:=_,after:=_,guard:=_ }) (v:=?_) rfl (by kernel_rfl) (by kernel_rfl) (by kernel_rfl) (fun _ _ _ h=>h) (Or.inl ⟨by rfl,?_⟩) (by assumption) ?_
 case refine_2 =>
  intro w hSw
  try dsimp only at hSw
  try obtain⟨hS1,hS2⟩:=hSw
  go_simp
  try with_reducible rfl
 simp only[Act.put,sA,sB,sC]
 refine wpAnyH_take (i:=10) (oi:={ dst:=some 18,op:=_,type:=_,pos:=_,after:=_,guard:=_ }) (v:=?_) rfl (by kernel_rfl) (by kernel_rfl) (by kernel_rfl) (fun _ _ _ h=>h) (Or.inl ⟨by rfl,?_⟩) (by assumption) ?_
 case refine_2 =>
  intro w hSw
  try dsimp only at hSw
  try obtain⟨hS1,hS2⟩:=hSw
  go_simp
  try with_reducible rfl
 simp only[Act.put,sA,sB,sC]
 refine wpAnyH_take (i:=11) (oi:={ dst:=some 19,op:=_,type:=_,pos:=_,after:=_,guard:=_ }) (v:=?_) rfl (by kernel_rfl) (by kernel_rfl) (by kernel_rfl) (fun _ _ _ h=>h) (Or.inl ⟨by rfl,?_⟩) (by assumption) ?_
 case refine_2 =>
  intro w hSw
  try dsimp only at hSw
  try obtain⟨hS1,hS2⟩:=hSw
  go_simp
  try with_reducible rfl
 simp only[Act.put,sA,sB,sC]
 refine wpAnyH_take (i:=12) (oi:={ dst:=some 20,op:=_,type:=_,pos:=_,after:=_,guard:=_ }) (v:=?_) rfl (by kernel_rfl) (by kernel_rfl) (by kernel_rfl) (fun _ _ _ h=>h) (Or.inl ⟨by rfl,?_⟩) (by assumption) ?_
 case refine_2 =>
  intro w hSw
  try dsimp only at hSw
  try obtain⟨hS1,hS2⟩:=hSw
  go_simp
  try with_reducible rfl
 simp only[Act.put,sA,sB,sC]
 refine wpAnyH_take (i:=13) (oi:={ dst:=some 21,op:=_,type:=_,pos:=_,after:=_,guard:=_ }) (v:=?_) rfl (by kernel_rfl) (by kernel_rfl) (by kernel_rfl) (fun _ _ _ h=>h) (Or.inl ⟨by rfl,?_⟩) (by assumption) ?_
 case refine_2 =>
  intro w hSw
  try dsimp only at hSw
  try obtain⟨hS1,hS2⟩:=hSw
  go_simp
  try with_reducible rfl
 simp only[Act.put,sA,sB,sC]
 refine wpAnyH_take (i:=14) (oi:={ dst:=some 22,op:=_,type:=_,pos:=_,after:=_,guard:=_ }) (v:=?_) rfl (by kernel_rfl) (by kernel_rfl) (by kernel_rfl) (fun _ _ _ h=>h) (Or.inl ⟨by rfl,?_⟩) (by assumption) ?_
 case refine_2 =>
  intro w hSw
  try dsimp only at hSw
  try obtain⟨hS1,hS2⟩:=hSw
  go_simp
  try with_reducible rfl
 simp only[Act.put,sA,sB,sC]
 refine wpAnyH_take (i:=15) (oi:={ dst:=some 23,op:=_,type:=_,pos:=_,after:=_,guard:=_ }) (v:=?_) rfl (by kernel_rfl) (by kernel_rfl) (by kernel_rfl) (fun _ _ _ h=>h) (Or.inl ⟨by rfl,?_⟩) (by assumption) ?_
 case refine_2 =>
  intro w hSw
  try dsimp only at hSw
  try obtain⟨hS1,hS2⟩:=hSw
  go_simp
  try with_reducible rfl
 simp only[Act.put,sA,sB,sC]
 refine wpAnyH_ready (rs:=[3]) (by kernel_rfl) (by simp) ?_
 refine AllReadyH.cons (o:={ dst:=some 11,op:=_,type:=_,pos:=_,after:=_,guard:=_ }) rfl (fun K hK=>?_) AllReadyH.nil
 refine aag rfl (by simp[Act.eval,ent0,go_sem]) (((za HCY) _ (Below.drew (Below.refl _ _))).mono ?_)
 rintro e w1 ⟨rfl,hb1⟩
 have k11:=zj hb1 (show w.drew.cell? _=_ from c11) (ze c11)
 have k12:=zj hb1 (show w.drew.cell? _=_ from c12) (ze c12)
 have HB1:=zc hb1
 clear hb1
 refine hK.out _ _ ⟨k11,k12⟩ (fun hHeld3=>?_)
 clear hK K
 simp only[Act.put,sA,sB,sC]
 refine wpAnyH_ready (rs:=[7]) (by kernel_rfl) (by simp) ?_
 refine AllReadyH.cons (o:={ dst:=some 15,op:=_,type:=_,pos:=_,after:=_,guard:=_ }) rfl (fun K hK=>?_) AllReadyH.nil
 refine aag rfl (by simp[Act.eval,ent3,go_sem]) (((za HCO) _ ((Below.drew (Below.refl _ _)).trans (za HB1))).mono ?_)
 rintro e w2 ⟨rfl,hb2⟩
 have j11:=zj hb2 k11 (ze k11)
 have j12:=zj hb2 k12 (ze k12)
 have HB2:=zc hb2
 clear hb2
 refine hK.out _ _ ⟨j11,j12⟩ (fun hHeld7=>?_)
 clear hK K
 simp only[Act.put,sA,sB,sC]
 refine wpAnyH_take (i:=16) (oi:={ dst:=some 2,op:=_,type:=_,pos:=_,after:=_,guard:=_ }) (v:=?_) rfl (by kernel_rfl) (by kernel_rfl) (by kernel_rfl) (fun _ _ _ h=>h) (Or.inl ⟨by rfl,?_⟩) (by assumption) ?_
 case refine_2 =>
  intro w hSw
  try dsimp only at hSw
  try obtain⟨hS1,hS2⟩:=hSw
  go_simp
  try with_reducible rfl
 simp only[Act.put,sA,sB,sC]
 refine wpAnyH_take (i:=17) (oi:={ dst:=some 3,op:=_,type:=_,pos:=_,after:=_,guard:=_ }) (v:=?_) rfl (by kernel_rfl) (by kernel_rfl) (by kernel_rfl) (fun _ _ _ h=>h) (Or.inl ⟨by rfl,?_⟩) (by assumption) ?_
 case refine_2 =>
  intro w hSw
  try dsimp only at hSw
  try obtain⟨hS1,hS2⟩:=hSw
  go_simp
  try with_reducible rfl
 simp only[Act.put,sA,sB,sC]
 refine wpAnyH_take (i:=18) (oi:={ dst:=some 4,op:=_,type:=_,pos:=_,after:=_,guard:=_ }) (v:=?_) rfl (by kernel_rfl) (by kernel_rfl) (by kernel_rfl) (fun _ _ _ h=>h) (Or.inl ⟨by rfl,?_⟩) (by assumption) ?_
 case refine_2 =>
  intro w hSw
  try dsimp only at hSw
  try obtain⟨hS1,hS2⟩:=hSw
  go_simp
  try with_reducible rfl
 simp only[Act.put,sA,sB,sC]
 refine wpAnyH_take (i:=19) (oi:={ dst:=some 5,op:=_,type:=_,pos:=_,after:=_,guard:=_ }) (v:=?_) rfl (by kernel_rfl) (by kernel_rfl) (by kernel_rfl) (fun _ _ _ h=>h) (Or.inl ⟨by rfl,?_⟩) (by assumption) ?_
 case refine_2 =>
  intro w hSw
  try dsimp only at hSw
  try obtain⟨hS1,hS2⟩:=hSw
  go_simp
  try with_reducible rfl
 simp only[Act.put,sA,sB,sC]
 refine wpAnyH_done (by kernel_rfl) ?_ _
 have hbw:Below w.heap.size w w2:=((Below.drew (Below.refl _ _)).trans (za HB1)).trans ((za HB2).mono (za HB1).size)
 have HBW:=zc hbw
 clear hbw k11 k12 j11 j12 hHeld hHeld3 hHeld7 c11 c12
 go_wp2_with fail
 exact bodyPost_ret (v:=.tuple #[.int .i64 (cy:Int),.int .i64 (co:Int),.int .i64 P.minors,.int .i64 P.majors]) (by simp[results,Tryz.results26,go_sem]) rfl ⟨rfl,za HBW⟩
end
end Go.Proofs.YtpnghfghdbijlaaGreatDoor
