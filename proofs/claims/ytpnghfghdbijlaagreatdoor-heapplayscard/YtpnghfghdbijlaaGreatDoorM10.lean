/- A part. -/
import Derived.Test.YtpnghfghdbijlaaGreatDoorM09
import Derived.LaidEqlPtr
open Go.Proofs.Tryz
namespace Go.Proofs.YtpnghfghdbijlaaGreatDoor
open Go.RowKit
set_option linter.unusedVariables false
set_option linter.unusedSimpArgs false
set_option maxRecDepth 100000
set_option maxHeartbeats 40000000
section
open Go.RowKit Go.Maps
theorem afp {B:Nat} {w:World} {b o:Nat} {cs:Array Value} {T:TypeId} {f:Int} {l:List HO} {vo vf:Value} (h:PtB B w b o cs T f l vo vf) (hB:B≤w.heap.size) (x:HO) {sz:Nat} (hx:x.fs=aay sz) (hxn:x.noted=false) {vb:Nat} (hv:w.heap[vb]?=some (.cells (aa9 sz) 69 (0,0))) (hf0:0≤f) (hf1:f+2*l.length+2≤4611686018427387904) (hfew:(zg l).length+sz≤10000000) (hfo:l.length+1≤10000000) (ho:o+2<cs.size) :
  Calls prog 16 #[.pointer (some ⟨b,o,none⟩),.agg #[.int .i64 x.kind,.int .i64 x.tag,.int .i64 x.id,.int .i64 0,.int .i64 sz,.bool false],.slice (some ⟨vb,0,none⟩) sz sz] w fun e w'=>AddG B w b o cs T f l x vo vf e w':=by
 have hl:x.fs.length=sz:=by rw[hx];simp[aay]
 by_cases h0:sz=0
 ·subst h0
  exact akr h hB x (by rw[hx];rfl) hxn 0 false hf0 hf1 hfo ho
 ·have:=al5 h hB x (by omega) hxn 0 false (ad:=⟨vb,0,none⟩) (c:=sz) (fun j u hu=>?_) ⟨_,_,hv⟩ hf0 hf1 (by omega) hfo ho
  ·rw[hl] at this
   exact this
  ·rw[hx] at hu
   rw[show (Addr.add ⟨vb,0,none⟩ j)=⟨vb,j,none⟩ by simp[Addr.add];exact fun e=>e.symm]
   rw[zd hv j]
   unfold aa9
   rw[List.getElem?_toArray]
   exact hu
end
section
open Go.RowKit Go.Maps
theorem am1 {P:PHp} {vyo vyf voo vof vn:Value} {mb:Nat} (v:Int):(zx P vyo vyf voo vof vn mb).setIfInBounds 10 (.int .i64 v)=zx { P with last:=v } vyo vyf voo vof vn mb:=by
 refine ahf (by simp[zx]) rfl (fun c hc=>?_)
 match c,hc with
 | 0,_=>simp[zx]
 | 1,_=>simp[zx]
 | 2,_=>simp[zx]
 | 3,_=>simp[zx]
 | 4,_=>simp[zx]
 | 5,_=>simp[zx]
 | 6,_=>simp[zx]
 | 7,_=>simp[zx]
 | 8,_=>simp[zx]
 | 9,_=>simp[zx]
 | 10,_=>simp[zx]
 | 11,_=>simp[zx]
 | 12,_=>simp[zx]
theorem HpG.wrote {B:Nat} {w:World} {hp mb:Nat} {P:PHp} {D:DataW Unit} {n:Nat} {vyo vyf voo vof vn:Value} (h:HpG B w hp mb P D n vyo vyf voo vof vn) (v:Int):HpG B (w.setCell ⟨hp,10,none⟩ (.int .i64 v)) hp mb { P with last:=v } D n vyo vyf voo vof vn:=by
 have tH:Typ w hp 51:=⟨_,_,h.at'.blk⟩
 have mv:∀{k t},Typ w k t→t≠51→(w.setCell ⟨hp,10,none⟩ (.int .i64 v)).heap[k]?=w.heap[k]?:=fun hk hne=>zo _ (hk.ne tH hne)
 obtain⟨a,⟨es,cl,h1,h2⟩,c,d,e,f,g,i,j,k,l,m⟩:=h
 have hne:mb≠hp:=fun q=>by
  have:=a.blk
  rw[←q,h1] at this
  cases this
 refine⟨⟨?_,zs a.yo fun j hj=>mv (zu a.yo hj) (by decide),zs a.yf fun j hj=>mv (zu a.yf hj) (by decide),zs a.oo fun j hj=>mv (zu a.oo hj) (by decide),zs a.of' fun j hj=>mv (zu a.of' hj) (by decide),zs a.nt fun j hj=>mv (zu a.nt hj) (by decide)⟩,⟨es,cl,(zo _ hne).trans h1,h2⟩,c,d,⟨e.y0,e.o0,e.y1,e.o1,e.yo,e.oe⟩,⟨f.y,f.o⟩,g,i,j,k,l,Nat.le_trans m (by simp[World.setCell])⟩
 rw[aad a.blk,am1]
end
section
open Go.RowKit Go.Maps
theorem alw {P:PHp} {vyo vyf voo vof vn vo vf:Value} {mb:Nat} (Y:List HO):((zx P vyo vyf voo vof vn mb).setIfInBounds (0+1) vo).setIfInBounds (0+2) vf=zx { P with Y:=Y } vo vf voo vof vn mb:=by
 refine ahf (by simp[zx]) rfl (fun c hc=>?_)
 match c,hc with
 | 0,_=>simp[zx]
 | 1,_=>simp[zx]
 | 2,_=>simp[zx]
 | 3,_=>simp[zx]
 | 4,_=>simp[zx]
 | 5,_=>simp[zx]
 | 6,_=>simp[zx]
 | 7,_=>simp[zx]
 | 8,_=>simp[zx]
 | 9,_=>simp[zx]
 | 10,_=>simp[zx]
 | 11,_=>simp[zx]
 | 12,_=>simp[zx]
theorem HpG.ptb {B:Nat} {w:World} {hp mb:Nat} {P:PHp} {D:DataW Unit} {n:Nat} {vyo vyf voo vof vn:Value} (h:HpG B w hp mb P D n vyo vyf voo vof vn):PtB B w hp 0 (zx P vyo vyf voo vof vn mb) 51 P.fy P.Y vyo vyf :=
 ⟨h.at'.blk,rfl,rfl,rfl,h.at'.yo,h.at'.yf,h.few.y,by have:=h.cnt;omega,by decide,by decide⟩
theorem HpG.added {B:Nat} {w w':World} {hp mb:Nat} {P:PHp} {D:DataW Unit} {n:Nat} {vyo vyf voo vof vn vo vf:Value} (h:HpG B w hp mb P D n vyo vyf voo vof vn) {x:HO} (hP:PtB B w' hp 0 (((zx P vyo vyf voo vof vn mb).setIfInBounds (0+1) vo).setIfInBounds (0+2) vf) 51 P.fy (P.Y++[x]) vo vf) (hF:FrA hp vyo vyf w w')
  (h1:vo.ownBlock=vyo.ownBlock∨∀j,vo.ownBlock=some j→w.heap.size≤j) (h2:vf.ownBlock=vyf.ownBlock∨∀j,vf.ownBlock=some j→w.heap.size≤j)
  (c1:P.Y.length+1+P.O.length+1≤5000000) (c2:(zg P.Y).length+x.fs.length+(zg P.O).length≤10000000) (c3:P.fo+2*P.O.length+2*(P.Y.length+1+P.O.length)+2≤4611686018427387904) (c4:P.fy+2*(P.Y.length+1)≤4611686018427387904) (c5:I64 x.id∧∀v∈x.fs,I64 v.n) :
  HpG B w' hp mb { P with Y:=P.Y++[x] } D n vo vf voo vof vn:=by
 have tH:Typ w hp 51:=⟨_,_,h.at'.blk⟩
 have al:(zg (P.Y++[x])).length=(zg P.Y).length+x.fs.length:=by simp[zg]
 have mv:∀{k t},Typ w k t→t≠51→vyo.ownBlock≠some k→vyf.ownBlock≠some k→w'.heap[k]?=w.heap[k]?:=fun hk hne a b=>hF.block _ hk.lt (hk.ne tH hne) a b
 have ny:∀{k t},Typ w k t→t≠61→vyo.ownBlock≠some k:=fun hk hne e=>hk.ne (zu h.at'.yo e) hne rfl
 have nf:∀{k t},Typ w k t→t≠69→vyf.ownBlock≠some k:=fun hk hne e=>hk.ne (zu h.at'.yf e) hne rfl
 obtain⟨es,cl,m1,m2⟩:=h.own
 have hme:mb≠hp:=fun q=>by
  have:=h.at'.blk
  rw[←q,m1] at this
  cases this
 have hmm:w'.heap[mb]?=w.heap[mb]?:=hF.block _ (hlt m1) hme (fun e=>abj m1 (zu h.at'.yo e) rfl) (fun e=>abj m1 (zu h.at'.yf e) rfl)
 refine⟨⟨?_,hP.objs,hP.flds,zs h.at'.oo fun j hj=>mv (zu h.at'.oo hj) (by decide) (fun e=>h.ao j e hj) (nf (zu h.at'.oo hj) (by decide)),zs h.at'.of' fun j hj=>mv (zu h.at'.of' hj) (by decide) (ny (zu h.at'.of' hj) (by decide)) (fun e=>h.af j e hj),zs h.at'.nt fun j hj=>mv (zu h.at'.nt hj) (by decide) (ny (zu h.at'.nt hj) (by decide)) (nf (zu h.at'.nt hj) (by decide))⟩,⟨es,cl,hmm.trans m1,m2⟩,fun j hj=>?_,fun j hj=>?_,⟨h.small.y0,h.small.o0,?_,h.small.o1,h.small.yo,h.small.oe⟩,⟨?_,h.few.o⟩,h.two,?_,?_,?_,fun y hy=>?_,Nat.le_trans h.hB hF.size⟩
 ·rw[hP.blk,alw (P.Y++[x])]
 ·rcases h1 with q | q
  ·exact h.ao j (q ▸ hj)
  ·exact fun e=>by have:=(zu h.at'.oo e).lt;have:=q j hj;omega
 ·rcases h2 with q | q
  ·exact h.af j (q ▸ hj)
  ·exact fun e=>by have:=(zu h.at'.of' e).lt;have:=q j hj;omega
 ·simp only[List.length_append,List.length_singleton];omega
 ·simp only[al];omega
 ·simp only[List.length_append,List.length_singleton];omega
 ·simp only[al];exact c2
 ·simp only[List.length_append,List.length_singleton];omega
 ·simp only[List.mem_append,List.mem_singleton] at hy
  rcases hy with (q | q) | q
  ·exact h.vals y (List.mem_append_left _ q)
  ·subst q;exact c5
  ·exact h.vals y (List.mem_append_right _ q)
end
section
open Go.RowKit Go.Maps
theorem HpG.stored {B:Nat} {w w':World} {hp mb:Nat} {P:PHp} {D D':DataW Unit} {n n':Nat} {vyo vyf voo vof vn:Value} (h:HpG B w hp mb P D n vyo vyf voo vof vn) (ho:w'.ownsMap prog 3 (plainElem prog 3) mb n' D') (hg:w.grownBy w' (some mb)):HpG B w' hp mb P D' n' vyo vyf voo vof vn:=by
 obtain⟨es,cl,m1,_⟩:=h.own
 have mv:∀{k t},Typ w k t→w'.heap[k]?=w.heap[k]?:=fun hk=>hg.block _ hk.lt (fun e=>abj m1 hk (Option.some.inj e))
 have tH:Typ w hp 51:=⟨_,_,h.at'.blk⟩
 exact⟨⟨(mv tH).trans h.at'.blk,zs h.at'.yo fun j hj=>mv (zu h.at'.yo hj),zs h.at'.yf fun j hj=>mv (zu h.at'.yf hj),zs h.at'.oo fun j hj=>mv (zu h.at'.oo hj),zs h.at'.of' fun j hj=>mv (zu h.at'.of' hj),zs h.at'.nt fun j hj=>mv (zu h.at'.nt hj)⟩,ho,h.ao,h.af,h.small,h.few,h.two,h.cnt,h.pot,h.top,h.vals,Nat.le_trans h.hB hg.size⟩
def newO (P:PHp) (tag:Int) (sz:Nat):HO:=⟨2,tag,P.last+1,aay sz,false⟩
def allocP (P:PHp) (tag:Int) (sz:Nat):PHp:={ P with last:=P.last+1,Y:=P.Y++[newO P tag sz] }
def AllocG (B:Nat) (w:World) (hp mb:Nat) (P:PHp) (D:DataW Unit) (n:Nat) (tag:Int) (sz:Nat) (vyo vyf voo vof vn:Value) (w':World):Prop :=
 ∃vo vf,HpG B w' hp mb (allocP P tag sz) (D.put (.int .i64 (P.last+1)) (.lit (.int .i64 (P.fy+2*P.Y.length)))) (n+1) vo vf voo vof vn ∧
  (∀k,k<w.heap.size→k≠hp→k≠mb→vyo.ownBlock≠some k→vyf.ownBlock≠some k→w'.heap[k]?=w.heap[k]?)∧(vo.ownBlock=vyo.ownBlock∨∀j,vo.ownBlock=some j→w.heap.size≤j)∧(vf.ownBlock=vyf.ownBlock∨∀j,vf.ownBlock=some j→w.heap.size≤j) ∧
  w.heap.size≤w'.heap.size∧w'.os=w.os∧w'.tape=w.tape∧w'.output=w.output
end
section
open Go.RowKit Go.Maps
theorem ak1 {l:List HO} {i:Nat} {v:HV} {y:HO} (hy:y∈aah l i v):∃x∈l,x.id=y.id:=by
 have h:hdr y∈(aah l i v).map hdr:=List.mem_map.2 ⟨y,hy,rfl⟩
 rw[adx] at h
 obtain⟨x,hx,e⟩:=List.mem_map.1 h
 unfold hdr at e
 exact⟨x,hx,(Prod.ext_iff.1 (Prod.ext_iff.1 (Prod.ext_iff.1 e).2).2).1⟩
theorem HpG.fieldSet {B:Nat} {w:World} {hp mb:Nat} {P:PHp} {D:DataW Unit} {n:Nat} {vyo vyf voo vof vn:Value} (h:HpG B w hp mb P D n vyo vyf voo vof vn) {g cap:Nat} (hv:vyf=.slice (some ⟨g,0,none⟩) (zg P.Y).length cap) {i:Nat} (hi:i<(zg P.Y).length) (v:HV) (hn:I64 v.n) :
  HpG B (((w.setCell ⟨g,i*3,none⟩ (.int .i64 v.kind)).setCell ⟨g,i*3+1,none⟩ (.int .i64 v.n)).setCell ⟨g,i*3+2,none⟩ (.string v.s)) hp mb { P with Y:=aah P.Y i v } D n vyo vyf voo vof vn:=by
 have hob:vyf.ownBlock=some g:=by rw[hv];rfl
 have hty:Typ w g 69:=zu h.at'.yf hob
 have tH:Typ w hp 51:=⟨_,_,h.at'.blk⟩
 have oth:∀k,k≠g→(((w.setCell ⟨g,i*3,none⟩ (.int .i64 v.kind)).setCell ⟨g,i*3+1,none⟩ (.int .i64 v.n)).setCell ⟨g,i*3+2,none⟩ (.string v.s)).heap[k]?=w.heap[k]?:=fun k hk=>by
  rw[zo _ hk,zo _ hk,zo _ hk]
 have kt:∀{k t},Typ w k t→t≠69→(((w.setCell ⟨g,i*3,none⟩ (.int .i64 v.kind)).setCell ⟨g,i*3+1,none⟩ (.int .i64 v.n)).setCell ⟨g,i*3+2,none⟩ (.string v.s)).heap[k]?=w.heap[k]?:=fun hk hne=>oth _ (hk.ne hty hne)
 have hl3:(aah P.Y i v).length=P.Y.length:=abr _ _ _
 have hl4:(zg (aah P.Y i v)).length=(zg P.Y).length:=by rw[abw,List.length_set]
 obtain⟨es,cl,m1,m2⟩:=h.own
 refine⟨⟨(kt tH (by decide)).trans h.at'.blk,?_,?_,zs h.at'.oo fun j hj=>kt (zu h.at'.oo hj) (by decide),zs h.at'.of' fun j hj=>oth j (fun e=>h.af g hob (e ▸ hj)),zs h.at'.nt fun j hj=>kt (zu h.at'.nt hj) (by decide)⟩,⟨es,cl,(oth mb (fun e=>abj m1 hty e.symm)).trans m1,m2⟩,h.ao,h.af,⟨h.small.y0,h.small.o0,by simp only[hl3];exact h.small.y1,h.small.o1,h.small.yo,h.small.oe⟩,⟨by simp only[hl4];exact h.few.y,h.few.o⟩,h.two,by simp only[hl3];exact h.cnt,by simp only[hl4];exact h.pot,by simp only[hl3];exact h.top,fun y hy=>?_,by simpa [World.setCell] using h.hB⟩
 ·show World.ownsRow _ B _ 6 vyo (aah P.Y i v).length (aa7 0 (aah P.Y i v))
  rw[hl3,afs]
  exact zs h.at'.yo fun j hj=>kt (zu h.at'.yo hj) (by decide)
 ·show World.ownsRow _ B _ 3 vyf (zg (aah P.Y i v)).length (acg (aah P.Y i v))
  rw[hl4,aif _ _ hi]
  exact ahb h.at'.yf hv hi _ _ _
 ·rcases List.mem_append.1 hy with q | q
  ·obtain⟨x,hx,e⟩:=ak1 q
   refine⟨by rw[←e];exact(h.vals x (List.mem_append_left _ hx)).1,fun u hu=>?_⟩
   have hm:u∈zg (aah P.Y i v):=afo q hu
   rw[abw] at hm
   rcases List.mem_or_eq_of_mem_set hm with a | a
   ·unfold zg at a
    obtain⟨z,hz,hzu⟩:=List.mem_flatMap.1 a
    exact(h.vals z (List.mem_append_left _ hz)).2 u hzu
   ·rw[a];exact hn
  ·exact h.vals y (List.mem_append_right _ q)
end
section
open Go.RowKit Go.Maps
theorem aco (w:World):(binOp BinOp.neq 25 .nilIface .nilIface).run prog w=.ok (.bool false) w:=by kernel_rfl
theorem aew {P:PHp} (hs:Small P) {j:Nat} (hj:j<P.Y.length) {r:Option (Bool×Nat)} (h:Found P (P.fy+2*j) r):r=some (true,j):=by
 have h1:=hs.yo
 have h2:=hs.oe
 cases r,h using Found.parts with
 | young i hi e =>
  obtain rfl:i=j:=by omega
  rfl
 | old i hi e=>omega
 | none hy ho=>exact absurd rfl (hy j hj)
theorem ah9 {P:PHp} {j:Nat} {x:HO} (hx:P.Y[j]?=some x):aa5 P (some (true,j))=some (zm P.Y j,x):=by
 simp[aa5,hx]
theorem aj5:(prog.info? 47).map (fun i=>(i.zero,i.size,i.bytes))=some (some (.agg #[.int .i64 0,.slice none 0 0,.slice none 0 0]),3,56):=by kernel_rfl
theorem ahi {w:World} {h:Nat} {cs:Array Value} {t:TypeId} (hb:w.heap[h]?=some (.cells cs t (0,0))):(binOp .eql 78 (.pointer (some ⟨h,0,none⟩)) (.pointer (some ⟨h,3,none⟩))).run prog w=.ok (.bool false) w:=by
 have hi:=aj5
 cases hq:prog.info? 47 with
 | none=>rw[hq] at hi;cases hi
 | some i =>
  rw[hq] at hi
  simp only[Option.map_some,Option.some.injEq,Prod.mk.injEq] at hi
  exact run_eql_ptr_other w underlying78 hq (by omega) (by simp) hb hb
def SetG (B:Nat) (w:World) (hp mb:Nat) (P:PHp) (D:DataW Unit) (n:Nat) (i:Nat) (v:HV) (vyo vyf voo vof vn:Value) (w':World):Prop :=
 HpG B w' hp mb { P with Y:=aah P.Y i v } D n vyo vyf voo vof vn∧(∀k,k<w.heap.size→vyf.ownBlock≠some k→w'.heap[k]?=w.heap[k]?)∧w.heap.size≤w'.heap.size∧w'.os=w.os∧w'.tape=w.tape∧w'.output=w.output
theorem set_ref {B:Nat} {w:World} {hp mb:Nat} {P:PHp} {D:DataW Unit} {n:Nat} {vyo vyf voo vof vn:Value} (h:HpG B w hp mb P D n vyo vyf voo vof vn) {j k:Nat} {x:HO} (hx:P.Y[j]?=some x) (hk:k<x.fs.length) (v:HV) (hv:I64 v.n) (h4:v.kind=4) (hr:∀r,Found P v.n r→∃b y,aa5 P r=some (b,y)∧y.kind≠0) :
  Calls prog 35 #[.pointer (some ⟨hp,0,none⟩),.int .i64 (P.fy+2*j),.int .i64 k,.agg #[.int .i64 v.kind,.int .i64 v.n,.string v.s]] w fun e w'=>e=.returned .nilIface∧SetG B w hp mb P D n (zm P.Y j+k) v vyo vyf voo vof vn w':=by
 have H:=zc h
 have HX:=zc hx
 have HBA:=zc (fun o=>(Below.refl w.heap.size w).alloc (Nat.le_refl _) o)
 have q0:=aco
 have hj:=(List.getElem?_eq_some_iff.1 hx).1
 have ha:I64 (P.fy+2*j):=by
  have h1:=h.small.y0
  have h2:=h.small.y1
  exact⟨by omega,by omega⟩
 have HJ:=zc hj
 have HA:=zc ha
 have HVI:=zc hv
 have H4:=zc h4
 obtain⟨u,hu⟩:∃u,x.fs[k]?=some u:=⟨x.fs[k],List.getElem?_eq_getElem hk⟩
 have hget:acx (some (zm P.Y j,x)) k=.tuple #[.agg #[.int .i64 u.kind,.int .i64 u.n,.string u.s],.nilIface]:=by simp[acx,hu]
 have HU:=zc hu
 have hbl:=ach hx
 have hk2:(k:Int)<(x.fs.length:Int):=by omega
 clear h hx hj ha hv hu h4
 go_enter func35,ntmps35
 go_wp2_with fail
 refine(aeh ((za H).keep (za HBA _)).at' (za H).small (za H).few (za HA)).mono ?_
 rintro e w1 ⟨r,hr1,rfl,hb1⟩
 obtain rfl:=aew (za H).small (za HJ) hr1
 rw[ah9 (za HX),hget]
 have HB1:=zc ((za HBA _).trans (hb1.mono (by simp)))
 have hv:=(hb1.block w.heap.size (by simp)).trans (aan w _)
 have v0:∀o,(w1.alloc o).cell? ⟨w.heap.size,0,none⟩=some (.int .i64 v.kind):=aac (zd hv 0)
 have v1:∀o,(w1.alloc o).cell? ⟨w.heap.size,1,none⟩=some (.int .i64 v.n):=aac (zd hv 1)
 have HB2:Hid (∀o,Below w.heap.size w (w1.alloc o)):=fun o=>(za HB1).alloc (za HB1).size o
 have HV2:Hid (∀o,(w1.alloc o).heap[w.heap.size]?=_):=fun o=>(Below.heap_alloc _ _ _ (hlt hv)).trans hv
 clear hb1 hv hr1 hget
 rw[za H4] at v0
 have HR:=zc hr
 clear hr
 go_wp2_with fail
 refine(akp ((za H).keep (za HB2 _)).at' (za H).small (za H).few (za HVI)).mono ?_
 rintro e w3 ⟨r,hr3,rfl,hb3⟩
 obtain⟨b,y,hy,hyk⟩:=za HR r hr3
 rw[hy]
 dsimp only
 have hyk2:(y.kind==0)=false:=by simpa using hyk
 have HB3:=zc ((za HB2 _).trans (hb3.mono (za HB2 _).size))
 have HV3:=zc ((hb3.block w.heap.size (hlt (za HV2 _))).trans (za HV2 _))
 clear hb3 v0 v1 hr3 hy
 go_wp2_with fail
 refine(aeg ((za H).keep (za HB3)).at' (za H).small (za HA)).mono ?_
 rintro e w4 ⟨r4,hr4,rfl,hb4⟩
 obtain rfl:=aew (za H).small (za HJ) hr4
 have HB4:=zc ((za HB3).trans (hb4.mono (za HB3).size))
 have HV4:=zc ((hb4.block w.heap.size (hlt (za HV3))).trans (za HV3))
 clear hb4 hr4
 simp only[adm]
 go_wp2_with fail
 have HV5:Hid (w4.drew.heap[w.heap.size]?=_):=za HV4
 have HB5:=zc (Below.drew (za HB4))
 refine wp_region_held_drew (S:=(fun w'=>w'.cell? ⟨w.heap.size,0,none⟩=some (.int .i64 v.kind)∧w'.cell? ⟨w.heap.size,1,none⟩=some (.int .i64 v.n)∧w'.cell? ⟨w.heap.size,2,none⟩=some (.string v.s))) (by kernel_rfl) ⟨zd (za HV5) 0,zd (za HV5) 1,zd (za HV5) 2⟩ (fun hHeld=>?_)
 refine wpAnyH_take (i:=0) (oi:={ dst:=some 40,op:=_,type:=_,pos:=_,after:=_,guard:=_ }) (v:=?_) rfl (by kernel_rfl) (by kernel_rfl) (by kernel_rfl) (fun _ _ _ h=>h) (Or.inl ⟨by rfl,?_⟩) (by assumption) ?_
 case refine_2 =>
  intro w hSw
  try dsimp only at hSw
  go_simp
  try with_reducible rfl
 simp only[Act.put,sA,sB,sC]
 refine wpAnyH_take (i:=1) (oi:={ dst:=some 41,op:=_,type:=_,pos:=_,after:=_,guard:=_ }) (v:=?_) rfl (by kernel_rfl) (by kernel_rfl) (by kernel_rfl) (fun _ _ _ h=>h) (Or.inl ⟨by rfl,?_⟩) (by assumption) ?_
 case refine_2 =>
  intro w hSw
  try dsimp only at hSw
  go_simp
  try with_reducible rfl
 simp only[Act.put,sA,sB,sC]
 refine wpAnyH_take (i:=3) (oi:={ dst:=some 43,op:=_,type:=_,pos:=_,after:=_,guard:=_ }) (v:=?_) rfl (by kernel_rfl) (by kernel_rfl) (by kernel_rfl) (fun _ _ _ h=>h) (Or.inl ⟨by rfl,?_⟩) (by assumption) ?_
 case refine_2 =>
  intro w hSw
  try dsimp only at hSw
  go_simp
  try with_reducible rfl
 simp only[Act.put,sA,sB,sC]
 refine wpAnyH_take (i:=4) (oi:={ dst:=some 44,op:=_,type:=_,pos:=_,after:=_,guard:=_ }) (v:=?_) rfl (by kernel_rfl) (by kernel_rfl) (by kernel_rfl) (fun _ _ _ h=>h) (Or.inl ⟨by rfl,?_⟩) (by assumption) ?_
 case refine_2 =>
  intro w hSw
  try dsimp only at hSw
  go_simp
  try with_reducible rfl
 simp only[Act.put,sA,sB,sC]
 refine wpAnyH_ready (rs:=[2]) (by kernel_rfl) (by simp) ?_
 refine AllReadyH.cons (o:={ dst:=some 42,op:=_,type:=_,pos:=_,after:=_,guard:=_ }) rfl (fun K hK=>?_) AllReadyH.nil
 go_simp
 refine(ad4 (((za H).keep (za HB5)).at'.young (za H).few) (za HX)).mono ?_
 rintro e w6 ⟨hb6,g',cap',rfl,hcap,hg⟩
 obtain⟨g,cap,hvf,rfl,rfl⟩:=hg (by omega)
 have HB6:=zc ((za HB5).trans (hb6.mono (za HB5).size))
 have hv6:=(hb6.block w.heap.size (hlt (za HV5))).trans (za HV5)
 have H6:=zc ((za H).keep (za HB6))
 obtain⟨z0,z1,z2⟩:=((za H6).at'.young (za H).few).fld (za HX) (za HU) hvf
 have hob:vyf.ownBlock=some g:=by rw[hvf];rfl
 have hgl:g<w.heap.size:=(zu (za H).at'.yf hob).lt
 obtain⟨gcs,gfr,hgb⟩:∃cs fr,w6.heap[g]?=some (.cells cs 69 fr):=by
  obtain⟨_,_,cs,q⟩:=zp (za H6).at'.yf g hob
  exact⟨cs,_,q⟩
 obtain rfl:gfr=(0,0):=by
  obtain⟨_,_,cs,q⟩:=zp (za H6).at'.yf g hob
  rw[q] at hgb
  cases hgb
  rfl
 have y0:=zt hgb (zm P.Y j*3+k*3)
 have y1:=zt hgb (zm P.Y j*3+k*3+1)
 have y2:=zt hgb (zm P.Y j*3+k*3+2)
 have H7:Hid (HpG B (((w6.setCell ⟨g,zm P.Y j*3+k*3,none⟩ (.int .i64 v.kind)).setCell ⟨g,zm P.Y j*3+k*3+1,none⟩ (.int .i64 v.n)).setCell ⟨g,zm P.Y j*3+k*3+2,none⟩ (.string v.s)) hp mb { P with Y:=aah P.Y (zm P.Y j+k) v } D n vyo vyf voo vof vn):=by
  have q:=(za H6).fieldSet hvf (i:=zm P.Y j+k) (by omega) v (za HVI)
  rw[show (zm P.Y j+k)*3=zm P.Y j*3+k*3 by omega] at q
  exact q
 have s6:(((w6.setCell ⟨g,zm P.Y j*3+k*3,none⟩ (.int .i64 v.kind)).setCell ⟨g,zm P.Y j*3+k*3+1,none⟩ (.int .i64 v.n)).setCell ⟨g,zm P.Y j*3+k*3+2,none⟩ (.string v.s)).heap[w.heap.size]?=_:=(zo _ (by omega)).trans ((zo _ (by omega)).trans ((zo _ (by omega)).trans hv6))
 have HK7:Hid (∀q,q≠g→(((w6.setCell ⟨g,zm P.Y j*3+k*3,none⟩ (.int .i64 v.kind)).setCell ⟨g,zm P.Y j*3+k*3+1,none⟩ (.int .i64 v.n)).setCell ⟨g,zm P.Y j*3+k*3+2,none⟩ (.string v.s)).heap[q]?=w6.heap[q]?):=fun q hq=>by rw[zo _ hq,zo _ hq,zo _ hq]
 have HZ7:Hid ((((w6.setCell ⟨g,zm P.Y j*3+k*3,none⟩ (.int .i64 v.kind)).setCell ⟨g,zm P.Y j*3+k*3+1,none⟩ (.int .i64 v.n)).setCell ⟨g,zm P.Y j*3+k*3+2,none⟩ (.string v.s)).heap.size=w6.heap.size∧(((w6.setCell ⟨g,zm P.Y j*3+k*3,none⟩ (.int .i64 v.kind)).setCell ⟨g,zm P.Y j*3+k*3+1,none⟩ (.int .i64 v.n)).setCell ⟨g,zm P.Y j*3+k*3+2,none⟩ (.string v.s)).os=w6.os∧(((w6.setCell ⟨g,zm P.Y j*3+k*3,none⟩ (.int .i64 v.kind)).setCell ⟨g,zm P.Y j*3+k*3+1,none⟩ (.int .i64 v.n)).setCell ⟨g,zm P.Y j*3+k*3+2,none⟩ (.string v.s)).tape=w6.tape∧(((w6.setCell ⟨g,zm P.Y j*3+k*3,none⟩ (.int .i64 v.kind)).setCell ⟨g,zm P.Y j*3+k*3+1,none⟩ (.int .i64 v.n)).setCell ⟨g,zm P.Y j*3+k*3+2,none⟩ (.string v.s)).output=w6.output):=⟨by simp[World.setCell],rfl,rfl,rfl⟩
 have HOB:=zc hob
 clear hb6 hgb hg hcap hvf hob
 refine hK.out _ _ ⟨zd hv6 0,zd hv6 1,zd hv6 2⟩ (fun hHeld6=>?_)
 clear hK K hv6
 refine wpAnyH_take (i:=5) (oi:={ dst:=some 45,op:=_,type:=_,pos:=_,after:=_,guard:=_ }) (v:=?_) rfl (by kernel_rfl) (by kernel_rfl) (by kernel_rfl) (fun _ _ _ h=>h) (Or.inl ⟨by rfl,?_⟩) (by assumption) ?_
 case refine_2 =>
  intro w hSw
  try dsimp only at hSw
  go_simp
  try with_reducible rfl
 simp only[Act.put,sA,sB,sC]
 refine wpAnyH_ready (rs:=[6]) (by kernel_rfl) (by simp) ?_
 refine AllReadyH.cons (o:={ dst:=none,op:=_,type:=_,pos:=_,after:=_,guard:=_ }) rfl (fun K hK=>?_) AllReadyH.nil
 go_simp
 refine hK.out _ _ ⟨zd s6 0,zd s6 1,zd s6 2⟩ (fun hHeld7=>?_)
 clear hK K
 refine wpAnyH_done (by kernel_rfl) ?_ _
 have hpo:=ahi (za H7).at'.blk
 go_wp2_with fail
 go_ret
 have zz:=(za HB6).size
 refine⟨rfl,za H7,fun q hq hne=>?_,?_,?_,?_,?_⟩
 ·rw[za HK7 q (fun e=>hne (by rw[e];exact za HOB))]
  exact(za HB6).block q hq
 ·rw[(za HZ7).1];exact zz
 ·exact(za HZ7).2.1.trans (za HB6).os
 ·exact(za HZ7).2.2.1.trans (za HB6).tape
 ·exact(za HZ7).2.2.2.trans (za HB6).output
theorem set_val {B:Nat} {w:World} {hp mb:Nat} {P:PHp} {D:DataW Unit} {n:Nat} {vyo vyf voo vof vn:Value} (h:HpG B w hp mb P D n vyo vyf voo vof vn) {j k:Nat} {x:HO} (hx:P.Y[j]?=some x) (hk:k<x.fs.length) (v:HV) (hv:I64 v.n) (h4:v.kind≠4) :
  Calls prog 35 #[.pointer (some ⟨hp,0,none⟩),.int .i64 (P.fy+2*j),.int .i64 k,.agg #[.int .i64 v.kind,.int .i64 v.n,.string v.s]] w fun e w'=>e=.returned .nilIface∧SetG B w hp mb P D n (zm P.Y j+k) v vyo vyf voo vof vn w':=by
 have H:=zc h
 have HX:=zc hx
 have HBA:=zc (fun o=>(Below.refl w.heap.size w).alloc (Nat.le_refl _) o)
 have q0:=aco
 have hj:=(List.getElem?_eq_some_iff.1 hx).1
 have ha:I64 (P.fy+2*j):=by
  have h1:=h.small.y0
  have h2:=h.small.y1
  exact⟨by omega,by omega⟩
 have HJ:=zc hj
 have HA:=zc ha
 have HVI:=zc hv
 have H4:=zc h4
 obtain⟨u,hu⟩:∃u,x.fs[k]?=some u:=⟨x.fs[k],List.getElem?_eq_getElem hk⟩
 have hget:acx (some (zm P.Y j,x)) k=.tuple #[.agg #[.int .i64 u.kind,.int .i64 u.n,.string u.s],.nilIface]:=by simp[acx,hu]
 have HU:=zc hu
 have hbl:=ach hx
 have hk2:(k:Int)<(x.fs.length:Int):=by omega
 clear h hx hj ha hv hu h4
 go_enter func35,ntmps35
 go_wp2_with fail
 refine(aeh ((za H).keep (za HBA _)).at' (za H).small (za H).few (za HA)).mono ?_
 rintro e w1 ⟨r,hr1,rfl,hb1⟩
 obtain rfl:=aew (za H).small (za HJ) hr1
 rw[ah9 (za HX),hget]
 have HB1:=zc ((za HBA _).trans (hb1.mono (by simp)))
 have hv:=(hb1.block w.heap.size (by simp)).trans (aan w _)
 have v0:∀o,(w1.alloc o).cell? ⟨w.heap.size,0,none⟩=some (.int .i64 v.kind):=aac (zd hv 0)
 have v1:∀o,(w1.alloc o).cell? ⟨w.heap.size,1,none⟩=some (.int .i64 v.n):=aac (zd hv 1)
 have HB2:Hid (∀o,Below w.heap.size w (w1.alloc o)):=fun o=>(za HB1).alloc (za HB1).size o
 have HV2:Hid (∀o,(w1.alloc o).heap[w.heap.size]?=_):=fun o=>(Below.heap_alloc _ _ _ (hlt hv)).trans hv
 clear hb1 hv hr1 hget
 have h42:(v.kind==4)=false:=by simpa using za H4
 go_wp2_with fail
 refine(aeg ((za H).keep (za HB2 _)).at' (za H).small (za HA)).mono ?_
 rintro e w4 ⟨r4,hr4,rfl,hb4⟩
 obtain rfl:=aew (za H).small (za HJ) hr4
 have HB4:=zc ((za HB2 _).trans (hb4.mono (za HB2 _).size))
 have HV4:=zc ((hb4.block w.heap.size (hlt (za HV2 _))).trans (za HV2 _))
 clear hb4 hr4 v0 v1
 simp only[adm]
 go_wp2_with fail
 have HV5:Hid (w4.drew.heap[w.heap.size]?=_):=za HV4
 have HB5:=zc (Below.drew (za HB4))
 refine wp_region_held_drew (S:=(fun w'=>w'.cell? ⟨w.heap.size,0,none⟩=some (.int .i64 v.kind)∧w'.cell? ⟨w.heap.size,1,none⟩=some (.int .i64 v.n)∧w'.cell? ⟨w.heap.size,2,none⟩=some (.string v.s))) (by kernel_rfl) ⟨zd (za HV5) 0,zd (za HV5) 1,zd (za HV5) 2⟩ (fun hHeld=>?_)
 refine wpAnyH_take (i:=0) (oi:={ dst:=some 40,op:=_,type:=_,pos:=_,after:=_,guard:=_ }) (v:=?_) rfl (by kernel_rfl) (by kernel_rfl) (by kernel_rfl) (fun _ _ _ h=>h) (Or.inl ⟨by rfl,?_⟩) (by assumption) ?_
 case refine_2 =>
  intro w hSw
  try dsimp only at hSw
  go_simp
  try with_reducible rfl
 simp only[Act.put,sA,sB,sC]
 refine wpAnyH_take (i:=1) (oi:={ dst:=some 41,op:=_,type:=_,pos:=_,after:=_,guard:=_ }) (v:=?_) rfl (by kernel_rfl) (by kernel_rfl) (by kernel_rfl) (fun _ _ _ h=>h) (Or.inl ⟨by rfl,?_⟩) (by assumption) ?_
 case refine_2 =>
  intro w hSw
  try dsimp only at hSw
  go_simp
  try with_reducible rfl
 simp only[Act.put,sA,sB,sC]
 refine wpAnyH_take (i:=3) (oi:={ dst:=some 43,op:=_,type:=_,pos:=_,after:=_,guard:=_ }) (v:=?_) rfl (by kernel_rfl) (by kernel_rfl) (by kernel_rfl) (fun _ _ _ h=>h) (Or.inl ⟨by rfl,?_⟩) (by assumption) ?_
 case refine_2 =>
  intro w hSw
  try dsimp only at hSw
  go_simp
  try with_reducible rfl
 simp only[Act.put,sA,sB,sC]
 refine wpAnyH_take (i:=4) (oi:={ dst:=some 44,op:=_,type:=_,pos:=_,after:=_,guard:=_ }) (v:=?_) rfl (by kernel_rfl) (by kernel_rfl) (by kernel_rfl) (fun _ _ _ h=>h) (Or.inl ⟨by rfl,?_⟩) (by assumption) ?_
 case refine_2 =>
  intro w hSw
  try dsimp only at hSw
  go_simp
  try with_reducible rfl
 simp only[Act.put,sA,sB,sC]
 refine wpAnyH_ready (rs:=[2]) (by kernel_rfl) (by simp) ?_
 refine AllReadyH.cons (o:={ dst:=some 42,op:=_,type:=_,pos:=_,after:=_,guard:=_ }) rfl (fun K hK=>?_) AllReadyH.nil
 go_simp
 refine(ad4 (((za H).keep (za HB5)).at'.young (za H).few) (za HX)).mono ?_
 rintro e w6 ⟨hb6,g',cap',rfl,hcap,hg⟩
 obtain⟨g,cap,hvf,rfl,rfl⟩:=hg (by omega)
 have HB6:=zc ((za HB5).trans (hb6.mono (za HB5).size))
 have hv6:=(hb6.block w.heap.size (hlt (za HV5))).trans (za HV5)
 have H6:=zc ((za H).keep (za HB6))
 obtain⟨z0,z1,z2⟩:=((za H6).at'.young (za H).few).fld (za HX) (za HU) hvf
 have hob:vyf.ownBlock=some g:=by rw[hvf];rfl
 have hgl:g<w.heap.size:=(zu (za H).at'.yf hob).lt
 obtain⟨gcs,gfr,hgb⟩:∃cs fr,w6.heap[g]?=some (.cells cs 69 fr):=by
  obtain⟨_,_,cs,q⟩:=zp (za H6).at'.yf g hob
  exact⟨cs,_,q⟩
 obtain rfl:gfr=(0,0):=by
  obtain⟨_,_,cs,q⟩:=zp (za H6).at'.yf g hob
  rw[q] at hgb
  cases hgb
  rfl
 have y0:=zt hgb (zm P.Y j*3+k*3)
 have y1:=zt hgb (zm P.Y j*3+k*3+1)
 have y2:=zt hgb (zm P.Y j*3+k*3+2)
 have H7:Hid (HpG B (((w6.setCell ⟨g,zm P.Y j*3+k*3,none⟩ (.int .i64 v.kind)).setCell ⟨g,zm P.Y j*3+k*3+1,none⟩ (.int .i64 v.n)).setCell ⟨g,zm P.Y j*3+k*3+2,none⟩ (.string v.s)) hp mb { P with Y:=aah P.Y (zm P.Y j+k) v } D n vyo vyf voo vof vn):=by
  have q:=(za H6).fieldSet hvf (i:=zm P.Y j+k) (by omega) v (za HVI)
  rw[show (zm P.Y j+k)*3=zm P.Y j*3+k*3 by omega] at q
  exact q
 have s6:(((w6.setCell ⟨g,zm P.Y j*3+k*3,none⟩ (.int .i64 v.kind)).setCell ⟨g,zm P.Y j*3+k*3+1,none⟩ (.int .i64 v.n)).setCell ⟨g,zm P.Y j*3+k*3+2,none⟩ (.string v.s)).heap[w.heap.size]?=_:=(zo _ (by omega)).trans ((zo _ (by omega)).trans ((zo _ (by omega)).trans hv6))
 have HK7:Hid (∀q,q≠g→(((w6.setCell ⟨g,zm P.Y j*3+k*3,none⟩ (.int .i64 v.kind)).setCell ⟨g,zm P.Y j*3+k*3+1,none⟩ (.int .i64 v.n)).setCell ⟨g,zm P.Y j*3+k*3+2,none⟩ (.string v.s)).heap[q]?=w6.heap[q]?):=fun q hq=>by rw[zo _ hq,zo _ hq,zo _ hq]
 have HZ7:Hid ((((w6.setCell ⟨g,zm P.Y j*3+k*3,none⟩ (.int .i64 v.kind)).setCell ⟨g,zm P.Y j*3+k*3+1,none⟩ (.int .i64 v.n)).setCell ⟨g,zm P.Y j*3+k*3+2,none⟩ (.string v.s)).heap.size=w6.heap.size∧(((w6.setCell ⟨g,zm P.Y j*3+k*3,none⟩ (.int .i64 v.kind)).setCell ⟨g,zm P.Y j*3+k*3+1,none⟩ (.int .i64 v.n)).setCell ⟨g,zm P.Y j*3+k*3+2,none⟩ (.string v.s)).os=w6.os∧(((w6.setCell ⟨g,zm P.Y j*3+k*3,none⟩ (.int .i64 v.kind)).setCell ⟨g,zm P.Y j*3+k*3+1,none⟩ (.int .i64 v.n)).setCell ⟨g,zm P.Y j*3+k*3+2,none⟩ (.string v.s)).tape=w6.tape∧(((w6.setCell ⟨g,zm P.Y j*3+k*3,none⟩ (.int .i64 v.kind)).setCell ⟨g,zm P.Y j*3+k*3+1,none⟩ (.int .i64 v.n)).setCell ⟨g,zm P.Y j*3+k*3+2,none⟩ (.string v.s)).output=w6.output):=⟨by simp[World.setCell],rfl,rfl,rfl⟩
 have HOB:=zc hob
 clear hb6 hgb hg hcap hvf hob
 refine hK.out _ _ ⟨zd hv6 0,zd hv6 1,zd hv6 2⟩ (fun hHeld6=>?_)
 clear hK K hv6
 refine wpAnyH_take (i:=5) (oi:={ dst:=some 45,op:=_,type:=_,pos:=_,after:=_,guard:=_ }) (v:=?_) rfl (by kernel_rfl) (by kernel_rfl) (by kernel_rfl) (fun _ _ _ h=>h) (Or.inl ⟨by rfl,?_⟩) (by assumption) ?_
 case refine_2 =>
  intro w hSw
  try dsimp only at hSw
  go_simp
  try with_reducible rfl
 simp only[Act.put,sA,sB,sC]
 refine wpAnyH_ready (rs:=[6]) (by kernel_rfl) (by simp) ?_
 refine AllReadyH.cons (o:={ dst:=none,op:=_,type:=_,pos:=_,after:=_,guard:=_ }) rfl (fun K hK=>?_) AllReadyH.nil
 go_simp
 refine hK.out _ _ ⟨zd s6 0,zd s6 1,zd s6 2⟩ (fun hHeld7=>?_)
 clear hK K
 refine wpAnyH_done (by kernel_rfl) ?_ _
 have hpo:=ahi (za H7).at'.blk
 go_wp2_with fail
 go_ret
 have zz:=(za HB6).size
 refine⟨rfl,za H7,fun q hq hne=>?_,?_,?_,?_,?_⟩
 ·rw[za HK7 q (fun e=>hne (by rw[e];exact za HOB))]
  exact(za HB6).block q hq
 ·rw[(za HZ7).1];exact zz
 ·exact(za HZ7).2.1.trans (za HB6).os
 ·exact(za HZ7).2.2.1.trans (za HB6).tape
 ·exact(za HZ7).2.2.2.trans (za HB6).output
end
section
open Go.RowKit Go.Maps
theorem HpG.ofieldSet {B:Nat} {w:World} {hp mb:Nat} {P:PHp} {D:DataW Unit} {n:Nat} {vyo vyf voo vof vn:Value} (h:HpG B w hp mb P D n vyo vyf voo vof vn) {g cap:Nat} (hv:vof=.slice (some ⟨g,0,none⟩) (zg P.O).length cap) {i:Nat} (hi:i<(zg P.O).length) (v:HV) (hn:I64 v.n) :
  HpG B (((w.setCell ⟨g,i*3,none⟩ (.int .i64 v.kind)).setCell ⟨g,i*3+1,none⟩ (.int .i64 v.n)).setCell ⟨g,i*3+2,none⟩ (.string v.s)) hp mb { P with O:=aah P.O i v } D n vyo vyf voo vof vn:=by
 have hob:vof.ownBlock=some g:=by rw[hv];rfl
 have hty:Typ w g 69:=zu h.at'.of' hob
 have tH:Typ w hp 51:=⟨_,_,h.at'.blk⟩
 have oth:∀k,k≠g→(((w.setCell ⟨g,i*3,none⟩ (.int .i64 v.kind)).setCell ⟨g,i*3+1,none⟩ (.int .i64 v.n)).setCell ⟨g,i*3+2,none⟩ (.string v.s)).heap[k]?=w.heap[k]?:=fun k hk=>by
  rw[zo _ hk,zo _ hk,zo _ hk]
 have kt:∀{k t},Typ w k t→t≠69→(((w.setCell ⟨g,i*3,none⟩ (.int .i64 v.kind)).setCell ⟨g,i*3+1,none⟩ (.int .i64 v.n)).setCell ⟨g,i*3+2,none⟩ (.string v.s)).heap[k]?=w.heap[k]?:=fun hk hne=>oth _ (hk.ne hty hne)
 have hl3:(aah P.O i v).length=P.O.length:=abr _ _ _
 have hl4:(zg (aah P.O i v)).length=(zg P.O).length:=by rw[abw,List.length_set]
 obtain⟨es,cl,m1,m2⟩:=h.own
 refine⟨⟨(kt tH (by decide)).trans h.at'.blk,zs h.at'.yo fun j hj=>kt (zu h.at'.yo hj) (by decide),zs h.at'.yf fun j hj=>oth j (fun e=>h.af j hj (e ▸ hob)),?_,?_,zs h.at'.nt fun j hj=>kt (zu h.at'.nt hj) (by decide)⟩,⟨es,cl,(oth mb (fun e=>abj m1 hty e.symm)).trans m1,m2⟩,h.ao,h.af,⟨h.small.y0,h.small.o0,h.small.y1,by simp only[hl3];exact h.small.o1,h.small.yo,h.small.oe⟩,⟨h.few.y,by simp only[hl4];exact h.few.o⟩,h.two,by simp only[hl3];exact h.cnt,by simp only[hl4];exact h.pot,by simp only[hl3];exact h.top,fun y hy=>?_,by simpa [World.setCell] using h.hB⟩
 ·show World.ownsRow _ B _ 6 voo (aah P.O i v).length (aa7 0 (aah P.O i v))
  rw[hl3,afs]
  exact zs h.at'.oo fun j hj=>kt (zu h.at'.oo hj) (by decide)
 ·show World.ownsRow _ B _ 3 vof (zg (aah P.O i v)).length (acg (aah P.O i v))
  rw[hl4,aif _ _ hi]
  exact ahb h.at'.of' hv hi _ _ _
 ·rcases List.mem_append.1 hy with q | q
  ·exact h.vals y (List.mem_append_left _ q)
  ·obtain⟨x,hx,e⟩:=ak1 q
   refine⟨by rw[←e];exact(h.vals x (List.mem_append_right _ hx)).1,fun u hu=>?_⟩
   have hm:u∈zg (aah P.O i v):=afo q hu
   rw[abw] at hm
   rcases List.mem_or_eq_of_mem_set hm with a | a
   ·unfold zg at a
    obtain⟨z,hz,hzu⟩:=List.mem_flatMap.1 a
    exact(h.vals z (List.mem_append_right _ hz)).2 u hzu
   ·rw[a];exact hn
def aam (b:Bool):List HO→Nat→List HO
 | [],_=>[]
 | x :: r,0=>{ x with noted:=b } :: r
 | x :: r,i+1=>x :: aam b r i
theorem acn (b:Bool):∀(l:List HO) (i:Nat),(aam b l i).length=l.length
 | [],_=>rfl
 | x :: r,0=>rfl
 | x :: r,i+1=>by rw[aam,List.length_cons,List.length_cons,acn b r i]
theorem ack (b:Bool):∀(l:List HO) (i:Nat),zg (aam b l i)=zg l
 | [],_=>rfl
 | x :: r,0=>rfl
 | x :: r,i+1=>by
  show x.fs++zg (aam b r i)=x.fs++zg r
  rw[ack b r i]
theorem agy (b:Bool):∀(l:List HO) (c i:Nat),i<l.length→aa7 c (aam b l i)=(aa7 c l).set (i*6+5) (.bool b)
 | [],_,_,h=>absurd h (Nat.not_lt_zero _)
 | x :: r,c,0,_=>rfl
 | x :: r,c,i+1,h=>by
  show aaz c x++aa7 (c+x.fs.length) (aam b r i)=(aaz c x++aa7 (c+x.fs.length) r).set ((i+1)*6+5) (.bool b)
  rw[agy b r _ i (by simpa using h),List.set_append_right _ _ (by show 6≤_;omega)]
  show _=aaz c x++(aa7 (c+x.fs.length) r).set ((i+1)*6+5-6) (.bool b)
  rw[show (i+1)*6+5-6=i*6+5 by omega]
theorem aj6 (b:Bool):∀(l:List HO) (i:Nat) (y:HO),y∈aam b l i→∃x∈l,x.id=y.id∧x.fs=y.fs
 | [],_,y,h=>by cases h
 | x :: r,0,y,h=>by
  rcases List.mem_cons.1 h with rfl | q
  ·exact⟨x,List.mem_cons_self ..,rfl,rfl⟩
  ·exact⟨y,List.mem_cons_of_mem _ q,rfl,rfl⟩
 | x :: r,i+1,y,h=>by
  rcases List.mem_cons.1 h with rfl | q
  ·exact⟨y,List.mem_cons_self ..,rfl,rfl⟩
  ·obtain⟨z,hz,e⟩:=aj6 b r i y q
   exact⟨z,List.mem_cons_of_mem _ hz,e⟩
theorem ae4 (b:Bool):∀(l:List HO) (i j:Nat),(aam b l i)[j]?=if j=i then l[j]?.map (fun x=>{ x with noted:=b }) else l[j]?
 | [],i,j=>by simp[aam]
 | x :: r,0,j=>by cases j <;> simp[aam]
 | x :: r,i+1,j=>by
  cases j with
  | zero=>simp[aam]
  | succ j=>simp[aam,ae4 b r i j]
end
section
open Go.RowKit Go.Maps
theorem acw {w:World} {B:Nat} {e:TypeId} {k:Nat} {v:Value} {n:Nat} {xs:List Value} (h:w.ownsRow B e k v n xs) {g cap:Nat} (hv:v=.slice (some ⟨g,0,none⟩) n cap) {i:Nat} (a:Value) :
  (w.setCell ⟨g,i,none⟩ a).ownsRow B e k v n (xs.set i a):=by
 refine⟨by simpa using h.1,?_⟩
 rcases h.2 with ⟨rfl,rfl⟩ | ⟨g',cap',cur,rfl,h2,h3,h4,h5,h6,h7⟩
 ·cases hv
 ·cases hv
  refine Or.inr ⟨g,cap,_,rfl,h2,aad h3 _ a,h4,h5,by simpa using h6,?_⟩
  rw[Array.toList_setIfInBounds,List.take_set,h7]
theorem HpG.marked {B:Nat} {w:World} {hp mb:Nat} {P:PHp} {D:DataW Unit} {n:Nat} {vyo vyf voo vof vn:Value} (h:HpG B w hp mb P D n vyo vyf voo vof vn) {g cap:Nat} (hv:voo=.slice (some ⟨g,0,none⟩) P.O.length cap) {j:Nat} (hj:j<P.O.length) (b:Bool) :
  HpG B (w.setCell ⟨g,j*6+5,none⟩ (.bool b)) hp mb { P with O:=aam b P.O j } D n vyo vyf voo vof vn:=by
 have hob:voo.ownBlock=some g:=by rw[hv];rfl
 have hty:Typ w g 61:=zu h.at'.oo hob
 have tH:Typ w hp 51:=⟨_,_,h.at'.blk⟩
 have oth:∀k,k≠g→(w.setCell ⟨g,j*6+5,none⟩ (.bool b)).heap[k]?=w.heap[k]?:=fun k hk=>zo _ hk
 have kt:∀{k t},Typ w k t→t≠61→(w.setCell ⟨g,j*6+5,none⟩ (.bool b)).heap[k]?=w.heap[k]?:=fun hk hne=>oth _ (hk.ne hty hne)
 have hl3:=acn b P.O j
 have hl4:=ack b P.O j
 obtain⟨es,cl,m1,m2⟩:=h.own
 refine⟨⟨(kt tH (by decide)).trans h.at'.blk,zs h.at'.yo fun i hi=>oth i (fun e=>h.ao i hi (e ▸ hob)),zs h.at'.yf fun j hj=>kt (zu h.at'.yf hj) (by decide),?_,?_,zs h.at'.nt fun j hj=>kt (zu h.at'.nt hj) (by decide)⟩,⟨es,cl,(oth mb (fun e=>abj m1 hty e.symm)).trans m1,m2⟩,h.ao,h.af,⟨h.small.y0,h.small.o0,h.small.y1,by simp only[hl3];exact h.small.o1,h.small.yo,h.small.oe⟩,⟨h.few.y,by simp only[hl4];exact h.few.o⟩,h.two,by simp only[hl3];exact h.cnt,by simp only[hl4];exact h.pot,by simp only[hl3];exact h.top,fun y hy=>?_,by simpa [World.setCell] using h.hB⟩
 ·show World.ownsRow _ B _ 6 voo (aam b P.O j).length (aa7 0 (aam b P.O j))
  rw[hl3,agy b _ _ _ hj]
  exact acw h.at'.oo hv _
 ·show World.ownsRow _ B _ 3 vof (zg (aam b P.O j)).length (acg (aam b P.O j))
  unfold acg
  rw[hl4]
  exact zs h.at'.of' fun j hj=>kt (zu h.at'.of' hj) (by decide)
 ·rcases List.mem_append.1 hy with q | q
  ·exact h.vals y (List.mem_append_left _ q)
  ·obtain⟨x,hx,e1,e2⟩:=aj6 b _ _ _ q
   have:=h.vals x (List.mem_append_right _ hx)
   rw[e1,e2] at this
   exact this
theorem HpG.listed {B:Nat} {w w':World} {hp mb:Nat} {P:PHp} {D:DataW Unit} {n:Nat} {vyo vyf voo vof vn vn':Value} (h:HpG B w hp mb P D n vyo vyf voo vof vn) {l:List Int} (hown:w'.ownsRow B 3 1 vn' l.length (l.map iv)) (hg:w.grownBy w' vn.ownBlock) :
  HpG B (w'.setCell ⟨hp,8,none⟩ vn') hp mb { P with noted:=l } D n vyo vyf voo vof vn':=by
 have tH:Typ w hp 51:=⟨_,_,h.at'.blk⟩
 have nn:∀{k t},Typ w k t→t≠3→vn.ownBlock≠some k:=fun hk hne e=>hk.ne (zu h.at'.nt e) hne rfl
 have kt:∀{k t},Typ w k t→t≠3→t≠51→(w'.setCell ⟨hp,8,none⟩ vn').heap[k]?=w.heap[k]?:=fun hk hne hh=>(zo _ (hk.ne tH hh)).trans (hg.block _ hk.lt (nn hk hne).symm)
 have hb:w'.heap[hp]?=some (.cells (zx P vyo vyf voo vof vn mb) 51 (0,0)):=(hg.block _ tH.lt (nn tH (by decide)).symm).trans h.at'.blk
 obtain⟨es,cl,m1,m2⟩:=h.own
 have hmb:(w'.setCell ⟨hp,8,none⟩ vn').heap[mb]?=w.heap[mb]?:=(zo _ (fun e=>abj m1 tH e.symm)).trans (hg.block _ (gtE m1).1 (fun e=>abj m1 (zu h.at'.nt e.symm) rfl))
 exact⟨⟨aad hb 8 vn',zs h.at'.yo fun j hj=>kt (zu h.at'.yo hj) (by decide) (by decide),zs h.at'.yf fun j hj=>kt (zu h.at'.yf hj) (by decide) (by decide),zs h.at'.oo fun j hj=>kt (zu h.at'.oo hj) (by decide) (by decide),zs h.at'.of' fun j hj=>kt (zu h.at'.of' hj) (by decide) (by decide),zs hown fun j hj=>zo _ ((zu hown hj).ne (⟨_,_,hb⟩:Typ w' hp 51) (by decide))⟩,⟨es,cl,hmb.trans m1,m2⟩,h.ao,h.af,⟨h.small.y0,h.small.o0,h.small.y1,h.small.o1,h.small.yo,h.small.oe⟩,⟨h.few.y,h.few.o⟩,h.two,h.cnt,h.pot,h.top,h.vals,by simpa [World.setCell] using Nat.le_trans h.hB hg.size⟩
theorem apu {W:World} {H:Nat} (hH:W.heap.size=H) (cs:Array Value) (t:TypeId):∀j u,cs.toList[j]?=some u→(W.alloc (.cells cs t)).cell? ((⟨H,0,none⟩:Addr).add j)=some u :=
 World.news_of_block (B:=H) (by rw[←hH];exact aan _ _)
def noteP (P:PHp) (j:Nat):PHp:={ P with O:=aam true P.O j,noted:=P.noted++[(j:Int)] }
def NotedG (B:Nat) (w:World) (hp mb:Nat) (P P':PHp) (D:DataW Unit) (n:Nat) (vyo vyf voo vof vn:Value) (w':World):Prop :=
 ∃vn',HpG B w' hp mb P' D n vyo vyf voo vof vn'∧(∀k,k<w.heap.size→k≠hp→voo.ownBlock≠some k→vn.ownBlock≠some k→w'.heap[k]?=w.heap[k]?)∧w.heap.size≤w'.heap.size∧w'.os=w.os∧w'.tape=w.tape∧w'.output=w.output∧(vn'.ownBlock=vn.ownBlock∨∀j,vn'.ownBlock=some j→w.heap.size≤j)
theorem apv {B:Nat} {w:World} {hp mb:Nat} {P:PHp} {D:DataW Unit} {n:Nat} {vyo vyf voo vof vn:Value} (h:HpG B w hp mb P D n vyo vyf voo vof vn) {j:Nat} {x:HO} (hx:P.O[j]?=some x) {a:Int} (ha:I64 a) (hnl:P.noted.length≤1000000) :
  Calls prog 48 #[.pointer (some ⟨hp,0,none⟩),.int .i64 j,.int .i64 a] w fun e w'=>e=.returned (.tuple #[])∧(((∃i:Nat,i<P.Y.length∧a=P.fy+2*i)∧x.noted=false∧NotedG B w hp mb P (noteP P j) D n vyo vyf voo vof vn w')∨((x.noted=true∨∀i:Nat,i<P.Y.length→a≠P.fy+2*i)∧Below w.heap.size w w')):=by
 have hj:=(List.getElem?_eq_some_iff.1 hx).1
 have H:=zc h
 have hy0:=h.small.y0
 have hy1:=h.small.y1
 obtain⟨g,cap,hv,hcap,hc5,hf5⟩:=aa1 h.at'.oo (j:=j*6+5) (by omega)
 have hc5:w.cell? ⟨g,j*6+5,none⟩=some (.bool x.noted):=by rw[hc5,agn hx (by decide)];rfl
 have c4:w.cell? ⟨hp,4,none⟩=some (.slice (some ⟨g,0,none⟩) P.O.length cap):=by rw[←hv];exact zd h.at'.blk 4
 have hjl:(j:Int)<(P.O.length:Int):=by omega
 have hcnt:=h.cnt
 obtain⟨gy,cy,hvy⟩:=aaa h.at'.yo
 have c0:w.cell? ⟨hp,0,none⟩=some (.int .i64 P.fy):=zd h.at'.blk 0
 have c1:w.cell? ⟨hp,0+1,none⟩=some (.slice gy P.Y.length cy):=by rw[←hvy];exact zd h.at'.blk 1
 have HNUM:=zc (ae7 c0 c1 ha hy0 hy1)
 have HV:=zc hv
 have HX:=zc hx
 clear h hx c0 c1 hv hvy
 go_enter func48,ntmps48
 go_wp2_with fail
 refine(za HNUM).mono ?_
 rintro e w1 ⟨q,ok,rfl,hb1,hy,hno⟩
 have H1:=zc ((za H).keep hb1)
 have HB1:=zc hb1
 have k5:w1.cell? ⟨g,j*6+5,none⟩=some (.bool x.noted):=by
  rw[World.cell?_of_block (hb1.block g (ze (a:=⟨g,j*6+5,none⟩) hc5))];exact hc5
 have f5:w1.frozen? ⟨g,j*6+5,none⟩=false:=by
  obtain⟨_,_,cs,q'⟩:=zp (za H1).at'.oo g (by rw[za HV];rfl)
  exact zt q' _
 have HY:=zc hy
 have HNO:=zc hno
 clear hb1 hc5 hy hno HNUM H
 cases ok with
 | false =>
  go_wp2_with fail
  go_end0
  exact⟨rfl,Or.inr ⟨Or.inr (za HNO (by trivial)),za HB1⟩⟩
 | true =>
  cases hxn:x.noted with
  | true =>
   rw[hxn] at k5
   go_wp2_with fail
   go_end0
   exact⟨rfl,Or.inr ⟨Or.inl hxn,za HB1⟩⟩
  | false =>
   rw[hxn] at k5
   have HM:=zc ((za H1).marked (za HV) hj true)
   have c8:(w1.setCell ⟨g,j*6+5,none⟩ (.bool true)).cell? ⟨hp,8,none⟩=some vn:=zd (za HM).at'.blk 8
   obtain⟨i0,hi,hz0,hz1,hz2⟩:=info_parts aei
   have hsz:(w1.setCell ⟨g,j*6+5,none⟩ (.bool true)).heap.size=w1.heap.size:=by simp[World.setCell]
   have HO:=zc (aa8 (za HM).at'.nt ((Below.refl _ _).alloc (Nat.le_refl _) (.cells #[.int .i64 j] 3)))
   have HXG:=zc ((za HM).keep ((Below.refl _ _).alloc (Nat.le_refl _) (.cells #[.int .i64 j] 3)))
   have HBX:Hid (Below (w1.setCell ⟨g,j*6+5,none⟩ (.bool true)).heap.size (w1.setCell ⟨g,j*6+5,none⟩ (.bool true)) ((w1.setCell ⟨g,j*6+5,none⟩ (.bool true)).alloc (.cells #[.int .i64 j] 3))):=(Below.refl _ _).alloc (Nat.le_refl _) _
   have HH:=zc hsz
   have hBB:B≤w1.heap.size:=(za H1).hB
   clear hsz
   go_wp2_with (at_builtin;refine wpList_append_lies _ rfl _ _ _ rfl B 3 i0 (.int .i64 0) 1 8 underlying49 hi hz0 hz1 hz2 rfl (by decide) vn P.noted.length (P.noted.map iv) rfl (za HO) ⟨w1.heap.size,0,none⟩ 1 1 [.int .i64 j] rfl rfl (apu (za HH) _ _) ?c2 (by decide) ?c3 ?c4 ?c5 (w1.heap.size+1) ?c6 ?_)
   case c2=>exact ape _
   case c3=>unfold maxLen;omega
   case c4=>omega
   case c5=>have:=za HH;simp;omega
   case c6=>have:=za HH;simp
   intro g8 cap8 w3 hown hgrow hat hlt
   have tH:Typ ((w1.setCell ⟨g,j*6+5,none⟩ (.bool true)).alloc (.cells #[.int .i64 j] 3)) hp 51:=⟨_,_,(za HXG).at'.blk⟩
   have hblk3:=(hgrow.block hp tH.lt (fun e=>(zu (za HXG).at'.nt e.symm).ne tH (by decide) rfl)).trans (za HXG).at'.blk
   have d8:w3.cell? ⟨hp,8,none⟩=some vn:=zd hblk3 8
   have f8:=zt hblk3 8
   have HL:=zc ((za HXG).listed (l:=P.noted++[(j:Int)]) (vn':=.slice (some ⟨g8,0,none⟩) (P.noted.length+1) cap8) (by simpa [iv] using hown) hgrow)
   have HG:=zc hgrow
   have HAT:=zc hat
   clear hown hgrow hat hlt hblk3 tH c8 k5 f5
   go_wp2_with fail
   go_end0
   refine⟨rfl,Or.inl ⟨?_,_,za HL,fun k hk h1 h2 h3=>?_,?_,?_,?_,?_,?_⟩⟩
   ·obtain⟨i,hi1,_,hi2⟩:=za HY (by trivial)
    exact⟨i,hi1,hi2⟩
   ·have z1:=(za HB1).size
    have z2:=za HH
    have z3:k<((w1.setCell ⟨g,j*6+5,none⟩ (.bool true)).alloc (.cells #[.int .i64 j] 3)).heap.size:=by simp;omega
    rw[zo _ h1,(za HG).block k z3 (fun e=>h3 e.symm),(za HBX).block k (by omega),zo _ (fun e=>h2 (by rw[e,za HV];rfl))]
    exact(za HB1).block k hk
   ·have z1:=(za HB1).size
    have z2:=(za HG).size
    have z3:=(za HBX).size
    have z4:=za HH
    simp only[World.setCell] at *
    simp at *
    omega
   ·exact(za HG).os.trans ((za HBX).os.trans (za HB1).os)
   ·exact(za HG).tape.trans ((za HBX).tape.trans (za HB1).tape)
   ·exact(za HG).output.trans ((za HBX).output.trans (za HB1).output)
   ·have z1:=(za HB1).size
    rcases za HAT with q | q
    ·exact Or.inl q.symm
    ·refine Or.inr fun j hj=>?_
     have hj:some g8=some j:=hj
     cases hj
     omega
end
end Go.Proofs.YtpnghfghdbijlaaGreatDoor
