/- A part. -/
import Derived.Test.YtpnghfghdbijlaaGreatDoorM19
import Derived.Test.YtpnghfghdbijlaaGreatDoorM21
open Go.Proofs.Tryz
namespace Go.Proofs.YtpnghfghdbijlaaGreatDoor
open Go.RowKit
set_option linter.unusedVariables false
set_option linter.unusedSimpArgs false
set_option maxRecDepth 100000
set_option maxHeartbeats 40000000
section
open Go.RowKit Go.Maps
def KeepHi (B:Nat) (w w':World):Prop:=∀k,B≤k→k<w.heap.size→w'.heap[k]?=w.heap[k]?
structure Ca (B:Nat) (wx:World) (zb bz sb gw:Nat) (wt a b c bits:Int) (vr vf vd:Value) (rs:List Nat) (fr:List Int) (ds:List Bool):Prop where
 bz':wx.heap[bz]?=some (.cells #[.pointer (some ⟨zb,0,none⟩)] 30 (0,0))
 st:wx.heap[sb]?=some (stB wt a b c bits)
 zl:B≤bz
 sl:B≤sb
 rr:wx.ownsRow B 85 1 vr rs.length (rs.map fun j=>.pointer (some ⟨gw,j*3,none⟩))
 rf:wx.ownsRow B 3 1 vf fr.length (fr.map iv)
 rd:wx.ownsRow B 4 1 vd ds.length (ds.map Value.bool)
section
variable {B:Nat} {w wx w':World} {zb bz sb gw:Nat} {wt a b c bits:Int} {vr vf vd:Value} {rs:List Nat} {fr:List Int} {ds:List Bool}
theorem Ca.keep (h:Ca B wx zb bz sb gw wt a b c bits vr vf vd rs fr ds) (hk:KeepHi B wx w'):Ca B w' zb bz sb gw wt a b c bits vr vf vd rs fr ds :=
 ⟨(hk _ h.zl (hlt h.bz')).trans h.bz',(hk _ h.sl (hlt h.st)).trans h.st,h.zl,h.sl,zs h.rr fun j hj=>hk j (zp h.rr j hj).1 (zp h.rr j hj).2.1,zs h.rf fun j hj=>hk j (zp h.rf j hj).1 (zp h.rf j hj).2.1,zs h.rd fun j hj=>hk j (zp h.rd j hj).1 (zp h.rd j hj).2.1⟩
theorem KeepHi.below (h:Below wx.heap.size wx w'):KeepHi B wx w':=fun k _ hk=>h.block k hk
theorem KeepHi.alloc (o:Obj):KeepHi B wx (wx.alloc o):=KeepHi.below ((Below.refl _ _).alloc (Nat.le_refl _) _)
theorem KeepHi.drew:KeepHi B wx wx.drew:=fun _ _ _=>rfl
theorem KeepHi.set {k0 i:Nat} {v:Value} (h:k0<B):KeepHi B wx (wx.setCell ⟨k0,i,none⟩ v):=fun k hk _=>zo _ (by omega)
theorem aer {B:Nat} {w:World} {e e':TypeId} {v v':Value} {n n' q q':Nat} {xs xs':List Value} (h:w.ownsRow B e q v n xs) (h':w.ownsRow B e' q' v' n' xs') (hne:e≠e'):∀j,v.ownBlock=some j→v'.ownBlock≠some j:=fun j hj hj'=>by
 obtain⟨_,_,c1,h1⟩:=zp h j hj
 obtain⟨_,_,c2,h2⟩:=zp h' j hj'
 rw[h1] at h2
 injection h2 with h2
 injection h2 with _ h2 _
 exact hne h2
theorem aes {B:Nat} {w:World} {e:TypeId} {v:Value} {n q:Nat} {xs:List Value} (h:w.ownsRow B e q v n xs) {k:Nat} {cs:Array Value} {t:TypeId} {fr:Nat×Nat} (hk:w.heap[k]?=some (.cells cs t fr)) (hne:e≠t):v.ownBlock≠some k:=fun hj=>by
 obtain⟨_,_,c1,h1⟩:=zp h k hj
 rw[hk] at h1
 injection h1 with h1
 injection h1 with _ h1 _
 exact hne h1.symm
theorem Ca.root (h:Ca B wx zb bz sb gw wt a b c bits vr vf vd rs fr ds) {vr':Value} {j n':Nat} (ho:w'.ownsRow B 85 1 vr' n' ((rs.map fun j=>.pointer (some ⟨gw,j*3,none⟩))++[.pointer (some ⟨gw,j*3,none⟩)])) (hn:n'=rs.length+1) (hg:wx.grownBy w' vr.ownBlock):Ca B w' zb bz sb gw wt a b c bits vr' vf vd (rs++[j]) fr ds:=by
 have mv:∀k,k<wx.heap.size→vr.ownBlock≠some k→w'.heap[k]?=wx.heap[k]?:=fun k hk hne=>hg.block k hk fun e=>hne e.symm
 refine⟨(mv _ (hlt h.bz') (aes h.rr h.bz' (by decide))).trans h.bz',(mv _ (hlt h.st) (aes h.rr h.st (by decide))).trans h.st,h.zl,h.sl,?_,zs h.rf fun j hj=>mv j (zp h.rf j hj).2.1 (aer h.rf h.rr (by decide) j hj),zs h.rd fun j hj=>mv j (zp h.rd j hj).2.1 (aer h.rd h.rr (by decide) j hj)⟩
 subst hn
 simpa using ho
theorem Ca.from' (h:Ca B wx zb bz sb gw wt a b c bits vr vf vd rs fr ds) {vf':Value} {x:Int} {n':Nat} (ho:w'.ownsRow B 3 1 vf' n' (fr.map iv++[.int .i64 x])) (hn:n'=fr.length+1) (hg:wx.grownBy w' vf.ownBlock):Ca B w' zb bz sb gw wt a b c bits vr vf' vd rs (fr++[x]) ds:=by
 have mv:∀k,k<wx.heap.size→vf.ownBlock≠some k→w'.heap[k]?=wx.heap[k]?:=fun k hk hne=>hg.block k hk fun e=>hne e.symm
 refine⟨(mv _ (hlt h.bz') (aes h.rf h.bz' (by decide))).trans h.bz',(mv _ (hlt h.st) (aes h.rf h.st (by decide))).trans h.st,h.zl,h.sl,zs h.rr fun j hj=>mv j (zp h.rr j hj).2.1 (aer h.rr h.rf (by decide) j hj),?_,zs h.rd fun j hj=>mv j (zp h.rd j hj).2.1 (aer h.rd h.rf (by decide) j hj)⟩
 subst hn
 simpa [iv] using ho
theorem Ca.hold (h:Ca B wx zb bz sb gw wt a b c bits vr vf vd rs fr ds) {g cap:Nat} (hv:vd=.slice (some ⟨g,0,none⟩) ds.length cap) (i:Nat) (x:Bool):Ca B (wx.setCell ⟨g,i,none⟩ (.bool x)) zb bz sb gw wt a b c bits vr vf vd rs fr (ds.set i x):=by
 have hvb:vd.ownBlock=some g:=by rw[hv];rfl
 have mv:∀k,vd.ownBlock≠some k→(wx.setCell ⟨g,i,none⟩ (.bool x)).heap[k]?=wx.heap[k]?:=fun k hne=>zo _ fun e=>hne (by rw[e];exact hvb)
 refine⟨(mv _ (aes h.rd h.bz' (by decide))).trans h.bz',(mv _ (aes h.rd h.st (by decide))).trans h.st,h.zl,h.sl,zs h.rr fun j hj=>mv j (aer h.rr h.rd (by decide) j hj),zs h.rf fun j hj=>mv j (aer h.rf h.rd (by decide) j hj),?_⟩
 have:=acw h.rd hv (i:=i) (.bool x)
 rw[List.length_set,List.map_set]
 exact this
end
def aax {α:Type} (a b:List α) (i:Nat):List α:=a.take i++b.drop i
theorem ad0 {α:Type} {a b:List α} (h:a.length=b.length) (i:Nat):(aax a b i).length=b.length:=by
 unfold aax
 rw[List.length_append,List.length_take,List.length_drop]
 omega
theorem ac9 {α:Type} {a b:List α} (h:a.length=b.length) (i j:Nat):(aax a b i)[j]?=if j<i then a[j]? else b[j]?:=by
 unfold aax
 by_cases hj:j<i
 ·rw[if_pos hj]
  by_cases hl:j<a.length
  ·rw[List.getElem?_append_left (by rw[List.length_take];omega),List.getElem?_take,if_pos hj]
  ·rw[List.getElem?_eq_none (by rw[List.length_append,List.length_take,List.length_drop];omega),List.getElem?_eq_none (by omega)]
 ·rw[if_neg hj]
  by_cases hl:i≤a.length
  ·rw[List.getElem?_append_right (by rw[List.length_take];omega),List.getElem?_drop,List.length_take]
   congr 1
   omega
  ·rw[List.getElem?_eq_none (by rw[List.length_append,List.length_take,List.length_drop];omega),List.getElem?_eq_none (by omega)]
theorem ain {α:Type} {a b:List α} (h:a.length=b.length) {i:Nat} {x:α} (hi:a[i]?=some x):(aax a b i).set i x=aax a b (i+1):=by
 apply List.ext_getElem?
 intro j
 have hl:=(List.getElem?_eq_some_iff.1 hi).1
 rw[List.getElem?_set,ac9 h,ac9 h,ad0 h]
 by_cases e:i=j
 ·subst e
  rw[if_pos rfl,if_pos (by omega),if_pos (by omega)]
  exact hi.symm
 ·rw[if_neg e]
  by_cases hj:j<i
  ·rw[if_pos hj,if_pos (by omega)]
  ·rw[if_neg hj,if_neg (by omega)]
theorem aio {α:Type} {a b:List α} (h:a.length=b.length) {n:Nat} (hn:n=b.length):aax a b n=a:=by
 unfold aax
 rw[List.take_of_length_le (by omega),List.drop_eq_nil_of_le (by omega),List.append_nil]
theorem ahp {α:Type} (a b:List α):aax a b 0=b:=by simp[aax]
theorem ZQ.thAt {B:Nat} {w:World} {zb:Nat} {m:ZM} {N:ZN} {T:List Th} {nw:Nat} {xw:List Value} {here known:List Bool} (h:ZQ B w zb m N T nw xw here known) {g:Option Addr} {c:Nat} (hv:m.vt=.slice g T.length c):ThAt w g (T.map Th.is):=fun j L hj=>by
 rw[List.getElem?_map] at hj
 cases ht:T[j]? with
 | none=>rw[ht] at hj;cases hj
 | some t =>
  rw[ht] at hj
  cases hj
  obtain⟨b,vi,h1,h2,h3,h4⟩:=h.thing ht
  have hl:=(List.getElem?_eq_some_iff.1 ht).1
  obtain⟨g0,c0,e0,_,q0,_⟩:=aa1 h.th (j:=j) (by omega)
  have a3:=hv.symm.trans e0
  injection a3 with a3
  obtain⟨gi,ci,hvi⟩:=aaa h4
  refine⟨g0,0,b,gi,ci,a3,?_,?_,fun i x hi=>?_⟩
  ·rw[Nat.zero_add,q0,List.getElem?_map,h1];rfl
  ·rw[zd h3 4,←hvi];rfl
  ·have hil:=(List.getElem?_eq_some_iff.1 hi).1
   obtain⟨g1,c1,e1,_,q1,_⟩:=aa1 h4 (j:=i) (by omega)
   have a4:=hvi.symm.trans e1
   injection a4 with a4
   exact⟨g1,0,a4,by rw[Nat.zero_add,q1,List.getElem?_map,hi];rfl⟩
theorem ZQ.zcAt {B:Nat} {w:World} {zb bz:Nat} {m:ZM} {N:ZN} {T:List Th} {nw:Nat} {xw:List Value} {here known:List Bool} (h:ZQ B w zb m N T nw xw here known) (hbz:w.cell? ⟨bz,0,none⟩=some (.pointer (some ⟨zb,0,none⟩))) (hl:here.length=T.length) {g:Option Addr} {c:Nat} (hv:m.vt=.slice g T.length c) {g':Option Addr} {c':Nat} (hv':m.vh=.slice g' here.length c'):ZcAt w bz zb g g' c c' (T.map Th.is) here :=
 ⟨hbz,by rw[List.length_map,←hv];exact zd h.blk 1,by rw[←hv'];exact zd h.blk 3,by rw[List.length_map];exact hl,h.thAt hv,fun i b hi=>by
  have hil:=(List.getElem?_eq_some_iff.1 hi).1
  obtain⟨g1,c1,e1,_,q1,_⟩:=aa1 h.hr (j:=i) (by omega)
  have a4:=hv'.symm.trans e1
  injection a4 with a4
  exact⟨g1,0,a4,by rw[Nat.zero_add,q1,List.getElem?_map,hi];rfl⟩⟩
theorem aex {B:Nat} {w wx w':World} (hb:Below B w wx) {v:Value} (hg:wx.grownBy w' v.ownBlock) (hv:∀k,v.ownBlock=some k→B≤k) (hB:B≤wx.heap.size):Below B w w' :=
 hb.trans ⟨hg.os,hg.tape,hg.output,hg.size,fun k hk=>hg.block k (by omega) fun e=>by have:=hv k e.symm;omega⟩
theorem infoPV:(prog.info? 85).map (fun i=>(i.zero,i.size,i.bytes))=some (some (.pointer none),1,8):=by kernel_rfl
theorem aot (n:Nat):madeCells #[Value.bool false] n=((List.replicate n false).map Value.bool).toArray:=by
 apply Array.ext_getElem?
 intro j
 simp only[madeCells,List.map_replicate,List.getElem?_toArray,List.getElem?_replicate]
 by_cases hj:j<n
 ·simp[hj,Nat.mod_one]
 ·simp[hj]
end
section
open Go.RowKit Go.Maps
structure Sv (w wc:World) (sb vb:Nat) (wt a b c bits:Int) (v:HV):Prop where
 bl:Below w.heap.size w wc
 st:wc.heap[sb]?=some (stB wt a b c bits)
 sl:w.heap.size≤sb
 bk:wc.heap[vb]?=some (.cells #[.int .i64 v.kind,.int .i64 v.n,.string v.s] 69 (0,0))
 vl:w.heap.size≤vb
theorem Sv.drew {w wc:World} {sb vb:Nat} {wt a b c bits:Int} {v:HV} (h:Sv w wc sb vb wt a b c bits v):Sv w wc.drew sb vb wt a b c bits v:=⟨h.bl.drew,h.st,h.sl,h.bk,h.vl⟩
theorem Sv.put {w wc:World} {sb vb:Nat} {wt a b c bits:Int} {v:HV} (h:Sv w wc sb vb wt a b c bits v) (u:HV):Sv w (((wc.setCell ⟨vb,0,none⟩ (.int .i64 u.kind)).setCell ⟨vb,1,none⟩ (.int .i64 u.n)).setCell ⟨vb,2,none⟩ (.string u.s)) sb vb wt a b c bits u:=by
 have hne:sb≠vb:=fun e=>by
  have:=h.bk
  rw[←e,h.st] at this
  injection this with this
  injection this with _ this _
  exact absurd this (by decide)
 refine⟨h.bl.trans ⟨rfl,rfl,rfl,by simp[World.setCell],fun k hk=>?_⟩,?_,h.sl,?_,h.vl⟩
 ·have:k≠vb:=by have:=h.vl;omega
  rw[zo _ this,zo _ this,zo _ this]
 ·rw[zo _ hne,zo _ hne,zo _ hne]
  exact h.st
 ·have:=aad (aad (aad h.bk 0 (.int .i64 u.kind)) 1 (.int .i64 u.n)) 2 (.string u.s)
  simpa using this
theorem Sv.outV {B k:Nat} {w wc:World} {zb:Nat} {m:ZM} {s:ZS} {sb vb:Nat} {wt a b c bits:Int} {v:HV} (h:Sv w wc sb vb wt a b c bits v) (z:ZAt B k w zb m s):OutH m vb∧OutH m sb:=by
 have g:=z.hg.keep h.bl
 have hv:=h.vl
 exact⟨acq g h.bk (by decide) (by decide) (fun _ e=>by have:=(zp z.hg.at'.yf _ e).2.1;omega) (fun _ e=>by have:=(zp z.hg.at'.of' _ e).2.1;omega) (fun e=>absurd e (by decide)),acq g h.st (by decide) (by decide) (fun e=>absurd e (by decide)) (fun e=>absurd e (by decide)) (fun e=>absurd e (by decide))⟩
theorem ada {P:PHp} (hs:Small P) {a:Int} {x:HO} (h:aao P a=some x):I64 a:=by
 have h1:=hs.y0
 have h2:=hs.y1
 have h3:=hs.o0
 have h4:=hs.o1
 rcases acj h with ⟨j,hj,rfl⟩ | ⟨j,hj,rfl⟩
 ·have:=(List.getElem?_eq_some_iff.1 hj).1
  exact⟨by omega,by omega⟩
 ·have:=(List.getElem?_eq_some_iff.1 hj).1
  exact⟨by omega,by omega⟩
theorem alg {x:Int} {n:Nat} (h:0<n):∃k:Nat,(x % 18446744073709551616) % n=(k:Int)∧k<n:=by
 have h1:0≤(x % 18446744073709551616) % (n:Int):=Int.emod_nonneg _ (by omega)
 have h2:(x % 18446744073709551616) % (n:Int)<n:=Int.emod_lt_of_pos _ (by omega)
 exact⟨((x % 18446744073709551616) % (n:Int)).toNat,by omega,by omega⟩
theorem Sv.start {w wa:World} {sb:Nat} {wt a b c bits:Int} (hb:Below w.heap.size w wa) (hs:wa.heap[sb]?=some (stB wt a b c bits)) (hl:w.heap.size≤sb) (v:HV):Sv w (wa.alloc (.cells #[.int .i64 v.kind,.int .i64 v.n,.string v.s] 69)).drew sb wa.heap.size wt a b c bits v :=
 ⟨hb.trans (((Below.refl _ _).alloc hb.size _).drew),ac5 _ hs,hl,aan _ _,hb.size⟩
theorem ZQ.whCell {B:Nat} {w:World} {zb:Nat} {m:ZM} {N:ZN} {T:List Th} {wh:List HV} {here known:List Bool} (h:ZQ B w zb m N T wh.length (wh.flatMap aaw) here known) {i:Nat} {v:HV} (hi:wh[i]?=some v) {g:Option Addr} {c:Nat} (hv:m.vw=.slice g wh.length c):∃gw,g=some ⟨gw,0,none⟩∧m.vw.ownBlock=some gw∧w.cell? ⟨gw,i*3,none⟩=some (.int .i64 v.kind)∧w.cell? ⟨gw,i*3+1,none⟩=some (.int .i64 v.n)∧w.cell? ⟨gw,i*3+2,none⟩=some (.string v.s)∧∀j,w.frozen? ⟨gw,j,none⟩=false:=by
 have hl:=(List.getElem?_eq_some_iff.1 hi).1
 obtain⟨g0,c0,e0,_,q0,_⟩:=aa1 h.wr (j:=i*3) (by omega)
 obtain⟨g1,c1,e1,_,q1,_⟩:=aa1 h.wr (j:=i*3+1) (by omega)
 obtain⟨g2,c2,e2,_,q2,_⟩:=aa1 h.wr (j:=i*3+2) (by omega)
 have a1:=e0.symm.trans e1
 have a2:=e0.symm.trans e2
 injection a1 with a1
 injection a1 with a1
 injection a1 with a1
 injection a2 with a2
 injection a2 with a2
 injection a2 with a2
 subst a1 a2
 have a3:=hv.symm.trans e0
 injection a3 with a3
 obtain⟨_,_,cs,hc⟩:=zp h.wr g0 (by rw[e0];rfl)
 refine⟨g0,a3,by rw[e0];rfl,?_,?_,?_,fun j=>zt hc j⟩
 ·rw[q0,show i*3=i*3+0 by omega,ac6 hi (by decide)];rfl
 ·rw[q1,ac6 hi (by decide)];rfl
 ·rw[q2,ac6 hi (by decide)];rfl
theorem aa2 {w:World} {B:Nat} {e:TypeId} {v:Value} {n:Nat} {xs:List Value} (h:w.ownsRow B e 1 v n xs) {i:Nat} {x:Value} (hi:xs[i]?=some x) {g:Option Addr} {c:Nat} (hv:v=.slice g n c):∃g0,g=some ⟨g0,0,none⟩∧v.ownBlock=some g0∧w.cell? ⟨g0,i,none⟩=some x∧w.frozen? ⟨g0,i,none⟩=false:=by
 have hl:=(List.getElem?_eq_some_iff.1 hi).1
 obtain⟨g0,c0,e0,_,q0,q1⟩:=aa1 h (j:=i) (by have:=h.1;omega)
 have a3:=hv.symm.trans e0
 injection a3 with a3
 exact⟨g0,a3,by rw[e0];rfl,by rw[q0];exact hi,q1⟩
theorem aqe {B k:Nat} {w:World} {zb:Nat} {m:ZM} {s:ZS} (h:ZAt B k w zb m s) (hk:k<60) (hT:ErrT w) (hlen:0<s.T.length) {wt a b c bits:Int} (hci:I64 c) :
  Calls prog 18 #[.pointer (some ⟨zb,0,none⟩),.agg #[.int .i64 wt,.int .i64 a,.int .i64 b,.int .i64 c,.int .u64 bits]] w fun e w'=>e=.returned (.bool true)∧ZNext B (k+1) zb w w':=by
 have HBA:Hid (Below w.heap.size w (w.alloc (.cells #[.int .i64 wt,.int .i64 a,.int .i64 b,.int .i64 c,.int .u64 bits] 42))):=(Below.refl _ _).alloc (Nat.le_refl _) _
 have hSB:(w.alloc (.cells #[.int .i64 wt,.int .i64 a,.int .i64 b,.int .i64 c,.int .u64 bits] 42)).heap[w.heap.size]?=some (stB wt a b c bits):=aan _ _
 have c1:=zd hSB 1
 have c3:=zd hSB 3
 simp only[List.getElem?_toArray,List.getElem?_cons_succ,List.getElem?_cons_zero] at c1 c3
 obtain⟨gt,ct,hvt⟩:=aaa h.zr.th
 obtain⟨gk,ck,hvk⟩:=aaa h.zr.kr
 obtain⟨gw,cw,hvw⟩:=aaa h.zr.wr
 have b1:w.cell? ⟨zb,1,none⟩=some (.slice gt s.T.length ct):=by rw[←hvt];exact zd h.zr.blk 1
 have d1:=aac b1 (.cells #[.int .i64 wt,.int .i64 a,.int .i64 b,.int .i64 c,.int .u64 bits] 42)
 have hTl:s.T.length≤60:=by have:=h.fw.t;have:=h.fw.k60;omega
 have hWl:s.wh.length=s.T.length:=h.zi.lw
 have hKl:s.known.length=s.T.length:=h.zi.lk
 obtain⟨L2,hL2⟩:∃L2:Nat,(L2:Int)=2*(s.T.length:Int):=⟨2*s.T.length,by omega⟩
 have w1:IntKind.i64.wrap (2*(s.T.length:Int))=(L2:Int):=by rw[hL2];exact aav (by omega) (by omega)
 have HL2:=zc hL2
 have hL2b:L2≤120:=by omega
 have hL2a:0<L2:=by omega
 have HS:=zc hSB
 have HZA:=zc h
 have HT:=zc hT
 have HVT:=zc hvt
 have HVK:=zc hvk
 have HVW:=zc hvw
 have HCI:=zc hci
 have HWL:=zc hWl
 have HKL:=zc hKl
 have hzl:=hlt h.zr.blk
 generalize hWA:w.alloc (.cells #[.int .i64 wt,.int .i64 a,.int .i64 b,.int .i64 c,.int .u64 bits] 42)=wa at *
 have HWA:=zc hWA
 have hwl:w.heap.size<wa.heap.size:=hlt hSB
 have hzl2:zb<wa.heap.size:=by omega
 have hq:=aco
 clear h hT hSB hWA hL2 hvt hvk hvw b1 hci hWl hKl
 go_enter func18,ntmps18
 go_wp2_with (rw[za HWA])
 go_cut [5,6] (fun p q wc=>p=.int .i64 ((a % 18446744073709551616) % (s.T.length:Int))∧q=.int .i64 ((c % 18446744073709551616) % (L2:Int))∧wc=wa.drew)
 case first =>
  have ent10:∀w:World,Sem.run prog (callFunc 34 #[.int .i64 a,.int .i64 (s.T.length:Int)]) w=.ok (.enter 34 #[.int .i64 a,.int .i64 (s.T.length:Int)]) w:=fun _=>by kernel_rfl
  have ent11:∀w:World,Sem.run prog (callFunc 34 #[.int .i64 c,.int .i64 (L2:Int)]) w=.ok (.enter 34 #[.int .i64 c,.int .i64 (L2:Int)]) w:=fun _=>by kernel_rfl
  refine wp_region_held_drew (S:=fun w'=>w'.cell? ⟨w.heap.size,1,none⟩=some (.int .i64 a)∧w'.cell? ⟨w.heap.size,3,none⟩=some (.int .i64 c)∧w'.cell? ⟨zb,1,none⟩=some (.slice gt s.T.length ct)∧w'=wa.drew) (by kernel_rfl) ⟨c1,c3,d1,rfl⟩ (fun hHeld=>?_)
  refine tka 0 10 rfl ?_
  refine tka 1 11 rfl ?_
  refine tka 2 12 rfl ?_
  refine tka 3 13 rfl ?_
  refine tka 4 14 rfl ?_
  refine tka 5 15 rfl ?_
  refine tka 6 16 rfl ?_
  refine tka 8 18 rfl ?_
  refine tka 9 19 rfl ?_
  refine tka 10 20 rfl ?_
  simp only[sA,sB,sC]
  refine tka 11 21 rfl ?_
  refine tka 12 22 rfl ?_
  refine tka 13 23 rfl ?_
  refine tka 14 24 rfl ?_
  refine tka 15 25 rfl ?_
  simp only[sA,sB,sC]
  refine wpAnyH_ready (rs:=[7]) (by kernel_rfl) (by simp) ?_
  refine AllReadyH.cons (o:={ dst:=some 17,op:=_,type:=_,pos:=_,after:=_,guard:=_ }) rfl (fun K hK=>?_) AllReadyH.nil
  refine aaq (by kernel_rfl) (by simp[Act.eval,ent10,go_sem]) ((ale (a:=a) (n:=s.T.length) hlen (by omega)).mono ?_)
  rintro e w2 ⟨rfl,hw2⟩
  subst hw2
  refine hK.out _ _ hHeld (fun hHeld7=>?_)
  clear hK K
  simp only[Act.put,sA,sB,sC]
  refine wpAnyH_ready (rs:=[16]) (by kernel_rfl) (by simp) ?_
  refine AllReadyH.cons (o:={ dst:=some 26,op:=_,type:=_,pos:=_,after:=_,guard:=_ }) rfl (fun K hK=>?_) AllReadyH.nil
  refine aaq (by kernel_rfl) (by simp[Act.eval,ent11,go_sem]) ((ale (a:=c) (n:=L2) (by omega) (by omega)).mono ?_)
  rintro e w2 ⟨rfl,hw2⟩
  subst hw2
  refine hK.out _ _ hHeld7 (fun hHeld16=>?_)
  clear hK K
  simp only[Act.put,sA,sB,sC]
  refine tka 17 5 rfl ?_
  refine tka 18 6 rfl ?_
  simp only[sA,sB,sC]
  refine wpAnyH_done (by kernel_rfl) ?_ _
  go_wp2_with fail
  go_meet
  exact⟨rfl,rfl,rfl⟩
 obtain⟨rfl,rfl,rfl⟩:=hcut
 obtain⟨kk,hk1,hkk⟩:=alg (x:=a) hlen
 obtain⟨jj,hj1,hjj⟩:=alg (x:=c) hL2a
 rw[hk1,hj1]
 clear hk1 hj1 w1
 have HB1:=zc ((za HBA).drew)
 have hZ:=(za HZA).zr.keep (za HB1)
 obtain⟨kn,hkn⟩:∃kn,s.known[kk]?=some kn:=⟨_,List.getElem?_eq_getElem (by rw[za HKL];exact hkk)⟩
 obtain⟨gk0,rfl,hgk,r1,_⟩:=aa2 hZ.kr (i:=kk) (x:=.bool kn) (by rw[List.getElem?_map,hkn];rfl) (za HVK)
 have r0:wa.drew.cell? ⟨zb,4,none⟩=some (.slice (some ⟨gk0,0,none⟩) s.known.length ck):=by rw[←za HVK];exact zd hZ.blk 4
 have hkk2:(kk:Int)<(s.known.length:Int):=by rw[za HKL];omega
 have HKN:=zc hkn
 clear hkn hZ
 cases kn with
 | false =>
  go_wp2_with fail
  go_ret
  exact⟨rfl,(za HZA).same hk (za HB1)⟩
 | true =>
  go_upto_region 4 with fail
  go_cut [7,8] (fun p q wc=>q=.int .i64 (-1)∧∃vb,p=.pointer (some ⟨vb,0,none⟩)∧Hid (Sv w wc w.heap.size vb wt a b c bits ⟨2,c,⟨#[]⟩⟩))
  case first =>
   have q3:wa.drew.cell? ⟨w.heap.size,3,none⟩=some (.int .i64 c):=c3
   go_wp2_with fail
   go_meet
   exact⟨rfl,_,rfl,Sv.start (za HBA) (za HS) (Nat.le_refl _) ⟨2,c,⟨#[]⟩⟩⟩
  obtain⟨rfl,vb,rfl,hv⟩:=hcut
  have HV:=hv
  clear hv r0 r1 c1 c3 d1
  have hZ:=(za HZA).zr.keep (za HV).bl
  have d1:wc.cell? ⟨zb,1,none⟩=some (.slice gt s.T.length ct):=by rw[←za HVT];exact zd hZ.blk 1
  have d4:wc.cell? ⟨zb,4,none⟩=some (.slice (some ⟨gk0,0,none⟩) s.known.length ck):=by rw[←za HVK];exact zd hZ.blk 4
  have HZ:=zc hZ
  clear hZ
  go_upto_region 5 with fail
  go_cut [53] (fun p wx=>∃cj,p=.bool cj∧Hid (cj=true→jj<s.T.length∧s.known[jj]?=some true)∧wx=wc)
  case first =>
   by_cases hjl:jj<s.T.length
   ·have hjl2:(jj:Int)<(s.T.length:Int):=by omega
    have hjl3:(jj:Int)<(s.known.length:Int):=by rw[za HKL];omega
    obtain⟨kj,hkj⟩:∃kj,s.known[jj]?=some kj:=⟨_,List.getElem?_eq_getElem (by rw[za HKL];exact hjl)⟩
    obtain⟨gk1,e1,_,r1,_⟩:=aa2 (za HZ).kr (i:=jj) (x:=.bool kj) (by rw[List.getElem?_map,hkj];rfl) (za HVK)
    cases e1
    have HKJ:=zc hkj
    clear hkj
    go_wp2_with fail
    go_meet
    exact⟨kj,rfl,fun e=>⟨hjl,by rw[←e];exact za HKJ⟩,rfl⟩
   ·have hjl2:decide ((jj:Int)<(s.T.length:Int))=false:=by rw[decide_eq_false_iff_not];omega
    go_wp2_with fail
    go_meet
    exact⟨false,rfl,fun e=>absurd e (by decide),rfl⟩
  rename World=>wx
  obtain⟨cj,rfl,HCJ,hx⟩:=hcut
  subst hx
  obtain⟨gwv,hgw0⟩:∃gwv,gw=gwv:=⟨_,rfl⟩
  have d2:wx.cell? ⟨zb,2,none⟩=some (.slice gw s.wh.length cw):=by rw[←za HVW];exact zd (za HZ).blk 2
  clear hgw0
  go_upto_if 53 with fail
  go_cut [8] (fun p wy=>∃cc v,p=.int .i64 cc∧Hid (Fld s.here s.ad cc v∧(-1≤cc∧cc≤s.T.length)∧(cc=-1∨0<cc)∧I64 v.n∧Sv w wy w.heap.size vb wt a b c bits v))
  case first =>
   cases cj with
   | false =>
    go_wp2_with fail
    go_meet
    exact⟨-1,⟨2,c,⟨#[]⟩⟩,rfl,⟨fun e=>absurd e (by decide),fun _=>rfl,fun e=>absurd e (by decide)⟩,⟨by omega,by omega⟩,Or.inl rfl,za HCI,za HV⟩
   | true =>
    obtain⟨hjl,hkj⟩:=za HCJ rfl
    obtain⟨hhj,hwj⟩:=(za HZA).zi.kn jj hkj
    have hjl2:(jj:Int)<(s.wh.length:Int):=by rw[za HWL];omega
    obtain⟨gw0,rfl,_,q0,q1,q2,_⟩:=(za HZ).whCell hwj (za HVW)
    have v0:=zd (za HV).bk 0
    have v1:=zd (za HV).bk 1
    have v2:=zd (za HV).bk 2
    have f0:=zt (za HV).bk 0
    have f1:=zt (za HV).bk 1
    have f2:=zt (za HV).bk 2
    simp only[List.getElem?_toArray,List.getElem?_cons_succ,List.getElem?_cons_zero] at v0 v1 v2
    have HHJ:=zc hhj
    have HWJ:=zc hwj
    clear hkj hhj hwj
    have HAD:Hid (I64 (s.ad jj)):=by
     obtain⟨t,ht⟩:=(za HZA).zi.rep.th (za HHJ)
     obtain⟨x,hx,_⟩:=(za HZA).zi.rep.obj jj t ht (za HHJ)
     exact ada (za HZA).hg.small hx
    go_wp2_with fail
    go_meet
    exact⟨(jj:Int)+1,toA (s.ad jj),by go_num,⟨fun e=>absurd e (by omega),fun e=>absurd e (by omega),fun _=>⟨by rw[show (jj:Int)+1-1=jj by omega,Int.toNat_natCast],by rw[show (jj:Int)+1-1=jj by omega,Int.toNat_natCast];exact za HHJ⟩⟩,⟨by omega,by omega⟩,Or.inr (by omega),za HAD,(za HV).put (toA (s.ad jj))⟩
  rename World=>wy
  obtain⟨cc,v,rfl,hF⟩:=hcut
  obtain⟨hf,hcc,hc2,hvi,hV⟩:=za hF
  have hZ:=(za HZA).zr.keep hV.bl
  obtain⟨hhk,hwk⟩:=(za HZA).zi.kn kk (za HKN)
  obtain⟨t,ht⟩:=(za HZA).zi.rep.th hhk
  obtain⟨gw0,rfl,hgwb,q0,q1,q2,_⟩:=hZ.whCell hwk (za HVW)
  obtain⟨tb,vi,hb1,hb2,hb3,hb4⟩:=hZ.thing ht
  obtain⟨gt0,rfl,hgtb,_⟩:=aa2 hZ.th (i:=kk) (x:=.pointer (some ⟨tb,0,none⟩)) (by rw[List.getElem?_map,hb1];rfl) (za HVT)
  have HHK:=zc hhk
  have HTT:=zc ht
  have HB1:=zc hb1
  have HB2:=zc hb2
  have HF:=zc hf
  have HCC:=zc hcc
  have HC2:=zc hc2
  have HVI:=zc hvi
  have HV2:=zc hV
  have HZ2:=zc hZ
  have HG2:=zc ((za HZA).hg.keep hV.bl)
  have HOV:=zc (hV.outV (za HZA)).1
  have HOS:=zc (hV.outV (za HZA)).2
  have HOZ:=zc (hZ.out (za HG2) (Or.inl rfl))
  have HOW:=zc (hZ.out (za HG2) (Or.inr (Or.inr (Or.inl hgwb))))
  have d0:wy.cell? ⟨zb,0,none⟩=some (.pointer (some ⟨m.hp,0,none⟩)):=zd hZ.blk 0
  have d2:wy.cell? ⟨zb,2,none⟩=some (.slice (some ⟨gw0,0,none⟩) s.wh.length cw):=by rw[←za HVW];exact zd hZ.blk 2
  have s2:wy.cell? ⟨w.heap.size,2,none⟩=some (.int .i64 b):=zd hV.st 2
  have v0:wy.cell? ⟨vb,0,none⟩=some (.int .i64 v.kind):=zd hV.bk 0
  have v1:wy.cell? ⟨vb,1,none⟩=some (.int .i64 v.n):=zd hV.bk 1
  have v2:wy.cell? ⟨vb,2,none⟩=some (.string v.s):=zd hV.bk 2
  have q1:wy.cell? ⟨gw0,kk*3+1,none⟩=some (.int .i64 (s.ad kk)):=q1
  have hkk3:(kk:Int)<(s.wh.length:Int):=by rw[za HWL];omega
  have hkk4:(kk:Int)<(s.T.length:Int):=by omega
  clear hF hf hcc hc2 hvi hV hZ hhk hwk ht hb1 hb2 hb3 hb4 q0 q2 hgwb hgtb HZ HV HCJ d1 d4
  go_upto_region 7 with fail
  by_cases hin:0≤b∧b<(t.is.length:Int)
  ·obtain⟨f,rfl⟩:∃f:Nat,b=f:=⟨b.toNat,by omega⟩
   have hfl:f<t.is.length:=by omega
   have hfl2:(f:Int)<(t.is.length:Int):=by omega
   have n1:¬(f:Int)<0:=by omega
   have n2:¬(t.is.length:Int)≤(f:Int):=by omega
   clear hin
   go_cut [9] (fun p wc=>p=.nilIface∧Hid (∃P' vn',SetAt1 s.P P' (s.ad kk) f v∧NtOk P'∧SameP s.P P'∧Zh B w wc zb { m with vn:=vn' } P' s.D (aau s.P) s.T s.wh s.here s.known∧wc.heap[w.heap.size]?=some (stB wt a f c bits)))
   case first =>
    have ent70:∀w:World,Sem.run prog (callFunc 35 #[.pointer (some ⟨m.hp,0,none⟩),.int .i64 (s.ad kk),.int .i64 (f:Int),.agg #[.int .i64 v.kind,.int .i64 v.n,.string v.s]]) w=.ok (.enter 35 #[.pointer (some ⟨m.hp,0,none⟩),.int .i64 (s.ad kk),.int .i64 (f:Int),.agg #[.int .i64 v.kind,.int .i64 v.n,.string v.s]]) w:=fun _=>by kernel_rfl
    refine wp_region_held_drew (S:=fun w'=>w'.cell? ⟨zb,0,none⟩=some (.pointer (some ⟨m.hp,0,none⟩))∧w'.cell? ⟨zb,2,none⟩=some (.slice (some ⟨gw0,0,none⟩) s.wh.length cw)∧w'.cell? ⟨gw0,kk*3+1,none⟩=some (.int .i64 (s.ad kk))∧w'.cell? ⟨w.heap.size,2,none⟩=some (.int .i64 (f:Int))∧w'.cell? ⟨vb,0,none⟩=some (.int .i64 v.kind)∧w'.cell? ⟨vb,1,none⟩=some (.int .i64 v.n)∧w'.cell? ⟨vb,2,none⟩=some (.string v.s)) (by kernel_rfl) ⟨d0,d2,q1,s2,v0,v1,v2⟩ (fun hHeld=>?_)
    refine tka 0 63 rfl ?_
    refine tka 1 64 rfl ?_
    refine tka 2 65 rfl ?_
    refine tka 3 66 rfl ?_
    refine tka 4 67 rfl ?_
    refine tka 5 68 rfl ?_
    refine tka 6 69 rfl ?_
    refine tka 7 70 rfl ?_
    refine tka 8 71 rfl ?_
    refine tka 9 72 rfl ?_
    simp only[sA,sB,sC]
    refine tka 10 73 rfl ?_
    refine tka 11 74 rfl ?_
    refine tka 12 75 rfl ?_
    refine tka 13 76 rfl ?_
    refine tka 14 77 rfl ?_
    simp only[sA,sB,sC]
    refine wpAnyH_ready (rs:=[15]) (by kernel_rfl) (by simp) ?_
    refine AllReadyH.cons (o:={ dst:=some 78,op:=_,type:=_,pos:=_,after:=_,guard:=_ }) rfl (fun K hK=>?_) AllReadyH.nil
    refine aaq (by kernel_rfl) (by simp[Act.eval,ent70,go_sem]) ((set_ok (w:=wy.drew) (m:=m) ((za HG2).keep (Below.refl _ _).drew) (za HZA).zi (by have:=(za HZA).fw.nt;omega) (za HTT) (za HHK) hfl (za HF) (za HVI) (za HC2)).mono ?_)
    rintro e w2 ⟨rfl,hz⟩
    have HZZ:=zc hz
    clear hz
    refine hK.out _ _ ⟨(za HZZ).cell d0 (za HOZ),(za HZZ).cell d2 (za HOZ),(za HZZ).cell q1 (za HOW),(za HZZ).cell s2 (za HOS),(za HZZ).cell v0 (za HOV),(za HZZ).cell v1 (za HOV),(za HZZ).cell v2 (za HOV)⟩ (fun hHeld15=>?_)
    clear hK K
    simp only[Act.put,sA,sB,sC]
    refine tka 16 9 rfl ?_
    simp only[sA,sB,sC]
    refine wpAnyH_done (by kernel_rfl) ?_ _
    go_wp2_with fail
    go_meet
    refine⟨rfl,?_⟩
    have hzh:Zh B w wy.drew zb m s.P s.D (aau s.P) s.T s.wh s.here s.known:=Zh.drew ⟨za HG2,za HZ2,(za HV2).bl.mono (za HZA).hg.hB⟩
    obtain⟨P',vn',z1,z2,z3,z4⟩:=SetZ.zh hzh (za HZZ)
    have HS2:=(za HV2).st
    obtain⟨_,_,_,_,_,_,hfr,_⟩:=za HZZ
    exact⟨P',vn',z1,z2,z3,z4,(hfr _ (hlt HS2) (za HOS)).trans HS2⟩
   obtain⟨rfl,hcut⟩:=hcut
   obtain⟨P',vn',z1,z2,z3,z4,z5⟩:=za hcut
   have HW1:=zc z1
   have HW2:=zc z2
   have HW3:=zc z3
   have HW4:=zc z4
   obtain⟨hk1,hk2⟩:=z4.zr.ob kk t tb vi (za HTT) (za HB1) (za HB2)
   obtain⟨gi,ci,hvi⟩:=aaa hk2
   obtain⟨gt1,e1,_,r1,_⟩:=aa2 z4.zr.th (i:=kk) (x:=.pointer (some ⟨tb,0,none⟩)) (by rw[List.getElem?_map];show Option.map pv m.bs[kk]?=_;rw[za HB1];rfl) (za HVT)
   cases e1
   obtain⟨gi0,rfl,_,r3,r4⟩:=aa2 hk2 (i:=f) (x:=.int .i64 (t.is[f])) (by rw[List.getElem?_map,List.getElem?_eq_getElem hfl];rfl) hvi
   have s1:wc.cell? ⟨zb,1,none⟩=some (.slice (some ⟨gt0,0,none⟩) s.T.length ct):=by rw[←za HVT];exact zd z4.zr.blk 1
   have s2:wc.cell? ⟨w.heap.size,2,none⟩=some (.int .i64 (f:Int)):=zd z5 2
   have r2:wc.cell? ⟨tb,4,none⟩=some (.slice (some ⟨gi0,0,none⟩) t.is.length ci):=by rw[←hvi];exact zd hk1 4
   have HGI:=zc hvi
   clear hcut z1 z2 z3 z4 z5 hk1 hk2 hvi d0 d2 v0 v1 v2 q1
   go_wp2_with fail
   go_cut [97] (fun p wd=>p=.bool false∧wd=wc.drew)
   case first =>
    refine wp_region_held_drew (S:=fun w'=>w'.cell? ⟨w.heap.size,2,none⟩=some (.int .i64 (f:Int))∧w'.cell? ⟨zb,1,none⟩=some (.slice (some ⟨gt0,0,none⟩) s.T.length ct)∧w'.cell? ⟨gt0,kk,none⟩=some (.pointer (some ⟨tb,0,none⟩))∧w'.cell? ⟨tb,4,none⟩=some (.slice (some ⟨gi0,0,none⟩) t.is.length ci)) (by kernel_rfl) ⟨s2,s1,r1,r2⟩ (fun hHeld=>?_)
    refine tka 0 79 rfl ?_
    refine tka 1 80 rfl ?_
    refine tka 2 81 rfl ?_
    refine tka 3 82 rfl ?_
    simp only[sA,sB,sC]
    refine tka 4 83 rfl ?_
    simp only[sA,sB,sC]
    refine tka 5 84 rfl ?_
    simp only[sA,sB,sC]
    refine tka 6 85 rfl ?_
    simp only[sA,sB,sC]
    refine tka 7 86 rfl ?_
    simp only[sA,sB,sC]
    refine tka 8 87 rfl ?_
    simp only[sA,sB,sC]
    refine tka 9 88 rfl ?_
    simp only[sA,sB,sC]
    refine tka 10 89 rfl ?_
    simp only[sA,sB,sC]
    refine tka 11 90 rfl ?_
    simp only[sA,sB,sC]
    refine tka 12 91 rfl ?_
    simp only[sA,sB,sC]
    refine tka 13 92 rfl ?_
    simp only[sA,sB,sC]
    refine tka 14 93 rfl ?_
    simp only[sA,sB,sC]
    refine tka 15 94 rfl ?_
    simp only[sA,sB,sC]
    refine tka 16 95 rfl ?_
    simp only[sA,sB,sC]
    refine tka 17 96 rfl ?_
    refine tka 18 97 rfl ?_
    simp only[sA,sB,sC]
    refine wpAnyH_done (by kernel_rfl) ?_ _
    go_wp2_with fail
    go_meet
    exact⟨by simp;exact hfl,rfl⟩
   rename World=>wd
   obtain⟨rfl,hd⟩:=hcut
   have s1:wd.cell? ⟨zb,1,none⟩=some (.slice (some ⟨gt0,0,none⟩) s.T.length ct):=by rw[hd];exact s1
   have s2:wd.cell? ⟨w.heap.size,2,none⟩=some (.int .i64 (f:Int)):=by rw[hd];exact s2
   have r1:wd.cell? ⟨gt0,kk,none⟩=some (.pointer (some ⟨tb,0,none⟩)):=by rw[hd];exact r1
   have r2:wd.cell? ⟨tb,4,none⟩=some (.slice (some ⟨gi0,0,none⟩) t.is.length ci):=by rw[hd];exact r2
   have r3:wd.cell? ⟨gi0,f,none⟩=some (.int .i64 (t.is[f])):=by rw[hd];exact r3
   have r4:wd.frozen? ⟨gi0,f,none⟩=false:=by rw[hd];exact r4
   have HW5:Hid (Zh B w wd zb { m with vn:=vn' } P' s.D (aau s.P) s.T s.wh s.here s.known):=by rw[hd];exact(za HW4).drew
   clear hd HW4
   go_wp2_with fail
   refine ace (S:=fun w'=>w'.cell? ⟨zb,1,none⟩=some (.slice (some ⟨gt0,0,none⟩) s.T.length ct)∧w'.cell? ⟨gt0,kk,none⟩=some (.pointer (some ⟨tb,0,none⟩))∧w'.cell? ⟨tb,4,none⟩=some (.slice (some ⟨gi0,0,none⟩) t.is.length ci)∧w'.cell? ⟨w.heap.size,2,none⟩=some (.int .i64 (f:Int))) 14 (by kernel_rfl) ⟨s1,r1,r2,s2⟩ (fun hHeld=>?_)
   refine zn (i:=0) (oi:={ dst:=some 100,op:=_,type:=_,pos:=_,after:=_,guard:=_ }) (v:=?_) rfl (by kernel_rfl) (by kernel_rfl) (by kernel_rfl) (by rfl) (fun _ _ _ h=>h) (Or.inl ⟨by rfl,?_⟩) (by assumption) ?_
   case refine_2 =>
    intro w hSw
    try dsimp only at hSw
    go_simp
    try with_reducible rfl
   simp only[Act.put,sA,sB,sC]
   refine zn (i:=1) (oi:={ dst:=some 101,op:=_,type:=_,pos:=_,after:=_,guard:=_ }) (v:=?_) rfl (by kernel_rfl) (by kernel_rfl) (by kernel_rfl) (by rfl) (fun _ _ _ h=>h) (Or.inl ⟨by rfl,?_⟩) (by assumption) ?_
   case refine_2 =>
    intro w hSw
    try dsimp only at hSw
    go_simp
    try with_reducible rfl
   simp only[Act.put,sA,sB,sC]
   refine zn (i:=2) (oi:={ dst:=some 102,op:=_,type:=_,pos:=_,after:=_,guard:=_ }) (v:=?_) rfl (by kernel_rfl) (by kernel_rfl) (by kernel_rfl) (by rfl) (fun _ _ _ h=>h) (Or.inl ⟨by rfl,?_⟩) (by assumption) ?_
   case refine_2 =>
    intro w hSw
    try dsimp only at hSw
    go_simp
    try with_reducible rfl
   simp only[Act.put,sA,sB,sC]
   refine aal (i:=3) (cs:=[5,6,7,8,9,13,14]) (oi:={ dst:=some 103,op:=_,type:=_,pos:=_,after:=_,guard:=_ }) (v:=?_) rfl (by kernel_rfl) (by kernel_rfl) (by kernel_rfl) (by rfl) (by kernel_rfl) (fun _ _ _ h=>h) (Or.inl ⟨by rfl,?_⟩) (by assumption) ?_
   case refine_2 =>
    intro w hSw
    try dsimp only at hSw
    go_simp
    try with_reducible rfl
   simp only[Act.put,sA,sB,sC]
   refine zn (i:=4) (oi:={ dst:=some 104,op:=_,type:=_,pos:=_,after:=_,guard:=_ }) (v:=?_) rfl (by kernel_rfl) (by kernel_rfl) (by kernel_rfl) (by rfl) (fun _ _ _ h=>h) (Or.inl ⟨by rfl,?_⟩) (by assumption) ?_
   case refine_2 =>
    intro w hSw
    try dsimp only at hSw
    go_simp
    try with_reducible rfl
   simp only[Act.put,sA,sB,sC]
   refine zn (i:=5) (oi:={ dst:=some 105,op:=_,type:=_,pos:=_,after:=_,guard:=_ }) (v:=?_) rfl (by kernel_rfl) (by kernel_rfl) (by kernel_rfl) (by rfl) (fun _ _ _ h=>h) (Or.inl ⟨by rfl,?_⟩) (by assumption) ?_
   case refine_2 =>
    intro w hSw
    try dsimp only at hSw
    go_simp
    try with_reducible rfl
   simp only[Act.put,sA,sB,sC]
   refine aal (i:=6) (cs:=[7,8,9,13,14]) (oi:={ dst:=some 106,op:=_,type:=_,pos:=_,after:=_,guard:=_ }) (v:=?_) rfl (by kernel_rfl) (by kernel_rfl) (by kernel_rfl) (by rfl) (by kernel_rfl) (fun _ _ _ h=>h) (Or.inl ⟨by rfl,?_⟩) (by assumption) ?_
   case refine_2 =>
    intro w hSw
    try dsimp only at hSw
    go_simp
    try with_reducible rfl
   simp only[Act.put,sA,sB,sC]
   refine zn (i:=7) (oi:={ dst:=some 107,op:=_,type:=_,pos:=_,after:=_,guard:=_ }) (v:=?_) rfl (by kernel_rfl) (by kernel_rfl) (by kernel_rfl) (by rfl) (fun _ _ _ h=>h) (Or.inl ⟨by rfl,?_⟩) (by assumption) ?_
   case refine_2 =>
    intro w hSw
    try dsimp only at hSw
    go_simp
    try with_reducible rfl
   simp only[Act.put,sA,sB,sC]
   refine zn (i:=8) (oi:={ dst:=some 108,op:=_,type:=_,pos:=_,after:=_,guard:=_ }) (v:=?_) rfl (by kernel_rfl) (by kernel_rfl) (by kernel_rfl) (by rfl) (fun _ _ _ h=>h) (Or.inl ⟨by rfl,?_⟩) (by assumption) ?_
   case refine_2 =>
    intro w hSw
    try dsimp only at hSw
    go_simp
    try with_reducible rfl
   simp only[Act.put,sA,sB,sC]
   refine aal (i:=9) (cs:=[13,14]) (oi:={ dst:=some 109,op:=_,type:=_,pos:=_,after:=_,guard:=_ }) (v:=?_) rfl (by kernel_rfl) (by kernel_rfl) (by kernel_rfl) (by rfl) (by kernel_rfl) (fun _ _ _ h=>h) (Or.inl ⟨by rfl,?_⟩) (by assumption) ?_
   case refine_2 =>
    intro w hSw
    try dsimp only at hSw
    go_simp
    try with_reducible rfl
   simp only[Act.put,sA,sB,sC]
   refine zn (i:=10) (oi:={ dst:=some 110,op:=_,type:=_,pos:=_,after:=_,guard:=_ }) (v:=?_) rfl (by kernel_rfl) (by kernel_rfl) (by kernel_rfl) (by rfl) (fun _ _ _ h=>h) (Or.inl ⟨by rfl,?_⟩) (by assumption) ?_
   case refine_2 =>
    intro w hSw
    try dsimp only at hSw
    go_simp
    try with_reducible rfl
   simp only[Act.put,sA,sB,sC]
   refine aal (i:=11) (cs:=[13,14]) (oi:={ dst:=some 111,op:=_,type:=_,pos:=_,after:=_,guard:=_ }) (v:=?_) rfl (by kernel_rfl) (by kernel_rfl) (by kernel_rfl) (by rfl) (by kernel_rfl) (fun _ _ _ h=>h) (Or.inl ⟨by rfl,?_⟩) (by assumption) ?_
   case refine_2 =>
    intro w hSw
    try dsimp only at hSw
    go_simp
    try with_reducible rfl
   simp only[Act.put,sA,sB,sC]
   refine zn (i:=12) (oi:={ dst:=some 112,op:=_,type:=_,pos:=_,after:=_,guard:=_ }) (v:=?_) rfl (by kernel_rfl) (by kernel_rfl) (by kernel_rfl) (by rfl) (fun _ _ _ h=>h) (Or.inl ⟨by rfl,?_⟩) (by assumption) ?_
   case refine_2 =>
    intro w hSw
    try dsimp only at hSw
    go_simp
    try with_reducible rfl
   simp only[Act.put,sA,sB,sC]
   refine zn (i:=13) (oi:={ dst:=some 113,op:=_,type:=_,pos:=_,after:=_,guard:=_ }) (v:=?_) rfl (by kernel_rfl) (by kernel_rfl) (by kernel_rfl) (by rfl) (fun _ _ _ h=>h) (Or.inl ⟨by rfl,?_⟩) (by assumption) ?_
   case refine_2 =>
    intro w hSw
    try dsimp only at hSw
    go_simp
    try with_reducible rfl
   simp only[Act.put,sA,sB,sC]
   refine acp (o:={ dst:=none,op:=_,type:=_,pos:=_,after:=_,guard:=_ }) (by kernel_rfl) rfl (fun K hK=>?_)
   go_simp
   refine hK.out _ _ ?_
   clear hK K
   refine wpAny_done (by kernel_rfl) ?_ _
   go_wp2_with fail
   go_ret
   exact⟨rfl,Zh.set (m:={ m with vn:=vn' }) (za HZA) hk (za HTT) (za HHK) (za HF) (za HCC) (za HW1) (za HW2) (za HW3) ⟨rfl,rfl⟩ ((za HW5).drew.setIs (za HTT) (za HB2) (za HGI) cc)⟩
  ·have HIN:Hid (b<0∨(t.is.length:Int)≤b):=by show b<0∨_;omega
   clear hin
   have HADK:Hid (I64 (s.ad kk)):=by
    obtain⟨x,hx,_⟩:=(za HZA).zi.rep.obj kk t (za HTT) (za HHK)
    exact ada (za HZA).hg.small hx
   have HGE:Hid (∀r,Found s.P (s.ad kk) r→acx (aa5 s.P r) b=.tuple #[adu,ac8 2]):=fun r hr=>by
    obtain⟨x,hx,hq⟩:=(za HZA).zi.rep.obj kk t (za HTT) (za HHK)
    obtain⟨y,hy⟩:=adr (za HZA).hg.small hx hr
    rw[hy]
    exact ai3 (by rw[hq.len];exact za HIN)
   go_cut [9] (fun p wc=>p=ac8 2∧Hid (Below wy.heap.size wy wc))
   case first =>
    have ent70:∀w:World,Sem.run prog (callFunc 35 #[.pointer (some ⟨m.hp,0,none⟩),.int .i64 (s.ad kk),.int .i64 b,.agg #[.int .i64 v.kind,.int .i64 v.n,.string v.s]]) w=.ok (.enter 35 #[.pointer (some ⟨m.hp,0,none⟩),.int .i64 (s.ad kk),.int .i64 b,.agg #[.int .i64 v.kind,.int .i64 v.n,.string v.s]]) w:=fun _=>by kernel_rfl
    refine wp_region_held_drew (S:=fun w'=>w'.cell? ⟨zb,0,none⟩=some (.pointer (some ⟨m.hp,0,none⟩))∧w'.cell? ⟨zb,2,none⟩=some (.slice (some ⟨gw0,0,none⟩) s.wh.length cw)∧w'.cell? ⟨gw0,kk*3+1,none⟩=some (.int .i64 (s.ad kk))∧w'.cell? ⟨w.heap.size,2,none⟩=some (.int .i64 b)∧w'.cell? ⟨vb,0,none⟩=some (.int .i64 v.kind)∧w'.cell? ⟨vb,1,none⟩=some (.int .i64 v.n)∧w'.cell? ⟨vb,2,none⟩=some (.string v.s)) (by kernel_rfl) ⟨d0,d2,q1,s2,v0,v1,v2⟩ (fun hHeld=>?_)
    refine tka 0 63 rfl ?_
    refine tka 1 64 rfl ?_
    refine tka 2 65 rfl ?_
    refine tka 3 66 rfl ?_
    refine tka 4 67 rfl ?_
    refine tka 5 68 rfl ?_
    refine tka 6 69 rfl ?_
    refine tka 7 70 rfl ?_
    refine tka 8 71 rfl ?_
    refine tka 9 72 rfl ?_
    simp only[sA,sB,sC]
    refine tka 10 73 rfl ?_
    refine tka 11 74 rfl ?_
    refine tka 12 75 rfl ?_
    refine tka 13 76 rfl ?_
    refine tka 14 77 rfl ?_
    simp only[sA,sB,sC]
    refine wpAnyH_ready (rs:=[15]) (by kernel_rfl) (by simp) ?_
    refine AllReadyH.cons (o:={ dst:=some 78,op:=_,type:=_,pos:=_,after:=_,guard:=_ }) rfl (fun K hK=>?_) AllReadyH.nil
    refine aaq (by kernel_rfl) (by simp[Act.eval,ent70,go_sem]) ((set_err (w:=wy.drew) ((za HG2).keep (Below.refl _ _).drew) (a:=s.ad kk) (i:=b) (er:=2) (za HADK) v (za HGE)).mono ?_)
    rintro e w2 ⟨rfl,hb2⟩
    refine hK.out _ _ ⟨zj hb2 d0 (ze d0),zj hb2 d2 (ze d2),zj hb2 q1 (ze q1),zj hb2 s2 (ze s2),zj hb2 v0 (ze v0),zj hb2 v1 (ze v1),zj hb2 v2 (ze v2)⟩ (fun hHeld15=>?_)
    clear hK K
    simp only[Act.put,sA,sB,sC]
    refine tka 16 9 rfl ?_
    simp only[sA,sB,sC]
    refine wpAnyH_done (by kernel_rfl) ?_ _
    go_wp2_with fail
    go_meet
    exact⟨rfl,(Below.refl _ _).drew.trans hb2⟩
   obtain⟨rfl,hcut⟩:=hcut
   have HB3:=hcut
   have HB4:=zc ((za HV2).bl.trans ((za HB3).mono (za HV2).bl.size))
   clear hcut
   have hZ:=(za HZA).zr.keep (za HB4)
   obtain⟨hk1,hk2⟩:=hZ.ob kk t tb vi (za HTT) (za HB1) (za HB2)
   obtain⟨gi,ci,hvi⟩:=aaa hk2
   obtain⟨gt1,e1,_,r1,_⟩:=aa2 hZ.th (i:=kk) (x:=.pointer (some ⟨tb,0,none⟩)) (by rw[List.getElem?_map,za HB1];rfl) (za HVT)
   cases e1
   have s1:wc.cell? ⟨zb,1,none⟩=some (.slice (some ⟨gt0,0,none⟩) s.T.length ct):=by rw[←za HVT];exact zd hZ.blk 1
   have s2:wc.cell? ⟨w.heap.size,2,none⟩=some (.int .i64 b):=zj (za HB3) s2 (ze s2)
   have r2:wc.cell? ⟨tb,4,none⟩=some (.slice gi t.is.length ci):=by rw[←hvi];exact zd hk1 4
   clear hZ hk1 hk2 hvi d0 d2 v0 v1 v2 q1
   go_wp2_with fail
   go_cut [97] (fun p wd=>p=.bool true∧wd=wc.drew)
   case first =>
    by_cases hbz:b<0
    ·have g1:decide (b<0)=true:=by simpa using hbz
     clear hbz
     refine wp_region_held_drew (S:=fun w'=>w'.cell? ⟨w.heap.size,2,none⟩=some (.int .i64 b)∧w'.cell? ⟨zb,1,none⟩=some (.slice (some ⟨gt0,0,none⟩) s.T.length ct)∧w'.cell? ⟨gt0,kk,none⟩=some (.pointer (some ⟨tb,0,none⟩))∧w'.cell? ⟨tb,4,none⟩=some (.slice gi t.is.length ci)) (by kernel_rfl) ⟨s2,s1,r1,r2⟩ (fun hHeld=>?_)
     refine tka 0 79 rfl ?_
     refine tka 1 80 rfl ?_
     refine tka 2 81 rfl ?_
     refine tka 3 82 rfl ?_
     simp only[sA,sB,sC]
     refine tku 4 83 rfl ?_
     simp only[sA,sB,sC]
     refine tku 5 84 rfl ?_
     simp only[sA,sB,sC]
     refine tku 6 85 rfl ?_
     simp only[sA,sB,sC]
     refine tku 7 86 rfl ?_
     simp only[sA,sB,sC]
     refine tku 8 87 rfl ?_
     simp only[sA,sB,sC]
     refine tku 9 88 rfl ?_
     simp only[sA,sB,sC]
     refine tku 10 89 rfl ?_
     simp only[sA,sB,sC]
     refine tku 11 90 rfl ?_
     simp only[sA,sB,sC]
     refine tku 12 91 rfl ?_
     simp only[sA,sB,sC]
     refine tku 13 92 rfl ?_
     simp only[sA,sB,sC]
     refine tku 14 93 rfl ?_
     simp only[sA,sB,sC]
     refine tku 15 94 rfl ?_
     simp only[sA,sB,sC]
     refine tku 16 95 rfl ?_
     simp only[sA,sB,sC]
     refine tku 17 96 rfl ?_
     refine tka 18 97 rfl ?_
     simp only[sA,sB,sC]
     refine wpAnyH_done (by kernel_rfl) ?_ _
     go_wp2_with fail
     go_meet
     exact⟨by rfl,rfl⟩
    ·have g1:¬b<0:=hbz
     have n2:(t.is.length:Int)≤b:=by have:=za HIN;omega
     clear hbz
     refine wp_region_held_drew (S:=fun w'=>w'.cell? ⟨w.heap.size,2,none⟩=some (.int .i64 b)∧w'.cell? ⟨zb,1,none⟩=some (.slice (some ⟨gt0,0,none⟩) s.T.length ct)∧w'.cell? ⟨gt0,kk,none⟩=some (.pointer (some ⟨tb,0,none⟩))∧w'.cell? ⟨tb,4,none⟩=some (.slice gi t.is.length ci)) (by kernel_rfl) ⟨s2,s1,r1,r2⟩ (fun hHeld=>?_)
     refine tka 0 79 rfl ?_
     refine tka 1 80 rfl ?_
     refine tka 2 81 rfl ?_
     refine tka 3 82 rfl ?_
     simp only[sA,sB,sC]
     refine tka 4 83 rfl ?_
     simp only[sA,sB,sC]
     refine tka 5 84 rfl ?_
     simp only[sA,sB,sC]
     refine tka 6 85 rfl ?_
     simp only[sA,sB,sC]
     refine tka 7 86 rfl ?_
     simp only[sA,sB,sC]
     refine tka 8 87 rfl ?_
     simp only[sA,sB,sC]
     refine tka 9 88 rfl ?_
     simp only[sA,sB,sC]
     refine tka 10 89 rfl ?_
     simp only[sA,sB,sC]
     refine tka 11 90 rfl ?_
     simp only[sA,sB,sC]
     refine tka 12 91 rfl ?_
     simp only[sA,sB,sC]
     refine tka 13 92 rfl ?_
     simp only[sA,sB,sC]
     refine tka 14 93 rfl ?_
     simp only[sA,sB,sC]
     refine tka 15 94 rfl ?_
     simp only[sA,sB,sC]
     refine tka 16 95 rfl ?_
     simp only[sA,sB,sC]
     refine tka 17 96 rfl ?_
     refine tka 18 97 rfl ?_
     simp only[sA,sB,sC]
     refine wpAnyH_done (by kernel_rfl) ?_ _
     go_wp2_with fail
     go_meet
     exact⟨by simp,rfl⟩
   rename World=>wd
   obtain⟨rfl,hd⟩:=hcut
   subst hd
   go_wp2_with fail
   refine(ab4 (v:=ac8 2) (n:=2) (p:=-1) (Or.inr (Or.inl ⟨rfl,rfl⟩)) (ErrT.keep (za HT) ((za HB4).drew)) 2).mono ?_
   rintro e w3 ⟨rfl,hb3⟩
   go_wp2_with fail
   go_ret
   exact⟨rfl,(za HZA).same hk ((za HB4).trans (((Below.refl _ _).drew.trans hb3).mono (za HB4).size))⟩
end
end Go.Proofs.YtpnghfghdbijlaaGreatDoor
