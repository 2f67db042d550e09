/- A part. -/
import Derived.Test.YtpnghfghdbijlaaGreatDoorM26
open Go.Proofs.Tryz
namespace Go.Proofs.YtpnghfghdbijlaaGreatDoor
open Go.RowKit
set_option linter.unusedVariables false
set_option linter.unusedSimpArgs false
set_option maxRecDepth 100000
set_option maxHeartbeats 40000000
section
open Go.RowKit Go.Maps
theorem ahq {B k:Nat} {w:World} {zb:Nat} {m:ZM} {s:ZS} (h:ZAt B k w zb m s) (hk:k<60) (hT:ErrT w) {wt a b c bits:Int} (hwt:wt=2∨wt=3) :
  Calls prog 19 #[.pointer (some ⟨zb,0,none⟩),.agg #[.int .i64 wt,.int .i64 a,.int .i64 b,.int .i64 c,.int .u64 bits]] w fun e w'=>e=.returned (.bool true)∧ZNext B (k+1) zb w w' :=
 (colA B k w zb m s wt a b c bits).2 h hk hwt fun gw rs gr cr f wl hgw hinv=>hwt.elim
  (fun e=>(colB B k w zb m s wt a b c bits).2 h hk hT e (colC B k w zb m s wt a b c bits h hk) gw rs gr cr f wl hgw hinv)
  (fun e=>colB3 B k w zb m s wt a b c bits h hk hT e (colC B k w zb m s wt a b c bits h hk) gw rs gr cr f wl hgw hinv)
end
section
open Go.RowKit Go.Maps
theorem aql {B k:Nat} {w:World} {zb:Nat} {m:ZM} {s:ZS} (h:ZAt B k w zb m s) (hT:ErrT w) {wt a b c bits:Int} (h1:a<1) :
  Calls prog 17 #[.pointer (some ⟨zb,0,none⟩),.agg #[.int .i64 wt,.int .i64 a,.int .i64 b,.int .i64 c,.int .u64 bits]] w fun e w'=>e=.returned (.bool true)∧Below w.heap.size w w':=by
 have hbad:a<1∨4<a∨c<0∨1000<c:=by omega
 have g1:decide (a<1)=true:=by simpa using h1
 have c0:(w.alloc (.cells #[.int .i64 wt,.int .i64 a,.int .i64 b,.int .i64 c,.int .u64 bits] 42)).cell? ⟨zb,0,none⟩=some (.pointer (some ⟨m.hp,0,none⟩)):=aac (zd h.zr.blk 0) _
 have HBA:Hid (Below w.heap.size w (w.alloc (.cells #[.int .i64 wt,.int .i64 a,.int .i64 b,.int .i64 c,.int .u64 bits] 42))):=(Below.refl _ _).alloc (Nat.le_refl _) _
 have hSB:(w.alloc (.cells #[.int .i64 wt,.int .i64 a,.int .i64 b,.int .i64 c,.int .u64 bits] 42)).heap[w.heap.size]?=some (.cells #[.int .i64 wt,.int .i64 a,.int .i64 b,.int .i64 c,.int .u64 bits] 42 (0,0)):=aan _ _
 have c1:=zd hSB 1
 have c2:=zd hSB 2
 have c3:=zd hSB 3
 simp only[List.getElem?_toArray,List.getElem?_cons_succ,List.getElem?_cons_zero] at c1 c2 c3
 have hzl:=hlt h.zr.blk
 have HS:=zc hSB
 have HH:=zc (h.hg.keep (za HBA))
 have HT:=zc (hT.keep (za HBA))
 generalize hWA:w.alloc (.cells #[.int .i64 wt,.int .i64 a,.int .i64 b,.int .i64 c,.int .u64 bits] 42)=wa at *
 have HWA:=zc hWA
 have hwl:w.heap.size<wa.heap.size:=hlt hSB
 have hzl2:zb<wa.heap.size:=by omega
 clear h hT hSB
 go_enter func17,ntmps17
 go_wp2_with (rw[za HWA])
 have ent10:∀w:World,Sem.run prog (callFunc 7 #[.pointer (some ⟨m.hp,0,none⟩),.int .i64 a,.int .i64 b,.int .i64 c]) w=.ok (.enter 7 #[.pointer (some ⟨m.hp,0,none⟩),.int .i64 a,.int .i64 b,.int .i64 c]) w:=fun _=>by kernel_rfl
 refine wp_region_held_drew (S:=fun w'=>w'.cell? ⟨zb,0,none⟩=some (.pointer (some ⟨m.hp,0,none⟩))∧w'.cell? ⟨w.heap.size,1,none⟩=some (.int .i64 a)∧w'.cell? ⟨w.heap.size,2,none⟩=some (.int .i64 b)∧w'.cell? ⟨w.heap.size,3,none⟩=some (.int .i64 c)) (by kernel_rfl) ⟨c0,c1,c2,c3⟩ (fun hHeld=>?_)
 refine tka 0 10 rfl ?_
 refine tka 1 11 rfl ?_
 refine tka 2 12 rfl ?_
 refine tka 3 13 rfl ?_
 refine tka 4 14 rfl ?_
 refine tka 5 15 rfl ?_
 refine tka 6 16 rfl ?_
 refine tka 7 17 rfl ?_
 refine tka 8 18 rfl ?_
 refine tka 9 19 rfl ?_
 simp only[sA,sB,sC]
 refine wpAnyH_ready (rs:=[10]) (by kernel_rfl) (by simp) ?_
 refine AllReadyH.cons (o:={ dst:=some 20,op:=_,type:=_,pos:=_,after:=_,guard:=_ }) rfl (fun K hK=>?_) AllReadyH.nil
 refine aaq (by kernel_rfl) (by simp[Act.eval,ent10,go_sem]) ((af4 (w:=wa.drew) (hp:=m.hp) (tag:=b) (sz:=c) (kd:=a) hbad).mono ?_)
 rintro e w2 ⟨rfl,rfl⟩
 refine hK.out _ _ hHeld (fun hHeld10=>?_)
 clear hK K
 simp only[Act.put,sA,sB,sC]
 refine tka 11 9 rfl ?_
 refine tka 12 21 rfl ?_
 refine tka 13 22 rfl ?_
 refine tka 14 5 rfl ?_
 refine tka 15 6 rfl ?_
 simp only[sA,sB,sC]
 refine wpAnyH_done (by kernel_rfl) ?_ _
 clear hbad
 go_wp2_with fail
 refine(ab4 (v:=.iface 29 (.int .i64 1)) (n:=1) (p:=-1) (Or.inr (Or.inl ⟨rfl,rfl⟩)) (ErrT.keep (za HT) (Below.refl _ _).drew) 1).mono ?_
 rintro e w3 ⟨rfl,hb3⟩
 go_wp2_with fail
 go_ret
 exact⟨rfl,(za HBA).trans (((Below.refl _ _).drew.trans hb3).mono (za HBA).size)⟩
theorem aqm {B k:Nat} {w:World} {zb:Nat} {m:ZM} {s:ZS} (h:ZAt B k w zb m s) (hT:ErrT w) {wt a b c bits:Int} (h1:4<a) :
  Calls prog 17 #[.pointer (some ⟨zb,0,none⟩),.agg #[.int .i64 wt,.int .i64 a,.int .i64 b,.int .i64 c,.int .u64 bits]] w fun e w'=>e=.returned (.bool true)∧Below w.heap.size w w':=by
 have hbad:a<1∨4<a∨c<0∨1000<c:=by omega
 have g1:¬a<1:=by omega
 have g2:decide (4<a)=true:=by simpa using h1
 have c0:(w.alloc (.cells #[.int .i64 wt,.int .i64 a,.int .i64 b,.int .i64 c,.int .u64 bits] 42)).cell? ⟨zb,0,none⟩=some (.pointer (some ⟨m.hp,0,none⟩)):=aac (zd h.zr.blk 0) _
 have HBA:Hid (Below w.heap.size w (w.alloc (.cells #[.int .i64 wt,.int .i64 a,.int .i64 b,.int .i64 c,.int .u64 bits] 42))):=(Below.refl _ _).alloc (Nat.le_refl _) _
 have hSB:(w.alloc (.cells #[.int .i64 wt,.int .i64 a,.int .i64 b,.int .i64 c,.int .u64 bits] 42)).heap[w.heap.size]?=some (.cells #[.int .i64 wt,.int .i64 a,.int .i64 b,.int .i64 c,.int .u64 bits] 42 (0,0)):=aan _ _
 have c1:=zd hSB 1
 have c2:=zd hSB 2
 have c3:=zd hSB 3
 simp only[List.getElem?_toArray,List.getElem?_cons_succ,List.getElem?_cons_zero] at c1 c2 c3
 have hzl:=hlt h.zr.blk
 have HS:=zc hSB
 have HH:=zc (h.hg.keep (za HBA))
 have HT:=zc (hT.keep (za HBA))
 generalize hWA:w.alloc (.cells #[.int .i64 wt,.int .i64 a,.int .i64 b,.int .i64 c,.int .u64 bits] 42)=wa at *
 have HWA:=zc hWA
 have hwl:w.heap.size<wa.heap.size:=hlt hSB
 have hzl2:zb<wa.heap.size:=by omega
 clear h hT hSB
 go_enter func17,ntmps17
 go_wp2_with (rw[za HWA])
 have ent10:∀w:World,Sem.run prog (callFunc 7 #[.pointer (some ⟨m.hp,0,none⟩),.int .i64 a,.int .i64 b,.int .i64 c]) w=.ok (.enter 7 #[.pointer (some ⟨m.hp,0,none⟩),.int .i64 a,.int .i64 b,.int .i64 c]) w:=fun _=>by kernel_rfl
 refine wp_region_held_drew (S:=fun w'=>w'.cell? ⟨zb,0,none⟩=some (.pointer (some ⟨m.hp,0,none⟩))∧w'.cell? ⟨w.heap.size,1,none⟩=some (.int .i64 a)∧w'.cell? ⟨w.heap.size,2,none⟩=some (.int .i64 b)∧w'.cell? ⟨w.heap.size,3,none⟩=some (.int .i64 c)) (by kernel_rfl) ⟨c0,c1,c2,c3⟩ (fun hHeld=>?_)
 refine tka 0 10 rfl ?_
 refine tka 1 11 rfl ?_
 refine tka 2 12 rfl ?_
 refine tka 3 13 rfl ?_
 refine tka 4 14 rfl ?_
 refine tka 5 15 rfl ?_
 refine tka 6 16 rfl ?_
 refine tka 7 17 rfl ?_
 refine tka 8 18 rfl ?_
 refine tka 9 19 rfl ?_
 simp only[sA,sB,sC]
 refine wpAnyH_ready (rs:=[10]) (by kernel_rfl) (by simp) ?_
 refine AllReadyH.cons (o:={ dst:=some 20,op:=_,type:=_,pos:=_,after:=_,guard:=_ }) rfl (fun K hK=>?_) AllReadyH.nil
 refine aaq (by kernel_rfl) (by simp[Act.eval,ent10,go_sem]) ((af4 (w:=wa.drew) (hp:=m.hp) (tag:=b) (sz:=c) (kd:=a) hbad).mono ?_)
 rintro e w2 ⟨rfl,rfl⟩
 refine hK.out _ _ hHeld (fun hHeld10=>?_)
 clear hK K
 simp only[Act.put,sA,sB,sC]
 refine tka 11 9 rfl ?_
 refine tka 12 21 rfl ?_
 refine tka 13 22 rfl ?_
 refine tka 14 5 rfl ?_
 refine tka 15 6 rfl ?_
 simp only[sA,sB,sC]
 refine wpAnyH_done (by kernel_rfl) ?_ _
 clear hbad
 go_wp2_with fail
 refine(ab4 (v:=.iface 29 (.int .i64 1)) (n:=1) (p:=-1) (Or.inr (Or.inl ⟨rfl,rfl⟩)) (ErrT.keep (za HT) (Below.refl _ _).drew) 1).mono ?_
 rintro e w3 ⟨rfl,hb3⟩
 go_wp2_with fail
 go_ret
 exact⟨rfl,(za HBA).trans (((Below.refl _ _).drew.trans hb3).mono (za HBA).size)⟩
theorem aqn {B k:Nat} {w:World} {zb:Nat} {m:ZM} {s:ZS} (h:ZAt B k w zb m s) (hT:ErrT w) {wt a b c bits:Int} (h1:1≤a∧a≤4) (h2:c<0) :
  Calls prog 17 #[.pointer (some ⟨zb,0,none⟩),.agg #[.int .i64 wt,.int .i64 a,.int .i64 b,.int .i64 c,.int .u64 bits]] w fun e w'=>e=.returned (.bool true)∧Below w.heap.size w w':=by
 have hbad:a<1∨4<a∨c<0∨1000<c:=by omega
 have g1:¬a<1:=by omega
 have g2:¬4<a:=by omega
 have g3:decide (c<0)=true:=by simpa using h2
 have c0:(w.alloc (.cells #[.int .i64 wt,.int .i64 a,.int .i64 b,.int .i64 c,.int .u64 bits] 42)).cell? ⟨zb,0,none⟩=some (.pointer (some ⟨m.hp,0,none⟩)):=aac (zd h.zr.blk 0) _
 have HBA:Hid (Below w.heap.size w (w.alloc (.cells #[.int .i64 wt,.int .i64 a,.int .i64 b,.int .i64 c,.int .u64 bits] 42))):=(Below.refl _ _).alloc (Nat.le_refl _) _
 have hSB:(w.alloc (.cells #[.int .i64 wt,.int .i64 a,.int .i64 b,.int .i64 c,.int .u64 bits] 42)).heap[w.heap.size]?=some (.cells #[.int .i64 wt,.int .i64 a,.int .i64 b,.int .i64 c,.int .u64 bits] 42 (0,0)):=aan _ _
 have c1:=zd hSB 1
 have c2:=zd hSB 2
 have c3:=zd hSB 3
 simp only[List.getElem?_toArray,List.getElem?_cons_succ,List.getElem?_cons_zero] at c1 c2 c3
 have hzl:=hlt h.zr.blk
 have HS:=zc hSB
 have HH:=zc (h.hg.keep (za HBA))
 have HT:=zc (hT.keep (za HBA))
 generalize hWA:w.alloc (.cells #[.int .i64 wt,.int .i64 a,.int .i64 b,.int .i64 c,.int .u64 bits] 42)=wa at *
 have HWA:=zc hWA
 have hwl:w.heap.size<wa.heap.size:=hlt hSB
 have hzl2:zb<wa.heap.size:=by omega
 clear h hT hSB
 go_enter func17,ntmps17
 go_wp2_with (rw[za HWA])
 have ent10:∀w:World,Sem.run prog (callFunc 7 #[.pointer (some ⟨m.hp,0,none⟩),.int .i64 a,.int .i64 b,.int .i64 c]) w=.ok (.enter 7 #[.pointer (some ⟨m.hp,0,none⟩),.int .i64 a,.int .i64 b,.int .i64 c]) w:=fun _=>by kernel_rfl
 refine wp_region_held_drew (S:=fun w'=>w'.cell? ⟨zb,0,none⟩=some (.pointer (some ⟨m.hp,0,none⟩))∧w'.cell? ⟨w.heap.size,1,none⟩=some (.int .i64 a)∧w'.cell? ⟨w.heap.size,2,none⟩=some (.int .i64 b)∧w'.cell? ⟨w.heap.size,3,none⟩=some (.int .i64 c)) (by kernel_rfl) ⟨c0,c1,c2,c3⟩ (fun hHeld=>?_)
 refine tka 0 10 rfl ?_
 refine tka 1 11 rfl ?_
 refine tka 2 12 rfl ?_
 refine tka 3 13 rfl ?_
 refine tka 4 14 rfl ?_
 refine tka 5 15 rfl ?_
 refine tka 6 16 rfl ?_
 refine tka 7 17 rfl ?_
 refine tka 8 18 rfl ?_
 refine tka 9 19 rfl ?_
 simp only[sA,sB,sC]
 refine wpAnyH_ready (rs:=[10]) (by kernel_rfl) (by simp) ?_
 refine AllReadyH.cons (o:={ dst:=some 20,op:=_,type:=_,pos:=_,after:=_,guard:=_ }) rfl (fun K hK=>?_) AllReadyH.nil
 refine aaq (by kernel_rfl) (by simp[Act.eval,ent10,go_sem]) ((af4 (w:=wa.drew) (hp:=m.hp) (tag:=b) (sz:=c) (kd:=a) hbad).mono ?_)
 rintro e w2 ⟨rfl,rfl⟩
 refine hK.out _ _ hHeld (fun hHeld10=>?_)
 clear hK K
 simp only[Act.put,sA,sB,sC]
 refine tka 11 9 rfl ?_
 refine tka 12 21 rfl ?_
 refine tka 13 22 rfl ?_
 refine tka 14 5 rfl ?_
 refine tka 15 6 rfl ?_
 simp only[sA,sB,sC]
 refine wpAnyH_done (by kernel_rfl) ?_ _
 clear hbad
 go_wp2_with fail
 refine(ab4 (v:=.iface 29 (.int .i64 1)) (n:=1) (p:=-1) (Or.inr (Or.inl ⟨rfl,rfl⟩)) (ErrT.keep (za HT) (Below.refl _ _).drew) 1).mono ?_
 rintro e w3 ⟨rfl,hb3⟩
 go_wp2_with fail
 go_ret
 exact⟨rfl,(za HBA).trans (((Below.refl _ _).drew.trans hb3).mono (za HBA).size)⟩
theorem aqo {B k:Nat} {w:World} {zb:Nat} {m:ZM} {s:ZS} (h:ZAt B k w zb m s) (hT:ErrT w) {wt a b c bits:Int} (h1:1≤a∧a≤4) (h2:1000<c) :
  Calls prog 17 #[.pointer (some ⟨zb,0,none⟩),.agg #[.int .i64 wt,.int .i64 a,.int .i64 b,.int .i64 c,.int .u64 bits]] w fun e w'=>e=.returned (.bool true)∧Below w.heap.size w w':=by
 have hbad:a<1∨4<a∨c<0∨1000<c:=by omega
 have g1:¬a<1:=by omega
 have g2:¬4<a:=by omega
 have g3:¬c<0:=by omega
 have g4:decide (1000<c)=true:=by simpa using h2
 have c0:(w.alloc (.cells #[.int .i64 wt,.int .i64 a,.int .i64 b,.int .i64 c,.int .u64 bits] 42)).cell? ⟨zb,0,none⟩=some (.pointer (some ⟨m.hp,0,none⟩)):=aac (zd h.zr.blk 0) _
 have HBA:Hid (Below w.heap.size w (w.alloc (.cells #[.int .i64 wt,.int .i64 a,.int .i64 b,.int .i64 c,.int .u64 bits] 42))):=(Below.refl _ _).alloc (Nat.le_refl _) _
 have hSB:(w.alloc (.cells #[.int .i64 wt,.int .i64 a,.int .i64 b,.int .i64 c,.int .u64 bits] 42)).heap[w.heap.size]?=some (.cells #[.int .i64 wt,.int .i64 a,.int .i64 b,.int .i64 c,.int .u64 bits] 42 (0,0)):=aan _ _
 have c1:=zd hSB 1
 have c2:=zd hSB 2
 have c3:=zd hSB 3
 simp only[List.getElem?_toArray,List.getElem?_cons_succ,List.getElem?_cons_zero] at c1 c2 c3
 have hzl:=hlt h.zr.blk
 have HS:=zc hSB
 have HH:=zc (h.hg.keep (za HBA))
 have HT:=zc (hT.keep (za HBA))
 generalize hWA:w.alloc (.cells #[.int .i64 wt,.int .i64 a,.int .i64 b,.int .i64 c,.int .u64 bits] 42)=wa at *
 have HWA:=zc hWA
 have hwl:w.heap.size<wa.heap.size:=hlt hSB
 have hzl2:zb<wa.heap.size:=by omega
 clear h hT hSB
 go_enter func17,ntmps17
 go_wp2_with (rw[za HWA])
 have ent10:∀w:World,Sem.run prog (callFunc 7 #[.pointer (some ⟨m.hp,0,none⟩),.int .i64 a,.int .i64 b,.int .i64 c]) w=.ok (.enter 7 #[.pointer (some ⟨m.hp,0,none⟩),.int .i64 a,.int .i64 b,.int .i64 c]) w:=fun _=>by kernel_rfl
 refine wp_region_held_drew (S:=fun w'=>w'.cell? ⟨zb,0,none⟩=some (.pointer (some ⟨m.hp,0,none⟩))∧w'.cell? ⟨w.heap.size,1,none⟩=some (.int .i64 a)∧w'.cell? ⟨w.heap.size,2,none⟩=some (.int .i64 b)∧w'.cell? ⟨w.heap.size,3,none⟩=some (.int .i64 c)) (by kernel_rfl) ⟨c0,c1,c2,c3⟩ (fun hHeld=>?_)
 refine tka 0 10 rfl ?_
 refine tka 1 11 rfl ?_
 refine tka 2 12 rfl ?_
 refine tka 3 13 rfl ?_
 refine tka 4 14 rfl ?_
 refine tka 5 15 rfl ?_
 refine tka 6 16 rfl ?_
 refine tka 7 17 rfl ?_
 refine tka 8 18 rfl ?_
 refine tka 9 19 rfl ?_
 simp only[sA,sB,sC]
 refine wpAnyH_ready (rs:=[10]) (by kernel_rfl) (by simp) ?_
 refine AllReadyH.cons (o:={ dst:=some 20,op:=_,type:=_,pos:=_,after:=_,guard:=_ }) rfl (fun K hK=>?_) AllReadyH.nil
 refine aaq (by kernel_rfl) (by simp[Act.eval,ent10,go_sem]) ((af4 (w:=wa.drew) (hp:=m.hp) (tag:=b) (sz:=c) (kd:=a) hbad).mono ?_)
 rintro e w2 ⟨rfl,rfl⟩
 refine hK.out _ _ hHeld (fun hHeld10=>?_)
 clear hK K
 simp only[Act.put,sA,sB,sC]
 refine tka 11 9 rfl ?_
 refine tka 12 21 rfl ?_
 refine tka 13 22 rfl ?_
 refine tka 14 5 rfl ?_
 refine tka 15 6 rfl ?_
 simp only[sA,sB,sC]
 refine wpAnyH_done (by kernel_rfl) ?_ _
 clear hbad
 go_wp2_with fail
 refine(ab4 (v:=.iface 29 (.int .i64 1)) (n:=1) (p:=-1) (Or.inr (Or.inl ⟨rfl,rfl⟩)) (ErrT.keep (za HT) (Below.refl _ _).drew) 1).mono ?_
 rintro e w3 ⟨rfl,hb3⟩
 go_wp2_with fail
 go_ret
 exact⟨rfl,(za HBA).trans (((Below.refl _ _).drew.trans hb3).mono (za HBA).size)⟩
theorem anm {B k:Nat} {w:World} {zb:Nat} {m:ZM} {s:ZS} (h:ZAt B k w zb m s) (hT:ErrT w) {wt a b bits:Int} {sz:Nat} (ha:1≤a∧a≤4) (hsz:sz≤1000) (hroom:s.P.ry<(s.P.Y.length+(zg s.P.Y).length:Int)+1+sz) :
  Calls prog 17 #[.pointer (some ⟨zb,0,none⟩),.agg #[.int .i64 wt,.int .i64 a,.int .i64 b,.int .i64 (sz:Int),.int .u64 bits]] w fun e w'=>e=.returned (.bool true)∧Below w.heap.size w w':=by
 obtain⟨tp,htp⟩:∃tp:Nat,s.P.Y.length+(zg s.P.Y).length=tp:=⟨_,rfl⟩
 have htp2:tp≤100000:=by have h1:=h.fw.k60;have h2:=h.fw.c;have h3:=h.fw.f;omega
 have w1:IntKind.i64.wrap ((tp:Int)+1)=(tp:Int)+1:=aav (by omega) (by omega)
 have w2:IntKind.i64.wrap ((tp:Int)+1+(sz:Int))=(tp:Int)+1+(sz:Int):=aav (by omega) (by omega)
 have n3:s.P.ry<(tp:Int)+1+(sz:Int):=by omega
 have m1:¬a<1:=by omega
 have m2':¬4<a:=by omega
 have n1:¬(sz:Int)<0:=by omega
 have n2:¬(1000:Int)<(sz:Int):=by omega
 have HRM:=zc hroom
 have HA1:=zc ha
 have d6:=zd h.zr.blk 6
 have d6:w.cell? ⟨zb,6,none⟩=some (.int .i64 s.P.ry):=d6
 have d7:w.cell? ⟨zb,7,none⟩=some (.int .i64 (tp:Int)):=by rw[←htp];exact zd h.zr.blk 7
 have e6:=aac d6 (.cells #[.int .i64 wt,.int .i64 a,.int .i64 b,.int .i64 (sz:Int),.int .u64 bits] 42)
 have e7:=aac d7 (.cells #[.int .i64 wt,.int .i64 a,.int .i64 b,.int .i64 (sz:Int),.int .u64 bits] 42)
 clear hroom ha htp d6 d7
 have c0:(w.alloc (.cells #[.int .i64 wt,.int .i64 a,.int .i64 b,.int .i64 (sz:Int),.int .u64 bits] 42)).cell? ⟨zb,0,none⟩=some (.pointer (some ⟨m.hp,0,none⟩)):=aac (zd h.zr.blk 0) _
 have HBA:Hid (Below w.heap.size w (w.alloc (.cells #[.int .i64 wt,.int .i64 a,.int .i64 b,.int .i64 (sz:Int),.int .u64 bits] 42))):=(Below.refl _ _).alloc (Nat.le_refl _) _
 have hSB:(w.alloc (.cells #[.int .i64 wt,.int .i64 a,.int .i64 b,.int .i64 (sz:Int),.int .u64 bits] 42)).heap[w.heap.size]?=some (.cells #[.int .i64 wt,.int .i64 a,.int .i64 b,.int .i64 (sz:Int),.int .u64 bits] 42 (0,0)):=aan _ _
 have c1:=zd hSB 1
 have c2:=zd hSB 2
 have c3:=zd hSB 3
 simp only[List.getElem?_toArray,List.getElem?_cons_succ,List.getElem?_cons_zero] at c1 c2 c3
 have hzl:=hlt h.zr.blk
 have HS:=zc hSB
 have HH:=zc (h.hg.keep (za HBA))
 have HT:=zc (hT.keep (za HBA))
 generalize hWA:w.alloc (.cells #[.int .i64 wt,.int .i64 a,.int .i64 b,.int .i64 (sz:Int),.int .u64 bits] 42)=wa at *
 have HWA:=zc hWA
 have hwl:w.heap.size<wa.heap.size:=hlt hSB
 have hzl2:zb<wa.heap.size:=by omega
 clear h hT hSB
 go_enter func17,ntmps17
 go_wp2_with (rw[za HWA])
 have ent10:∀w:World,Sem.run prog (callFunc 7 #[.pointer (some ⟨m.hp,0,none⟩),.int .i64 a,.int .i64 b,.int .i64 (sz:Int)]) w=.ok (.enter 7 #[.pointer (some ⟨m.hp,0,none⟩),.int .i64 a,.int .i64 b,.int .i64 (sz:Int)]) w:=fun _=>by kernel_rfl
 refine wp_region_held_drew (S:=fun w'=>w'.cell? ⟨zb,0,none⟩=some (.pointer (some ⟨m.hp,0,none⟩))∧w'.cell? ⟨w.heap.size,1,none⟩=some (.int .i64 a)∧w'.cell? ⟨w.heap.size,2,none⟩=some (.int .i64 b)∧w'.cell? ⟨w.heap.size,3,none⟩=some (.int .i64 (sz:Int))∧w'.cell? ⟨zb,6,none⟩=some (.int .i64 s.P.ry)∧w'.cell? ⟨zb,7,none⟩=some (.int .i64 (tp:Int))) (by kernel_rfl) ⟨c0,c1,c2,c3,e6,e7⟩ (fun hHeld=>?_)
 refine tka 0 10 rfl ?_
 refine tka 1 11 rfl ?_
 refine tka 2 12 rfl ?_
 refine tka 3 13 rfl ?_
 refine tka 4 14 rfl ?_
 refine tka 5 15 rfl ?_
 refine tka 6 16 rfl ?_
 refine tka 7 17 rfl ?_
 refine tka 8 18 rfl ?_
 refine tka 9 19 rfl ?_
 simp only[sA,sB,sC]
 refine wpAnyH_ready (rs:=[10]) (by kernel_rfl) (by simp) ?_
 refine AllReadyH.cons (o:={ dst:=some 20,op:=_,type:=_,pos:=_,after:=_,guard:=_ }) rfl (fun K hK=>?_) AllReadyH.nil
 refine aaq (by kernel_rfl) (by simp[Act.eval,ent10,go_sem]) ((ai4 (w:=wa.drew) ((za HH).keep (Below.refl _ _).drew) (tag:=b) (za HA1).1 (za HA1).2 hsz (za HRM)).mono ?_)
 rintro e w2 ⟨rfl,hb2⟩
 refine hK.out _ _ ⟨zj hb2 hHeld.1 (ze hHeld.1),zj hb2 hHeld.2.1 (ze hHeld.2.1),zj hb2 hHeld.2.2.1 (ze hHeld.2.2.1),zj hb2 hHeld.2.2.2.1 (ze hHeld.2.2.2.1),zj hb2 hHeld.2.2.2.2.1 (ze hHeld.2.2.2.2.1),zj hb2 hHeld.2.2.2.2.2 (ze hHeld.2.2.2.2.2)⟩ (fun hHeld10=>?_)
 clear hK K
 simp only[Act.put,sA,sB,sC]
 refine tka 11 9 rfl ?_
 refine tka 12 21 rfl ?_
 refine tka 13 22 rfl ?_
 refine tka 14 5 rfl ?_
 refine tka 15 6 rfl ?_
 simp only[sA,sB,sC]
 refine wpAnyH_done (by kernel_rfl) ?_ _
 have HB2:=zc ((za HBA).trans (((Below.refl _ _).drew.trans hb2).mono (za HBA).size))
 have HT2:=zc ((za HT).keep ((Below.refl _ _).drew.trans hb2))
 obtain⟨k0,k1,k2,k3,k6,k7⟩:=hHeld10
 clear hb2 hHeld c0 c1 c2 c3 e6 e7
 go_wp2_with fail
 refine wp_region_held_drew (S:=fun w'=>w'.cell? ⟨zb,6,none⟩=some (.int .i64 s.P.ry)∧w'.cell? ⟨zb,7,none⟩=some (.int .i64 (tp:Int))∧w'.cell? ⟨w.heap.size,3,none⟩=some (.int .i64 (sz:Int))) (by kernel_rfl) ⟨k6,k7,k3⟩ (fun hHeld=>?_)
 refine tka 0 49 rfl ?_
 refine tka 1 50 rfl ?_
 refine tka 2 51 rfl ?_
 refine tka 3 52 rfl ?_
 refine tka 4 53 rfl ?_
 refine tka 5 54 rfl ?_
 refine tka 6 55 rfl ?_
 refine tka 7 56 rfl ?_
 refine tka 8 57 rfl ?_
 refine tka 9 58 rfl ?_
 simp only[sA,sB,sC]
 refine tka 10 59 rfl ?_
 refine tka 11 60 rfl ?_
 refine tka 12 61 rfl ?_
 refine tka 13 48 rfl ?_
 simp only[sA,sB,sC]
 refine wpAnyH_done (by kernel_rfl) ?_ _
 go_wp2_with fail
 refine(ab4 (v:=.iface 29 (.int .i64 12)) (n:=12) (p:=-1) (Or.inr (Or.inl ⟨rfl,rfl⟩)) (ErrT.keep (za HT2) (Below.refl _ _).drew) 12).mono ?_
 rintro e w3 ⟨rfl,hb3⟩
 go_wp2_with fail
 go_ret
 exact⟨rfl,(za HB2).trans (((Below.refl _ _).drew.trans hb3).mono (za HB2).size)⟩
end
section
open Go.RowKit Go.Maps
def makesP (B k:Nat) (w:World) (zb:Nat) (m:ZM) (s:ZS) (wt a b bits:Int) (sz:Nat):{ G:Nat→World→Prop // ZAt B k w zb m s→k<60→(1≤a∧a≤4)→sz≤1000→((s.P.Y.length+(zg s.P.Y).length:Int)+1+sz≤s.P.ry)→(∀(tp:Nat) (m2:ZM) (P2:PHp) (D2:DataW Unit) (id:Int) (tb:Nat) (vi:Value) (wg:World),s.P.Y.length+(zg s.P.Y).length=tp→(Zh B w wg zb m2 P2 D2 { aau s.P with top:=(tp:Int)+(1+(sz:Int)) } s.T s.wh s.here s.known∧MkT B wg zb tb m2 vi ⟨a,b,id,false,List.replicate sz 0⟩)→(∃wc,Mk1 B w wc zb w.heap.size m2 s.P P2 s.D D2 (aau s.P) s.T s.wh s.here s.known wt a b bits sz id)→(m2.n≤m.n+1∧m2.hp=m.hp)→G tb wg)→Calls prog 17 #[.pointer (some ⟨zb,0,none⟩),.agg #[.int .i64 wt,.int .i64 a,.int .i64 b,.int .i64 (sz:Int),.int .u64 bits]] w fun e w'=>e=.returned (.bool true)∧ZNext B (k+1) zb w w' }:=by
 apply Subtype.mk
 case property =>
  intro h hk ha hsz hroom hround
  have HRR:=zc hround
  clear hround
  have c0:(w.alloc (.cells #[.int .i64 wt,.int .i64 a,.int .i64 b,.int .i64 (sz:Int),.int .u64 bits] 42)).cell? ⟨zb,0,none⟩=some (.pointer (some ⟨m.hp,0,none⟩)):=aac (zd h.zr.blk 0) _
  have HBA:Hid (Below w.heap.size w (w.alloc (.cells #[.int .i64 wt,.int .i64 a,.int .i64 b,.int .i64 (sz:Int),.int .u64 bits] 42))):=(Below.refl _ _).alloc (Nat.le_refl _) _
  have hSB:(w.alloc (.cells #[.int .i64 wt,.int .i64 a,.int .i64 b,.int .i64 (sz:Int),.int .u64 bits] 42)).heap[w.heap.size]?=some (stB wt a b sz bits):=aan _ _
  have c1:=zd hSB 1
  have c2:=zd hSB 2
  have c3:=zd hSB 3
  simp only[List.getElem?_toArray,List.getElem?_cons_succ,List.getElem?_cons_zero] at c1 c2 c3
  have hzl:=hlt h.zr.blk
  have HS:=zc hSB
  have HZA:=zc h
  have HH:=zc (h.hg.keep (za HBA))
  have HOZ:=zc (h.zr.out h.hg (Or.inl rfl))
  have HOS:=zc (acq (h.hg.keep (za HBA)) hSB (by decide) (by decide) (fun e=>absurd e (by decide)) (fun e=>absurd e (by decide)) (fun e=>absurd e (by decide)))
  have HHB:=zc h.hg.hB
  have HL0:Hid (0≤s.P.last∧s.P.last≤1000∧idC s.T≤60):=by
   have h1:=h.zi.last
   have h2:idC s.T≤s.T.length:=by unfold idC;exact List.length_filter_le _ _
   have h3:=h.fw.t
   exact⟨by omega,by omega,by omega⟩
  have HFW:=zc h.fw
  have HA:Hid ((1:Int)≤a∧(a:Int)≤4):=by show (1:Int)≤a∧(a:Int)≤4;omega
  have m1:¬a<1:=by omega
  have m2':¬4<a:=by omega
  have n1:¬(sz:Int)<0:=by omega
  have n2:¬(1000:Int)<(sz:Int):=by omega
  clear ha
  obtain⟨tp,htp⟩:∃tp:Nat,s.P.Y.length+(zg s.P.Y).length=tp:=⟨_,rfl⟩
  have htp2:tp≤65536:=by have:=h.fw.rm;omega
  have w1:IntKind.i64.wrap ((tp:Int)+1)=(tp:Int)+1:=aav (by omega) (by omega)
  have w2:IntKind.i64.wrap ((tp:Int)+1+(sz:Int))=(tp:Int)+1+(sz:Int):=aav (by omega) (by omega)
  have w3:IntKind.i64.wrap (1+(sz:Int))=1+(sz:Int):=aav (by omega) (by omega)
  have w4:IntKind.i64.wrap ((tp:Int)+(1+(sz:Int)))=(tp:Int)+(1+(sz:Int)):=aav (by omega) (by omega)
  have n3:¬s.P.ry<(tp:Int)+1+(sz:Int):=by omega
  have HRM:=zc hroom
  have HTP:=zc htp
  have hmk:=run_make_row' (P:=prog) 49 3 (.int .i64 0) 8 underlying49 aei rfl .i64 .i64 sz (by omega) (by omega)
  generalize hWA:w.alloc (.cells #[.int .i64 wt,.int .i64 a,.int .i64 b,.int .i64 (sz:Int),.int .u64 bits] 42)=wa at *
  have HWA:=zc hWA
  have hq:=aco
  clear h hSB hWA hroom htp
  go_enter func17,ntmps17
  go_wp2_with (rw[za HWA])
  go_cut [5,6] (fun p q wc=>p=.int .i64 (s.P.fy+2*s.P.Y.length)∧q=.nilIface∧Hid (∃m2 P2 D2 id,Mk1 B w wc zb w.heap.size m2 s.P P2 s.D D2 (aau s.P) s.T s.wh s.here s.known wt a b bits sz id∧(m2.n≤m.n+1∧m2.hp=m.hp)))
  case first =>
   have ent10:∀w:World,Sem.run prog (callFunc 7 #[.pointer (some ⟨m.hp,0,none⟩),.int .i64 a,.int .i64 b,.int .i64 (sz:Int)]) w=.ok (.enter 7 #[.pointer (some ⟨m.hp,0,none⟩),.int .i64 a,.int .i64 b,.int .i64 (sz:Int)]) w:=fun _=>by kernel_rfl
   refine wp_region_held_drew (S:=fun w'=>w'.cell? ⟨zb,0,none⟩=some (.pointer (some ⟨m.hp,0,none⟩))∧w'.cell? ⟨w.heap.size,1,none⟩=some (.int .i64 a)∧w'.cell? ⟨w.heap.size,2,none⟩=some (.int .i64 b)∧w'.cell? ⟨w.heap.size,3,none⟩=some (.int .i64 (sz:Int))) (by kernel_rfl) ⟨c0,c1,c2,c3⟩ (fun hHeld=>?_)
   refine tka 0 10 rfl ?_
   refine tka 1 11 rfl ?_
   refine tka 2 12 rfl ?_
   refine tka 3 13 rfl ?_
   refine tka 4 14 rfl ?_
   refine tka 5 15 rfl ?_
   refine tka 6 16 rfl ?_
   refine tka 7 17 rfl ?_
   refine tka 8 18 rfl ?_
   refine tka 9 19 rfl ?_
   simp only[sA,sB,sC]
   refine wpAnyH_ready (rs:=[10]) (by kernel_rfl) (by simp) ?_
   refine AllReadyH.cons (o:={ dst:=some 20,op:=_,type:=_,pos:=_,after:=_,guard:=_ }) rfl (fun K hK=>?_) AllReadyH.nil
   refine aaq (by kernel_rfl) (by simp[Act.eval,ent10,go_sem]) ((ald (w:=wa.drew) (m:=m) (kd:=a) ((za HH).keep (Below.refl _ _).drew) (za HFW) (za HL0).1 (za HL0).2.1 (tag:=b) (za HA) hsz (za HRM)).mono ?_)
   rintro e w2 ⟨rfl,hz⟩
   have HZ:=zc hz
   clear hz
   refine hK.out _ _ ⟨(za HZ).cell c0 (za HOZ),(za HZ).cell c1 (za HOS),(za HZ).cell c2 (za HOS),(za HZ).cell c3 (za HOS)⟩ (fun hHeld10=>?_)
   clear hK K
   simp only[Act.put,sA,sB,sC]
   refine tka 11 9 rfl ?_
   refine tka 12 21 rfl ?_
   refine tka 13 22 rfl ?_
   refine tka 14 5 rfl ?_
   refine tka 15 6 rfl ?_
   simp only[sA,sB,sC]
   refine wpAnyH_done (by kernel_rfl) ?_ _
   go_wp2_with fail
   go_meet
   exact⟨rfl,rfl,Mk1.start (za HZA) (Below.drew (za HBA)) (za HZ) (za HS) (za HOS) (za HHB)⟩
  obtain⟨rfl,rfl,hM⟩:=hcut
  obtain⟨m2,P2,D2,id,hM,hN2⟩:=za hM
  have HM:=zc hM
  have HN2:=zc hN2
  have d1:=zd hM.st 1
  have d2:=zd hM.st 2
  have d3:=zd hM.st 3
  simp only[List.getElem?_toArray,List.getElem?_cons_succ,List.getElem?_cons_zero] at d1 d2 d3
  have d6:wc.cell? ⟨zb,6,none⟩=some (.int .i64 s.P.ry):=zd hM.zr.blk 6
  have d7:wc.cell? ⟨zb,7,none⟩=some (.int .i64 (tp:Int)):=by rw[←za HTP];exact zd hM.zr.blk 7
  clear hM hN2 c0 c1 c2 c3
  go_wp2_with fail
  go_cut [48] (fun p wd=>p=.bool false∧wd=wc.drew)
  case first =>
   refine wp_region_held_drew (S:=fun w'=>w'.cell? ⟨zb,6,none⟩=some (.int .i64 s.P.ry)∧w'.cell? ⟨zb,7,none⟩=some (.int .i64 (tp:Int))∧w'.cell? ⟨w.heap.size,3,none⟩=some (.int .i64 (sz:Int))) (by kernel_rfl) ⟨d6,d7,d3⟩ (fun hHeld=>?_)
   refine tka 0 49 rfl ?_
   refine tka 1 50 rfl ?_
   refine tka 2 51 rfl ?_
   refine tka 3 52 rfl ?_
   refine tka 4 53 rfl ?_
   refine tka 5 54 rfl ?_
   refine tka 6 55 rfl ?_
   refine tka 7 56 rfl ?_
   refine tka 8 57 rfl ?_
   refine tka 9 58 rfl ?_
   simp only[sA,sB,sC]
   refine tka 10 59 rfl ?_
   refine tka 11 60 rfl ?_
   refine tka 12 61 rfl ?_
   refine tka 13 48 rfl ?_
   simp only[sA,sB,sC]
   refine wpAnyH_done (by kernel_rfl) ?_ _
   go_wp2_with fail
   go_meet
   exact⟨by simp[n3],rfl⟩
  rename World=>wd
  obtain⟨rfl,rfl⟩:=hcut
  go_wp2_with fail
  go_cut [7] (fun p we=>p=.pointer (some ⟨wc.heap.size+1,0,none⟩)∧Hid (Mk1 B w we zb w.heap.size m2 s.P P2 s.D D2 (aau s.P) s.T s.wh s.here s.known wt a b bits sz id∧MkT B we zb (wc.heap.size+1) m2 (.slice (some ⟨wc.heap.size,0,none⟩) sz sz) ⟨a,b,0,false,List.replicate sz 0⟩))
  case first =>
   refine wp_region_held_drew (S:=fun w'=>w'.cell? ⟨w.heap.size,1,none⟩=some (.int .i64 a)∧w'.cell? ⟨w.heap.size,2,none⟩=some (.int .i64 b)∧w'.cell? ⟨w.heap.size,3,none⟩=some (.int .i64 (sz:Int))) (by kernel_rfl) ⟨d1,d2,d3⟩ (fun hHeld=>?_)
   refine tka 0 71 rfl ?_
   refine tka 1 72 rfl ?_
   refine tka 2 73 rfl ?_
   refine tka 3 74 rfl ?_
   refine tka 4 75 rfl ?_
   refine tka 5 76 rfl ?_
   simp only[sA,sB,sC]
   refine wpAnyH_ready (rs:=[6]) (by kernel_rfl) (by simp) ?_
   refine AllReadyH.cons (o:={ dst:=some 77,op:=_,type:=_,pos:=_,after:=_,guard:=_ }) rfl (fun K hK=>?_) AllReadyH.nil
   go_simp
   refine hK.out _ _ ⟨aac hHeld.1 _,aac hHeld.2.1 _,aac hHeld.2.2 _⟩ (fun hHeld6=>?_)
   clear hK K
   try simp only[Act.put,sA,sB,sC]
   refine tka 7 78 rfl ?_
   simp only[sA,sB,sC]
   refine wpAnyH_ready (rs:=[8]) (by kernel_rfl) (by simp) ?_
   refine AllReadyH.cons (o:={ dst:=some 79,op:=_,type:=_,pos:=_,after:=_,guard:=_ }) rfl (fun K hK=>?_) AllReadyH.nil
   go_simp
   refine hK.out _ _ ⟨aac hHeld6.1 _,aac hHeld6.2.1 _,aac hHeld6.2.2 _⟩ (fun hHeld8=>?_)
   clear hK K
   try simp only[Act.put,sA,sB,sC]
   refine tka 9 7 rfl ?_
   simp only[sA,sB,sC]
   refine wpAnyH_done (by kernel_rfl) ?_ _
   go_wp2_with fail
   go_meet
   have hb1:Below wc.heap.size wc wc.drew.drew:=(Below.refl _ _).drew.drew
   refine⟨rfl,((za HM).keep hb1).keep (((Below.refl _ _).alloc (Nat.le_refl _) _).alloc (by simp) _),?_⟩
   exact((za HM).keep hb1).made (by rw[aku]) hsz
  rename World=>we
  obtain⟨rfl,hM2⟩:=hcut
  obtain⟨hM,hK⟩:=za hM2
  have HM1:=zc hM
  have HK1:=zc hK
  have hTl:s.T.length≤60:=by have:=(za HFW).t;have:=(za HFW).k60;omega
  have hWl:s.wh.length≤60:=by have:=(za HZA).zi.lw;omega
  have hHl:s.here.length≤60:=by have:=(za HZA).zi.rep.len;omega
  have hKl:s.known.length≤60:=by have:=(za HZA).zi.lk;omega
  have f1:we.cell? ⟨w.heap.size,1,none⟩=some (.int .i64 a):=zd hM.st 1
  generalize hTB:wc.heap.size+1=tb at *
  generalize hVI:Value.slice (some ⟨wc.heap.size,0,none⟩) sz sz=vi at *
  have k2:we.cell? ⟨tb,2,none⟩=some (.int .i64 0):=zd hK.bk 2
  have kf:we.frozen? ⟨tb,2,none⟩=false:=zt hK.bk 2
  clear hTB hVI hM hK hM2 d1 d2 d3 d6 d7 hmk
  go_upto_if 82 with fail
  go_cut [8] (fun iz wx=>Hid (Mk1 B w wx zb w.heap.size m2 s.P P2 s.D D2 (aau s.P) s.T s.wh s.here s.known wt a b bits sz id∧MkT B wx zb tb m2 vi ⟨a,b,id,false,List.replicate sz 0⟩))
  case first =>
   by_cases h4:a=4
   ·have g4:(a !=4)=false:=by rw[bne_eq_false_iff_eq];exact h4
    have HI:Hid (0=id):=by
     rcases(za HM1).pd with q | q
     ·exact q.1.symm
     ·exact absurd h4 q.2.1
    clear h4
    go_wp2_with fail
    go_meet
    have e:=za HI
    subst e
    exact⟨za HM1,za HK1⟩
   have n4:¬a=4:=h4
   have g4:(a !=4)=true:=by rw[bne_iff_ne];exact h4
   have HN4:=zc n4
   clear h4 n4
   obtain⟨hM,hK⟩:=(za HM1).setId (za HK1) 1
   have HM2:=zc hM
   have HK2:=zc hK
   clear hM hK
   go_wp2_with fail
   go_loopg [8] s.T.length (fun gg iv wx=>∃j:Nat,j≤s.T.length∧gg=s.T.length-j∧iv=.int .i64 j∧Hid (Mk1 B w wx zb w.heap.size m2 s.P P2 s.D D2 (aau s.P) s.T s.wh s.here s.known wt a b bits sz id∧MkT B wx zb tb m2 vi ⟨a,b,1+(idC (s.T.take j):Int),false,List.replicate sz 0⟩))
   case atStart=>exact⟨0,Nat.zero_le _,by omega,rfl,za HM2,za HK2⟩
   case round =>
    obtain⟨j,hj,rfl,rfl,hMK⟩:=hrel
    obtain⟨hM,hK⟩:=za hMK
    have HM3:=zc hM
    have HK3:=zc hK
    obtain⟨gt,ct,hvt⟩:=aaa hM.zr.th
    have r1:wr.cell? ⟨zb,1,none⟩=some (.slice gt s.T.length ct):=by rw[←hvt];exact zd hM.zr.blk 1
    have HVT:=zc hvt
    clear hvt
    by_cases hlt:j<s.T.length
    ·have hlt2:(j:Int)<(s.T.length:Int):=by omega
     obtain⟨t,ht⟩:∃t,s.T[j]?=some t:=⟨_,List.getElem?_eq_getElem hlt⟩
     obtain⟨tj,vj,hb1,hb2,hb3,hb4⟩:=hM.zr.thing ht
     obtain⟨g,cap,hv2,hcap,hgc,_⟩:=aa1 hM.zr.th (j:=j) (by omega)
     have hgc2:wr.cell? ⟨g,j,none⟩=some (.pointer (some ⟨tj,0,none⟩)):=by rw[hgc,List.getElem?_map,hb1];rfl
     obtain⟨rfl,rfl⟩:gt=some ⟨g,0,none⟩∧ct=cap:=by
      have:=(za HVT).symm.trans hv2
      injection this with e1 _ e3
      exact⟨e1,e3⟩
     have hid:wr.cell? ⟨tj,2,none⟩=some (.int .i64 t.id):=zd hb3 2
     have k2:wr.cell? ⟨tb,2,none⟩=some (.int .i64 (1+(idC (s.T.take j):Int))):=zd hK.bk 2
     have kf:wr.frozen? ⟨tb,2,none⟩=false:=zt hK.bk 2
     have hcn:idC (s.T.take j)≤60:=by
      have h2:idC (s.T.take j)≤(s.T.take j).length:=by unfold idC;exact List.length_filter_le _ _
      rw[List.length_take] at h2
      omega
     have HST:Hid (idC (s.T.take (j+1))=idC (s.T.take j)+if 0<t.id then 1 else 0):=by
      show idC (s.T.take (j+1))=_
      rw[List.take_add_one,ht]
      exact agz _ _
     generalize hcc:idC (s.T.take j)=cc at *
     clear hM hK hMK hv2 hgc hb1 hb2 hb3 hb4 hcc ht
     by_cases hp:0<t.id
     ·obtain⟨hM,hK⟩:=(za HM3).setId (za HK3) (1+(cc:Int)+1)
      have HM4:=zc hM
      have HK4:=zc hK
      clear hM hK
      go_wp2_with fail
      go_roundg (s.T.length-(j+1))
      case measure=>omega
      case rel =>
       refine⟨j+1,by omega,rfl,by go_num,?_⟩
       have e:(1:Int)+((cc+1:Nat):Int)=1+(cc:Int)+1:=by omega
       rw[za HST,if_pos hp,e]
       exact⟨za HM4,za HK4⟩
     ·have hp2:decide (0<t.id)=false:=by simpa using hp
      go_wp2_with fail
      go_roundg (s.T.length-(j+1))
      case measure=>omega
      case rel =>
       refine⟨j+1,by omega,rfl,by go_num,?_⟩
       rw[za HST,if_neg (by omega)]
       exact⟨za HM3,za HK3⟩
    ·obtain rfl:j=s.T.length:=by omega
     have hlt2:decide ((s.T.length:Int)<(s.T.length:Int))=false:=by simp
     have HI:Hid (1+(idC (s.T.take s.T.length):Int)=id):=by
      show _=_
      rw[List.take_length]
      have hl:=(za HZA).zi.last
      rcases hM.pd with q | q
      ·exact absurd q.2.1 (za HN4)
      ·rw[q.1,hl];omega
     clear hM hK hMK
     go_wp2_with fail
     go_meet
     have e:=za HI
     subst e
     exact⟨za HM3,za HK3⟩
  rename World=>wf
  obtain⟨hM,hK⟩:=za hcut
  have HM5:=zc hM
  have HK5:=zc hK
  clear hM hK hcut
  go_wp2_with fail
  have q7:wf.cell? ⟨zb,7,none⟩=some (.int .i64 (tp:Int)):=by rw[←za HTP];exact zd (za HM5).zr.blk 7
  have q3:wf.cell? ⟨w.heap.size,3,none⟩=some (.int .i64 (sz:Int)):=zd (za HM5).st 3
  have qf:wf.frozen? ⟨zb,7,none⟩=false:=zt (za HM5).zr.blk 7
  have HZ0:Hid (Zh B w (wf.drew.setCell ⟨zb,7,none⟩ (.int .i64 ((tp:Int)+(1+(sz:Int))))) zb m2 P2 D2 { aau s.P with top:=(tp:Int)+(1+(sz:Int)) } s.T s.wh s.here s.known):=(Zh.drew ⟨(za HM5).hg,(za HM5).zr,(za HM5).bl⟩).num 7 _ rfl
  have HK0:Hid (MkT B (wf.drew.setCell ⟨zb,7,none⟩ (.int .i64 ((tp:Int)+(1+(sz:Int))))) zb tb m2 vi ⟨a,b,id,false,List.replicate sz 0⟩):=by
   exact(za HK5).num (za HM5).zr 7 (.int .i64 ((tp:Int)+(1+(sz:Int))))
  go_cut [] (fun wg=>Hid (Zh B w wg zb m2 P2 D2 { aau s.P with top:=(tp:Int)+(1+(sz:Int)) } s.T s.wh s.here s.known∧MkT B wg zb tb m2 vi ⟨a,b,id,false,List.replicate sz 0⟩))
  case first =>
   refine ace (S:=fun w'=>w'.cell? ⟨zb,7,none⟩=some (.int .i64 (tp:Int))∧w'.cell? ⟨w.heap.size,3,none⟩=some (.int .i64 (sz:Int))) 10 (by kernel_rfl) ⟨q7,q3⟩ (fun hHeld=>?_)
   refine zn (i:=0) (oi:={ dst:=some 113,op:=_,type:=_,pos:=_,after:=_,guard:=_ }) (v:=?_) rfl (by kernel_rfl) (by kernel_rfl) (by kernel_rfl) (by rfl) (fun _ _ _ h=>h) (Or.inl ⟨by rfl,?_⟩) (by assumption) ?_
   case refine_2 =>
    intro w hSw
    try dsimp only at hSw
    go_simp
    try with_reducible rfl
   simp only[Act.put,sA,sB,sC]
   refine zn (i:=1) (oi:={ dst:=some 114,op:=_,type:=_,pos:=_,after:=_,guard:=_ }) (v:=?_) rfl (by kernel_rfl) (by kernel_rfl) (by kernel_rfl) (by rfl) (fun _ _ _ h=>h) (Or.inl ⟨by rfl,?_⟩) (by assumption) ?_
   case refine_2 =>
    intro w hSw
    try dsimp only at hSw
    go_simp
    try with_reducible rfl
   simp only[Act.put,sA,sB,sC]
   refine zn (i:=2) (oi:={ dst:=some 115,op:=_,type:=_,pos:=_,after:=_,guard:=_ }) (v:=?_) rfl (by kernel_rfl) (by kernel_rfl) (by kernel_rfl) (by rfl) (fun _ _ _ h=>h) (Or.inl ⟨by rfl,?_⟩) (by assumption) ?_
   case refine_2 =>
    intro w hSw
    try dsimp only at hSw
    go_simp
    try with_reducible rfl
   simp only[Act.put,sA,sB,sC]
   refine aal (i:=3) (cs:=[7,10]) (oi:={ dst:=some 116,op:=_,type:=_,pos:=_,after:=_,guard:=_ }) (v:=?_) rfl (by kernel_rfl) (by kernel_rfl) (by kernel_rfl) (by rfl) (by kernel_rfl) (fun _ _ _ h=>h) (Or.inl ⟨by rfl,?_⟩) (by assumption) ?_
   case refine_2 =>
    intro w hSw
    try dsimp only at hSw
    go_simp
    try with_reducible rfl
   simp only[Act.put,sA,sB,sC]
   refine zn (i:=4) (oi:={ dst:=some 117,op:=_,type:=_,pos:=_,after:=_,guard:=_ }) (v:=?_) rfl (by kernel_rfl) (by kernel_rfl) (by kernel_rfl) (by rfl) (fun _ _ _ h=>h) (Or.inl ⟨by rfl,?_⟩) (by assumption) ?_
   case refine_2 =>
    intro w hSw
    try dsimp only at hSw
    go_simp
    try with_reducible rfl
   simp only[Act.put,sA,sB,sC]
   refine aal (i:=5) (cs:=[6,7,10]) (oi:={ dst:=some 118,op:=_,type:=_,pos:=_,after:=_,guard:=_ }) (v:=?_) rfl (by kernel_rfl) (by kernel_rfl) (by kernel_rfl) (by rfl) (by kernel_rfl) (fun _ _ _ h=>h) (Or.inl ⟨by rfl,?_⟩) (by assumption) ?_
   case refine_2 =>
    intro w hSw
    try dsimp only at hSw
    go_simp
    try with_reducible rfl
   simp only[Act.put,sA,sB,sC]
   refine zn (i:=6) (oi:={ dst:=some 119,op:=_,type:=_,pos:=_,after:=_,guard:=_ }) (v:=?_) rfl (by kernel_rfl) (by kernel_rfl) (by kernel_rfl) (by rfl) (fun _ _ _ h=>h) (Or.inl ⟨by rfl,?_⟩) (by assumption) ?_
   case refine_2 =>
    intro w hSw
    try dsimp only at hSw
    go_simp
    try with_reducible rfl
   simp only[Act.put,sA,sB,sC]
   refine zn (i:=7) (oi:={ dst:=some 120,op:=_,type:=_,pos:=_,after:=_,guard:=_ }) (v:=?_) rfl (by kernel_rfl) (by kernel_rfl) (by kernel_rfl) (by rfl) (fun _ _ _ h=>h) (Or.inl ⟨by rfl,?_⟩) (by assumption) ?_
   case refine_2 =>
    intro w hSw
    try dsimp only at hSw
    go_simp
    try with_reducible rfl
   simp only[Act.put,sA,sB,sC]
   refine zn (i:=8) (oi:={ dst:=some 121,op:=_,type:=_,pos:=_,after:=_,guard:=_ }) (v:=?_) rfl (by kernel_rfl) (by kernel_rfl) (by kernel_rfl) (by rfl) (fun _ _ _ h=>h) (Or.inl ⟨by rfl,?_⟩) (by assumption) ?_
   case refine_2 =>
    intro w hSw
    try dsimp only at hSw
    go_simp
    try with_reducible rfl
   simp only[Act.put,sA,sB,sC]
   refine zn (i:=9) (oi:={ dst:=some 122,op:=_,type:=_,pos:=_,after:=_,guard:=_ }) (v:=?_) rfl (by kernel_rfl) (by kernel_rfl) (by kernel_rfl) (by rfl) (fun _ _ _ h=>h) (Or.inl ⟨by rfl,?_⟩) (by assumption) ?_
   case refine_2 =>
    intro w hSw
    try dsimp only at hSw
    go_simp
    try with_reducible rfl
   simp only[Act.put,sA,sB,sC]
   refine acp (o:={ dst:=none,op:=_,type:=_,pos:=_,after:=_,guard:=_ }) (by kernel_rfl) rfl (fun K hK=>?_)
   go_simp
   refine hK.out _ _ ?_
   clear hK K
   refine wpAny_done (by kernel_rfl) ?_ _
   go_wp2_with fail
   go_meet
   exact⟨za HZ0,za HK0⟩
  rename World=>wg
  obtain⟨hZ,hK⟩:=za hcut
  rename ∀(a:Act) (w:World),_→_=>aK
  refine aK _ _ ?_
  show Code.wp _ _ (bodyPost prog Tryz.f17 fun e w'=>e=.returned (.bool true)∧ZNext B (k+1) zb w w') _ _
  revert u161 u160 u159 u158 u157 u156 u155 u154 u153 u152 u151 u150 u149 u148 u147 u146 u145 u144 u143 u142 u141 u140 u139 u138 u137 u136 u135 u134 u133 u132 u131 u130 u129 u128 u127 u126 u125 u124 u123 u122 u121 u120 u119 u118 u117 u116 u115 u114 u113 u112 u111 u110 u109 u108 u107 u106 u105 u104 u103 u102 u101 u100 u99 u98 u97 u96 u95 u94 u93 u92 u91 u90 u89 u88 u87 u86 u85 u84 u83 u82 u81 u80 u79 u78 u77 u76 u75 u74 u73 u72 u71 u70 u69 u67 u66 u65 u64 u63 u62 u61 u60 u59 u58 u57 u56 u55 u54 u53 u52 u51 u50 u49 u47 u46 u45 u44 u43 u42 u41 u40 u39 u38 u37 u36 u35 u34 u33 u32 u31 u30 u29 u28 u27 u26 u25 u24 u22 u21 u20 u19 u18 u17 u16 u15 u14 u13 u12 u11 u10 u9 u8
  exact za HRR tp m2 P2 D2 id tb vi wg (za HTP) ⟨hZ,hK⟩ ⟨_,za HM⟩ (za HN2)
end
end Go.Proofs.YtpnghfghdbijlaaGreatDoor
