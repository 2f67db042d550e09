/- A part. -/
import Derived.Test.YtpnghfghdbijlaaGreatDoorM12
open Go.Proofs.Tryz
namespace Go.Proofs.YtpnghfghdbijlaaGreatDoor
open Go.RowKit
set_option linter.unusedVariables false
set_option linter.unusedSimpArgs false
set_option maxRecDepth 100000
set_option maxHeartbeats 40000000
section
open Go.RowKit Go.Maps
def abc:Nat→List (List Int)→List Int→Int→List Int
 | 0,_,seen,_=>seen
 | f+1,T,seen,k=>if 1≤k∧k-1 ∉ seen then ((T[(k-1).toNat]?).getD []).foldl (abc f T) ((k-1) :: seen) else seen
structure LdAt (w:World) (c1 c2 c3 sb:Nat) (gl:Option Addr) (cl:Nat) (T:List (List Int)):Prop where
 e1:w.cell? ⟨c1,0,none⟩=some (.map (some sb))
 e2:w.cell? ⟨c2,0,none⟩=some (.slice gl T.length cl)
 e3:w.cell? ⟨c3,0,none⟩=some (.func (.func 49) #[] #[.pointer (some ⟨c1,0,none⟩),.pointer (some ⟨c2,0,none⟩),.pointer (some ⟨c3,0,none⟩)])
 th:∀j L,T[j]?=some L→∃gb go b g c,gl=some ⟨gb,go,none⟩∧w.cell? ⟨gb,go+j,none⟩=some (.pointer (some ⟨b,0,none⟩))∧w.cell? ⟨b,4,none⟩=some (.slice g L.length c)∧∀i x,L[i]?=some x→∃g1 o1,g=some ⟨g1,o1,none⟩∧w.cell? ⟨g1,o1+i,none⟩=some (.int .i64 x)
theorem LdAt.grow {w w':World} {c1 c2 c3 sb cl:Nat} {gl:Option Addr} {T:List (List Int)} (h:LdAt w c1 c2 c3 sb gl cl T) (hg:w.grownBy w' (some sb)) {es:Array MapEntry} {ck:Nat} (hm:w.heap[sb]?=some (.map es ck)):LdAt w' c1 c2 c3 sb gl cl T:=by
 have kp:∀{k c:Nat} {v:Value},w.cell? ⟨k,c,none⟩=some v→w'.cell? ⟨k,c,none⟩=some v:=fun {k c v} hc=>(World.cell?_of_block (hg.block k (ze hc) (fun e=>abu hc hm (Option.some.inj e)))).trans hc
 refine⟨kp h.e1,kp h.e2,kp h.e3,fun j L hj=>?_⟩
 obtain⟨gb,go,b,g,c,eg,a1,a2,a3⟩:=h.th j L hj
 exact⟨gb,go,b,g,c,eg,kp a1,kp a2,fun i x hi=>by
  obtain⟨g1,o1,e,q⟩:=a3 i x hi
  exact⟨g1,o1,e,kp q⟩⟩
structure SnOk (T:List (List Int)) (seen:List Int):Prop where
 nd:seen.Nodup
 rg:∀x∈seen,0≤x∧x<T.length
theorem SnOk.len {T:List (List Int)} {seen:List Int} (h:SnOk T seen):seen.length≤T.length:=by
 have hs:seen.map Int.toNat ⊆ List.range T.length:=fun x hx=>by
  obtain⟨y,hy,rfl⟩:=List.mem_map.1 hx
  have:=h.rg y hy
  exact List.mem_range.2 (by omega)
 have hn:(seen.map Int.toNat).Nodup:=by
  rw[List.Nodup,List.pairwise_map]
  exact List.Pairwise.imp_of_mem (fun {a b} ha hb hab e=>hab (by have:=h.rg a ha;have:=h.rg b hb;omega)) h.nd
 have:=hn.length_le_of_subset hs
 simpa using this
theorem SnOk.cons {T:List (List Int)} {seen:List Int} (h:SnOk T seen) {x:Int} (h0:0≤x) (h1:x<T.length) (hn:x ∉ seen):SnOk T (x :: seen) :=
 ⟨List.nodup_cons.2 ⟨hn,h.nd⟩,fun y hy=>by
  rcases List.mem_cons.1 hy with rfl | hy
  ·exact⟨h0,h1⟩
  ·exact h.rg y hy⟩
theorem afe (w:World) (r:Option Nat):w.grownBy w r:=⟨rfl,rfl,rfl,Nat.le_refl _,fun _ _ _=>rfl⟩
theorem agb {w w' w'':World} {r:Option Nat} (h:w.grownBy w' r) (k:w'.grownBy w'' r):w.grownBy w'' r :=
 ⟨k.os.trans h.os,k.tape.trans h.tape,k.output.trans h.output,Nat.le_trans h.size k.size,fun j hj hn=>(k.block j (Nat.lt_of_lt_of_le hj h.size) hn).trans (h.block j hj hn)⟩
def ahj (T:List (List Int)) (sb:Nat) (S:List Int) (n:Nat) (w:World) (e:Ending) (w':World):Prop :=
 e=.returned (.tuple #[])∧SeenAt w' sb S∧SnOk T S∧n≤S.length∧w.grownBy w' (some sb)
def ak4 (c1 c2 c3 sb:Nat) (gl:Option Addr) (cl:Nat) (T:List (List Int)) (f:Nat):Prop:=∀(w:World) (seen:List Int) (k:Int),LdAt w c1 c2 c3 sb gl cl T→SeenAt w sb seen→SnOk T seen→T.length-seen.length<f→k≤T.length→I64 k →
  Calls prog 49 #[.int .i64 k,.pointer (some ⟨c1,0,none⟩),.pointer (some ⟨c2,0,none⟩),.pointer (some ⟨c3,0,none⟩)] w fun e w'=>ahj T sb (abc f T seen k) seen.length w e w'
theorem aj9 {f:Nat} {T:List (List Int)} {L:List Int} {i:Nat} {x:Int} (h:L[i]?=some x) (S:List Int):(L.take (i+1)).foldl (abc f T) S=abc f T ((L.take i).foldl (abc f T) S) x:=by
 rw[List.take_add_one,h]
 simp
theorem aoe {c1 c2 c3 sb cl:Nat} {gl:Option Addr} {T:List (List Int)} (hT:∀L∈T,L.length≤1000000∧∀x∈L,I64 x∧x≤T.length) (hTl:T.length≤1000000) {f:Nat} (ih:ak4 c1 c2 c3 sb gl cl T f):ak4 c1 c2 c3 sb gl cl T (f+1):=by
 intro w seen k hL hS hO hf hk hk64
 have e1:=hL.e1
 have e2:=hL.e2
 have hk0:=hk64.1
 have hln:=hO.len
 by_cases h1:1≤k
 ·have hi:I64 (k-1):=⟨by have:=hk64.1;omega,by have:=hk64.2;omega⟩
  have hlk:=hS.look hi
  by_cases h2:k-1∈seen
  ·have hd:decide (k-1∈seen)=true:=decide_eq_true h2
   rw[hd] at hlk
   have HP:Hid (ahj T sb (abc (f+1) T seen k) seen.length w (.returned (.tuple #[])) w):=by
    unfold abc
    rw[if_neg (fun q=>q.2 h2)]
    exact⟨rfl,hS,hO,Nat.le_refl _,afe _ _⟩
   clear hL hS hO ih hi h2 hd hT
   go_enter func49,ntmps49
   go_wp2_with fail
   go_end0
   exact za HP
  ·have hd:decide (k-1∈seen)=false:=decide_eq_false h2
   rw[hd] at hlk
   obtain⟨w1,hput,hS1,hg1⟩:=hS.put hi h2 (by omega)
   obtain⟨es,ck,hm⟩:=hS.blk
   have hL1:=hL.grow hg1 hm
   have hjl:(k-1).toNat<T.length:=by omega
   obtain⟨L,hLj⟩:∃L,T[(k-1).toNat]?=some L:=⟨_,List.getElem?_eq_getElem hjl⟩
   obtain⟨gb,go,b,g,c,rfl,a1,a2,a3⟩:=hL1.th _ L hLj
   rw[show (k-1).toNat=k.toNat-1 by omega] at a1
   have d2:=hL1.e2
   have hTL:=hT L (List.mem_of_getElem? hLj)
   have HTL:=zc hTL.2
   have hLl:=hTL.1
   have HA3:=zc a3
   have HO1:=zc (hO.cons (x:=k-1) (by omega) (by omega) h2)
   have HS1:=zc hS1
   have HG1:=zc hg1
   obtain⟨es1,ck1,hm1⟩:=hS1.blk
   have HL:=zc hL1
   have HM:=zc hm1
   have HIH:=zc ih
   have hw:abc (f+1) T seen k=L.foldl (abc f T) ((k-1) :: seen):=by
    rw[abc,if_pos ⟨h1,h2⟩,hLj]
    rfl
   have HW:=zc hw
   clear hL hS hO ih hd hT hS1 hg1 hL1 hm hm1 a3 hTL hw hLj h2 hi
   go_enter func49,ntmps49
   go_wp2_with fail
   go_loopg [28] L.length (fun gg iv wx=>∃(i:Nat) (S:List Int),i≤L.length∧gg=L.length-i∧iv=.int .i64 i∧Hid (S=(L.take i).foldl (abc f T) ((k-1) :: seen)∧SeenAt wx sb S∧SnOk T S∧seen.length+1≤S.length∧w1.grownBy wx (some sb)))
   case atStart=>exact⟨0,(k-1) :: seen,Nat.zero_le _,by omega,rfl,rfl,za HS1,za HO1,by simp,afe _ _⟩
   case round =>
    obtain⟨i,S,hi,rfl,rfl,HY⟩:=hrel
    obtain⟨hSe,hSs,hSo,hSl,hSg⟩:=za HY
    have hLx:=(za HL).grow hSg (za HM)
    have e3:=hLx.e3
    by_cases hil:i<L.length
    ·have hil2:(i:Int)<(L.length:Int):=by omega
     obtain⟨x,hx⟩:∃x,L[i]?=some x:=⟨_,List.getElem?_eq_getElem hil⟩
     obtain⟨g1,o1,rfl,q0⟩:=za HA3 i x hx
     have q:wr.cell? ⟨g1,o1+i,none⟩=some (.int .i64 x):=(World.cell?_of_block (hSg.block g1 (ze q0) (fun e=>abu q0 (za HM) (Option.some.inj e)))).trans q0
     have hx2:=za HTL x (List.mem_of_getElem? hx)
     have HC:=zc (za HIH wr S x hLx hSs hSo (by have:=hSo.len;omega) hx2.2 hx2.1)
     have HN:Hid (abc f T S x=(L.take (i+1)).foldl (abc f T) ((k-1) :: seen)):=by rw[aj9 hx,←hSe];exact rfl
     have HSG:=zc hSg
     have HSL:=zc hSl
     clear hSe hSs hSo hSl hSg hLx HY hx hx2 q0
     go_wp2_with fail
     refine(za HC).mono ?_
     rintro e w2 ⟨rfl,p1,p2,p3,p4⟩
     have HP1:=zc p1
     have HP2:=zc p2
     have HP3:=zc p3
     have HP4:=zc p4
     clear p1 p2 p3 p4 q e3
     go_wp2_with fail
     go_roundg (L.length-(i+1))
     case measure=>omega
     case rel=>exact⟨i+1,abc f T S x,by omega,rfl,by go_num,za HN,za HP1,za HP2,Nat.le_trans (za HSL) (za HP3),agb (za HSG) (za HP4)⟩
    ·obtain rfl:i=L.length:=by omega
     have hil2:decide ((L.length:Int)<(L.length:Int))=false:=by simp
     rw[List.take_length] at hSe
     have HP:Hid (ahj T sb (abc (f+1) T seen k) seen.length w (.returned (.tuple #[])) wr):=by
      show ahj T sb (abc (f+1) T seen k) seen.length w (.returned (.tuple #[])) wr
      rw[za HW,←hSe]
      exact⟨rfl,hSs,hSo,by omega,agb (za HG1) hSg⟩
     clear hSe hSs hSo hSl hSg hLx HY e3
     go_wp2_with fail
     go_end0
     exact za HP
 ·have HP:Hid (ahj T sb (abc (f+1) T seen k) seen.length w (.returned (.tuple #[])) w):=by
   unfold abc
   rw[if_neg (fun q=>h1 q.1)]
   exact⟨rfl,hS,hO,Nat.le_refl _,afe _ _⟩
  clear hL hS hO ih hT
  go_enter func49,ntmps49
  go_wp2_with fail
  go_end0
  exact za HP
theorem ak5 {c1 c2 c3 sb cl:Nat} {gl:Option Addr} {T:List (List Int)} (hT:∀L∈T,L.length≤1000000∧∀x∈L,I64 x∧x≤T.length) (hTl:T.length≤1000000):∀f,ak4 c1 c2 c3 sb gl cl T f
 | 0=>fun _ _ _ _ _ _ h=>absurd h (Nat.not_lt_zero _)
 | f+1=>aoe hT hTl (ak5 hT hTl f)
def abp (T:List (List Int)) (from':List Int):List Int:=from'.foldl (abc (T.length+1) T) []
def ThAt (w:World) (gl:Option Addr) (T:List (List Int)):Prop:=∀j L,T[j]?=some L→∃gb go b g c,gl=some ⟨gb,go,none⟩∧w.cell? ⟨gb,go+j,none⟩=some (.pointer (some ⟨b,0,none⟩))∧w.cell? ⟨b,4,none⟩=some (.slice g L.length c)∧∀i x,L[i]?=some x→∃g1 o1,g=some ⟨g1,o1,none⟩∧w.cell? ⟨g1,o1+i,none⟩=some (.int .i64 x)
theorem ThAt.keep {w w':World} {gl:Option Addr} {T:List (List Int)} (h:ThAt w gl T) (hb:Below w.heap.size w w'):ThAt w' gl T:=fun j L hj=>by
 obtain⟨gb,go,b,g,c,eg,a1,a2,a3⟩:=h j L hj
 exact⟨gb,go,b,g,c,eg,zj hb a1 (ze a1),zj hb a2 (ze a2),fun i x hi=>by
  obtain⟨g1,o1,e,q⟩:=a3 i x hi
  exact⟨g1,o1,e,zj hb q (ze q)⟩⟩
def ak6 (T:List (List Int)) (fr:List Int) (w:World) (e:Ending) (w':World):Prop:=∃sb,e=.returned (.map (some sb))∧w.heap.size≤sb∧SeenAt w' sb (abp T fr)∧SnOk T (abp T fr)∧Below w.heap.size w w'
theorem ap3 {w:World} {gl gf:Option Addr} {cl cf:Nat} {T:List (List Int)} {fr:List Int} (hT:∀L∈T,L.length≤1000000∧∀x∈L,I64 x∧x≤T.length) (hTl:T.length≤1000000) (h:ThAt w gl T) (hf:∀i x,fr[i]?=some x→∃g1 o1,gf=some ⟨g1,o1,none⟩∧w.cell? ⟨g1,o1+i,none⟩=some (.int .i64 x)) (hfr:fr.length≤1000000) (hfx:∀x∈fr,I64 x∧x≤T.length) :
  Calls prog 37 #[.slice gl T.length cl,.slice gf fr.length cf] w fun e w'=>ak6 T fr w e w':=by
 have hmm:∀w:World,(Go.Instr.makeMap 88 none).run prog w=.ok (.map (some w.heap.size)) (w.alloc (.map #[] 0)):=fun w=>by kernel_rfl
 have HT:=zc hT
 have H:=zc h
 have HF:=zc hf
 have HFX:=zc hfx
 clear hT h hf hfx
 go_enter func37,ntmps37
 go_wp2_with fail
 obtain⟨W4,hW4⟩:∃W4,(((w.alloc (.cells #[.slice gl T.length cl] 31)).alloc (.map #[] 0)).alloc (.cells #[.map (some (w.heap.size+1))] 88)).alloc (.cells #[.nilFunc] 107)=W4:=⟨_,rfl⟩
 have hb4:Below w.heap.size w W4:=by rw[←hW4];exact((((Below.refl _ _).alloc (Nat.le_refl _) _).alloc (by simp) _).alloc (by simp;omega) _).alloc (by simp;omega) _
 have m3:W4.heap[w.heap.size+1+1+1]?=some (.cells #[.nilFunc] 107 (0,0)):=by rw[←hW4];exact afk _ _ (by simp)
 have m2:W4.heap[w.heap.size+1+1]?=some (.cells #[.map (some (w.heap.size+1))] 88 (0,0)):=by rw[←hW4,Below.heap_alloc _ _ _ (by simp)];exact afk _ _ (by simp)
 have m1:SeenAt W4 (w.heap.size+1) []:=by
  refine SeenAt.keep (w:=(w.alloc (.cells #[.slice gl T.length cl] 31)).alloc (.map #[] 0)) ?_ ?_
  ·have:=SeenAt.made (w.alloc (.cells #[.slice gl T.length cl] 31))
   rw[show (w.alloc (.cells #[.slice gl T.length cl] 31)).heap.size=w.heap.size+1 by simp] at this
   exact this
  ·rw[←hW4,Below.heap_alloc _ _ _ (by simp),Below.heap_alloc _ _ _ (by simp)]
 have m0:W4.heap[w.heap.size]?=some (.cells #[.slice gl T.length cl] 31 (0,0)):=by rw[←hW4,Below.heap_alloc _ _ _ (by simp;omega),Below.heap_alloc _ _ _ (by simp;omega),Below.heap_alloc _ _ _ (by simp)];exact aan _ _
 have n0:W4.cell? ⟨w.heap.size+1+1+1,0,none⟩=some .nilFunc:=zd m3 0
 have f0:=zt m3 0
 obtain⟨fv,hfv⟩:∃fv,Value.func (.func 49) #[] #[.pointer (some ⟨w.heap.size+1+1,0,none⟩),.pointer (some ⟨w.heap.size,0,none⟩),.pointer (some ⟨w.heap.size+1+1+1,0,none⟩)]=fv:=⟨_,rfl⟩
 have hst:(store ⟨w.heap.size+1+1+1,0,none⟩ fv).run prog W4=.ok () (W4.setCell ⟨w.heap.size+1+1+1,0,none⟩ fv):=by
  rw[←hfv,run_store _ _ _ _ _ rfl]
  simp[n0,f0]
 obtain⟨W5,hW5⟩:∃W5,W4.setCell ⟨w.heap.size+1+1+1,0,none⟩ fv=W5:=⟨_,rfl⟩
 have hb5:Below w.heap.size w W5:=by rw[←hW5];exact hb4.setCell (by show w.heap.size≤w.heap.size+1+1+1;omega) _
 have hq:∀k,k≠w.heap.size+1+1+1→W5.heap[k]?=W4.heap[k]?:=fun k hk=>by rw[←hW5];exact zo _ hk
 have hl5:LdAt W5 (w.heap.size+1+1) w.heap.size (w.heap.size+1+1+1) (w.heap.size+1) gl cl T:=by
  refine⟨zd ((hq _ (by omega)).trans m2) 0,zd ((hq _ (by omega)).trans m0) 0,?_,(za H).keep hb5⟩
  rw[hfv]
  have h3:=aad m3 0 fv
  rw[hW5] at h3
  exact zd h3 0
 have HL5:=zc hl5
 have HS5:=zc (m1.keep (hq _ (by omega)))
 have HB5:=zc hb5
 have e3:=hl5.e3
 have e1:=hl5.e1
 rw[hW4,hfv,hst,hW5]
 clear hW4 hst hW5 n0 f0 m0 m1 m2 m3 hb4 hb5 hq hl5
 subst hfv
 go_wp2_with fail
 go_loopg [13] fr.length (fun gg iv wx=>∃(i:Nat) (S:List Int),i≤fr.length∧gg=fr.length-i∧iv=.int .i64 i∧Hid (S=(fr.take i).foldl (abc (T.length+1) T) []∧SeenAt wx (w.heap.size+1) S∧SnOk T S∧W5.grownBy wx (some (w.heap.size+1))))
 case atStart=>exact⟨0,[],Nat.zero_le _,by omega,rfl,rfl,za HS5,⟨List.nodup_nil,fun _ h=>by cases h⟩,afe _ _⟩
 case round =>
  obtain⟨i,S,hi,rfl,rfl,HY⟩:=hrel
  obtain⟨hSe,hSs,hSo,hSg⟩:=za HY
  obtain⟨es,ck,hm⟩:=(za HS5).blk
  have hLx:=(za HL5).grow hSg hm
  have k3:=hLx.e3
  have k1:=hLx.e1
  have hbx:Below w.heap.size w wr:=⟨hSg.os.trans (za HB5).os,hSg.tape.trans (za HB5).tape,hSg.output.trans (za HB5).output,Nat.le_trans (za HB5).size hSg.size,fun k hk=>(hSg.block k (Nat.lt_of_lt_of_le hk (za HB5).size) (fun e=>by have:=Option.some.inj e;omega)).trans ((za HB5).block k hk)⟩
  by_cases hil:i<fr.length
  ·have hil2:(i:Int)<(fr.length:Int):=by omega
   obtain⟨x,hx⟩:∃x,fr[i]?=some x:=⟨_,List.getElem?_eq_getElem hil⟩
   obtain⟨g1,o1,rfl,q0⟩:=za HF i x hx
   have q:wr.cell? ⟨g1,o1+i,none⟩=some (.int .i64 x):=zj hbx q0 (ze q0)
   have hx2:=za HFX x (List.mem_of_getElem? hx)
   have HC:=zc (ak5 (za HT) hTl (T.length+1) wr S x hLx hSs hSo (by omega) hx2.2 hx2.1)
   have HN:Hid (abc (T.length+1) T S x=(fr.take (i+1)).foldl (abc (T.length+1) T) []):=by rw[aj9 hx,←hSe];exact rfl
   have HSG:=zc hSg
   clear hSe hSs hSo hSg hLx HY hx hx2 q0 hm hbx k1
   go_wp2_with fail
   refine(za HC).mono ?_
   rintro e w2 ⟨rfl,p1,p2,p3,p4⟩
   have HP1:=zc p1
   have HP2:=zc p2
   have HP4:=zc p4
   clear p1 p2 p3 p4 q k3
   go_wp2_with fail
   go_roundg (fr.length-(i+1))
   case measure=>omega
   case rel=>exact⟨i+1,abc (T.length+1) T S x,by omega,rfl,by go_num,za HN,za HP1,za HP2,agb (za HSG) (za HP4)⟩
  ·obtain rfl:i=fr.length:=by omega
   have hil2:decide ((fr.length:Int)<(fr.length:Int))=false:=by simp
   rw[List.take_length] at hSe
   subst hSe
   have HP:Hid (ak6 T fr w (.returned (.map (some (w.heap.size+1)))) wr):=⟨_,rfl,by omega,hSs,hSo,hbx⟩
   clear hSs hSo hSg hLx HY hm hbx k3
   go_wp2_with fail
   go_ret
   exact za HP
end
structure WkOk (T:List (List Int)) (S R:List Int):Prop where
 sub:∀a∈S,a∈R
 ok:SnOk T R
 len:S.length≤R.length
 clo:∀a∈R,a ∉ S→∀L,T[a.toNat]?=some L→∀x∈L,1≤x→x-1∈R
theorem WkOk.refl {T:List (List Int)} {S:List Int} (h:SnOk T S):WkOk T S S:=⟨fun _ h=>h,h,Nat.le_refl _,fun a h1 h2=>absurd h1 h2⟩
theorem WkOk.trans {T:List (List Int)} {S R Q:List Int} (h:WkOk T S R) (k:WkOk T R Q):WkOk T S Q :=
 ⟨fun a ha=>k.sub a (h.sub a ha),k.ok,Nat.le_trans h.len k.len,fun a ha hn L hL x hx h1=>by
  by_cases hr:a∈R
  ·exact k.sub _ (h.clo a hr hn L hL x hx h1)
  ·exact k.clo a ha hr L hL x hx h1⟩
theorem ajn {T:List (List Int)} {f:Nat} (ih:∀(S:List Int) (k:Int),SnOk T S→T.length-S.length<f→k≤T.length→WkOk T S (abc f T S k)∧(1≤k→k-1∈abc f T S k)) :
  ∀(l:List Int) (S:List Int),SnOk T S→T.length-S.length<f→(∀x∈l,x≤T.length)→WkOk T S (l.foldl (abc f T) S)∧∀x∈l,1≤x→x-1∈l.foldl (abc f T) S
 | [],S,hS,_,_=>⟨WkOk.refl hS,fun _ h=>by cases h⟩
 | y :: r,S,hS,hf,hl=>by
  obtain⟨a1,a2⟩:=ih S y hS hf (hl y (List.mem_cons_self ..))
  obtain⟨b1,b2⟩:=ajn ih r (abc f T S y) a1.ok (by have:=a1.len;omega) (fun x hx=>hl x (List.mem_cons_of_mem _ hx))
  refine⟨a1.trans b1,fun x hx h1=>?_⟩
  rcases List.mem_cons.1 hx with rfl | hx
  ·exact b1.sub _ (a2 h1)
  ·exact b2 x hx h1
theorem ak7 {T:List (List Int)} (hT:∀L∈T,∀x∈L,x≤T.length):∀(f:Nat) (S:List Int) (k:Int),SnOk T S→T.length-S.length<f→k≤T.length→WkOk T S (abc f T S k)∧(1≤k→k-1∈abc f T S k)
 | 0,_,_,_,h,_=>absurd h (Nat.not_lt_zero _)
 | f+1,S,k,hS,hf,hk=>by
  rw[abc]
  by_cases h:1≤k∧k-1 ∉ S
  ·rw[if_pos h]
   have hc:=hS.cons (x:=k-1) (by omega) (by omega) h.2
   have hcl:=hc.len
   simp only[List.length_cons] at hcl
   have hjl:(k-1).toNat<T.length:=by omega
   obtain⟨L,hL⟩:∃L,T[(k-1).toNat]?=some L:=⟨_,List.getElem?_eq_getElem hjl⟩
   rw[hL]
   obtain⟨a1,a2⟩:=ajn (ak7 hT f) L ((k-1) :: S) hc (by simp only[List.length_cons];omega) (fun x hx=>hT L (List.mem_of_getElem? hL) x hx)
   have hle:=a1.len
   simp only[List.length_cons] at hle
   refine⟨⟨fun a ha=>a1.sub a (List.mem_cons_of_mem _ ha),a1.ok,by show S.length≤(L.foldl (abc f T) ((k-1) :: S)).length;omega,fun a ha hn L' hL' x hx h1=>?_⟩,fun _=>a1.sub _ (List.mem_cons_self ..)⟩
   by_cases e:a=k-1
   ·subst e
    rw[hL] at hL'
    cases hL'
    exact a2 x hx h1
   ·exact a1.clo a ha (fun q=>(List.mem_cons.1 q).elim e hn) L' hL' x hx h1
  ·rw[if_neg h]
   exact⟨WkOk.refl hS,fun h1=>by
    by_cases q:k-1∈S
    ·exact q
    ·exact absurd ⟨h1,q⟩ h⟩
theorem aly {T:List (List Int)} (hT:∀L∈T,∀x∈L,x≤T.length) {fr:List Int} (hf:∀x∈fr,x≤T.length) :
  SnOk T (abp T fr)∧(∀x∈fr,1≤x→x-1∈abp T fr)∧∀a∈abp T fr,∀L,T[a.toNat]?=some L→∀x∈L,1≤x→x-1∈abp T fr:=by
 obtain⟨a1,a2⟩:=ajn (ak7 hT (T.length+1)) fr [] ⟨List.nodup_nil,fun _ h=>by cases h⟩ (by simp) hf
 exact⟨a1.ok,a2,fun a ha=>a1.clo a ha (by simp)⟩
theorem ak8 {T:List (List Int)} {C:Int→Prop} (hC:∀a,C a→0≤a→∀L,T[a.toNat]?=some L→∀x∈L,1≤x→C (x-1)):∀(f:Nat) (S:List Int) (k:Int),(∀a∈S,C a)→(1≤k→C (k-1))→∀a∈abc f T S k,C a
 | 0,_,_,hS,_=>hS
 | f+1,S,k,hS,hk=>by
  rw[abc]
  by_cases h:1≤k∧k-1 ∉ S
  ·rw[if_pos h]
   have hl:∀x∈(T[(k-1).toNat]?).getD [],1≤x→C (x-1):=fun x hx h1=>by
    cases hL:T[(k-1).toNat]? with
    | none=>rw[hL] at hx;cases hx
    | some L=>rw[hL] at hx;exact hC (k-1) (hk h.1) (by omega) L hL x hx h1
   have fold:∀(l:List Int) (S:List Int),(∀x∈l,1≤x→C (x-1))→(∀a∈S,C a)→∀a∈l.foldl (abc f T) S,C a:=fun l=>by
    induction l with
    | nil=>exact fun S _ h=>h
    | cons y r ih=>exact fun S h1 h2=>ih _ (fun x hx=>h1 x (List.mem_cons_of_mem _ hx)) (ak8 hC f S y h2 (h1 y (List.mem_cons_self ..)))
   refine fold _ _ hl (fun a ha=>?_)
   rcases List.mem_cons.1 ha with rfl | ha
   ·exact hk h.1
   ·exact hS a ha
  ·rw[if_neg h]
   exact hS
theorem lead_in {T:List (List Int)} {C:Int→Prop} (hC:∀a,C a→0≤a→∀L,T[a.toNat]?=some L→∀x∈L,1≤x→C (x-1)) {fr:List Int} (hf:∀x∈fr,1≤x→C (x-1)):∀a∈abp T fr,C a:=by
 unfold abp
 have fold:∀(l:List Int) (S:List Int),(∀x∈l,1≤x→C (x-1))→(∀a∈S,C a)→∀a∈l.foldl (abc (T.length+1) T) S,C a:=fun l=>by
  induction l with
  | nil=>exact fun S _ h=>h
  | cons y r ih=>exact fun S h1 h2=>ih _ (fun x hx=>h1 x (List.mem_cons_of_mem _ hx)) (ak8 hC _ S y h2 (h1 y (List.mem_cons_self ..)))
 exact fold fr [] hf (fun _ h=>by cases h)
section
open Go.RowKit Go.Maps
def abe (p:Nat→Bool):Nat→List Bool→List (List Int)→Nat
 | i,b :: bs,L :: Ls=>(if b&&p i then 1+L.length else 0)+abe p (i+1) bs Ls
 | _,_,_=>0
theorem agc (p:Nat→Bool):∀(i:Nat) (bs:List Bool) (Ls:List (List Int)) (k:Nat) (b:Bool) (L:List Int),bs[k]?=some b→Ls[k]?=some L→abe p i (bs.take (k+1)) (Ls.take (k+1))=abe p i (bs.take k) (Ls.take k)+(if b&&p (i+k) then 1+L.length else 0)
 | _,[],_,_,_,_,h,_=>by cases h
 | _,_ :: _,[],_,_,_,_,h=>by cases h
 | i,b0 :: bs,L0 :: Ls,0,b,L,h1,h2=>by
  cases h1
  cases h2
  simp[abe]
 | i,b0 :: bs,L0 :: Ls,k+1,b,L,h1,h2=>by
  have:=agc p (i+1) bs Ls k b L h1 h2
  simp only[List.take_succ_cons,abe]
  rw[this,show i+1+k=i+(k+1) by omega]
  omega
theorem ahk (p:Nat→Bool):∀(i:Nat) (bs:List Bool) (Ls:List (List Int)),(∀L∈Ls,L.length≤1000000)→abe p i bs Ls≤Ls.length*1000001
 | _,[],_,_=>Nat.zero_le _
 | _,_ :: _,[],_=>Nat.zero_le _
 | i,b0 :: bs,L0 :: Ls,h=>by
  have h1:=ahk p (i+1) bs Ls (fun L hL=>h L (List.mem_cons_of_mem _ hL))
  have h2:=h L0 (List.mem_cons_self ..)
  simp only[abe,List.length_cons]
  split <;> omega
structure ZcAt (w:World) (bz zb:Nat) (gl gh:Option Addr) (cl ch:Nat) (T:List (List Int)) (here:List Bool):Prop where
 c0:w.cell? ⟨bz,0,none⟩=some (.pointer (some ⟨zb,0,none⟩))
 c1:w.cell? ⟨zb,1,none⟩=some (.slice gl T.length cl)
 c3:w.cell? ⟨zb,3,none⟩=some (.slice gh here.length ch)
 len:here.length=T.length
 th:ThAt w gl T
 hr:∀i b,here[i]?=some b→∃g1 o1,gh=some ⟨g1,o1,none⟩∧w.cell? ⟨g1,o1+i,none⟩=some (.bool b)
theorem in2_any {w:World} {lb sb:Nat} {S:List Int} (h0:w.cell? ⟨lb,0,none⟩=some (.map (some sb))) (h:SeenAt w sb S) {i:Int} (hi:I64 i) :
  Calls prog 40 #[.int .i64 i,.pointer (some ⟨lb,0,none⟩)] w fun e w'=>e=.returned (.bool (decide (i∈S)))∧w'=w:=by
 have hl:=h.look hi
 clear h
 go_enter func40,ntmps40
 go_wp2_with fail
 go_ret
 exact⟨rfl,rfl⟩
theorem in3_any {w:World} {i:Int}:Calls prog 41 #[.int .i64 i] w fun e w'=>e=.returned (.bool true)∧w'=w:=by
 go_enter func41,ntmps41
 go_wp2_with fail
 go_ret
 exact⟨rfl,rfl⟩
theorem am5 {w:World} {bz zb cl ch:Nat} {gl gh:Option Addr} {T:List (List Int)} {here:List Bool} (h:ZcAt w bz zb gl gh cl ch T here) (hT:∀L∈T,L.length≤1000000) (hTl:T.length≤1000000) {p:Nat→Bool} (hp:∀i:Nat,i<T.length→Calls prog 41 #[.int .i64 (i:Int)] w fun e w'=>e=.returned (.bool (p i))∧w'=w) :
  Calls prog 36 #[.func (.func 41) #[] #[],.pointer (some ⟨bz,0,none⟩)] w fun e w'=>e=.returned (.int .i64 (abe p 0 here T:Nat))∧w'=w:=by
 have c0:=h.c0
 have c1:=h.c1
 have c3:=h.c3
 have hln:=h.len
 have H:=zc h
 have HT:=zc hT
 have HP:=zc hp
 clear h hT hp
 go_enter func36,ntmps36
 go_wp2_with fail
 go_loopg [4,5] T.length (fun gg nv iv wx=>∃k:Nat,k≤T.length∧gg=T.length-k∧nv=.int .i64 (abe p 0 (here.take k) (T.take k):Nat)∧iv=.int .i64 k∧wx=w)
 case atStart=>exact⟨0,Nat.zero_le _,by omega,rfl,rfl,rfl⟩
 case round =>
  obtain⟨k,hk,rfl,rfl,rfl,rfl⟩:=hrel
  by_cases hlt:k<T.length
  ·have hlt2:(k:Int)<(T.length:Int):=by omega
   have hlt3:(k:Int)<(here.length:Int):=by omega
   obtain⟨b,hb⟩:∃b,here[k]?=some b:=⟨_,List.getElem?_eq_getElem (by omega)⟩
   obtain⟨L,hL⟩:∃L,T[k]?=some L:=⟨_,List.getElem?_eq_getElem hlt⟩
   obtain⟨g1,o1,rfl,q1⟩:=(za H).hr k b hb
   obtain⟨gb,go,tb,g,c,rfl,q2,q3,_⟩:=(za H).th k L hL
   have hLl:=za HT L (List.mem_of_getElem? hL)
   have hst:=agc p 0 here T k b L hb hL
   rw[Nat.zero_add] at hst
   have hle:=ahk p 0 (here.take k) (T.take k) (fun L hL=>za HT L (List.mem_of_mem_take hL))
   rw[List.length_take,Nat.min_eq_left hk] at hle
   have hle2:abe p 0 (here.take k) (T.take k)≤1000001000000:=by
    have:k*1000001≤1000000*1000001:=Nat.mul_le_mul_right _ (by omega)
    omega
   have HST:=zc hst
   have HCL:=zc (za HP k hlt)
   obtain⟨m,hm⟩:∃m,abe p 0 (here.take k) (T.take k)=m:=⟨_,rfl⟩
   rw[hm] at hle2
   rw[hm]
   have HM:=zc hm
   clear hst hle hm hb hL
   cases b with
   | false =>
    go_wp2_with fail
    go_roundg (T.length-(k+1))
    case measure=>omega
    case rel=>exact⟨k+1,by omega,rfl,by rw[za HST,za HM];simp,by go_num,rfl⟩
   | true =>
    go_wp2_with fail
    refine(za HCL).mono ?_
    rintro e w2 ⟨rfl,rfl⟩
    cases hpk:p k with
    | false =>
     go_wp2_with fail
     go_roundg (T.length-(k+1))
     case measure=>omega
     case rel=>exact⟨k+1,by omega,rfl,by rw[za HST,za HM,hpk];simp,by go_num,rfl⟩
    | true =>
     go_wp2_with fail
     go_roundg (T.length-(k+1))
     case measure=>omega
     case rel =>
      refine⟨k+1,by omega,rfl,?_,by go_num,rfl⟩
      rw[za HST,za HM,hpk]
      go_num
  ·obtain rfl:k=T.length:=by omega
   have hlt2:decide ((T.length:Int)<(T.length:Int))=false:=by simp
   rw[show here.take T.length=here by rw[←hln,List.take_length],List.take_length]
   go_wp2_with fail
   go_ret
   exact⟨rfl,rfl⟩
theorem am6 {w:World} {bz zb cl ch lb:Nat} {gl gh:Option Addr} {T:List (List Int)} {here:List Bool} (h:ZcAt w bz zb gl gh cl ch T here) (hT:∀L∈T,L.length≤1000000) (hTl:T.length≤1000000) {p:Nat→Bool} (hp:∀i:Nat,i<T.length→Calls prog 40 #[.int .i64 (i:Int),.pointer (some ⟨lb,0,none⟩)] w fun e w'=>e=.returned (.bool (p i))∧w'=w) :
  Calls prog 36 #[.func (.func 40) #[] #[.pointer (some ⟨lb,0,none⟩)],.pointer (some ⟨bz,0,none⟩)] w fun e w'=>e=.returned (.int .i64 (abe p 0 here T:Nat))∧w'=w:=by
 have c0:=h.c0
 have c1:=h.c1
 have c3:=h.c3
 have hln:=h.len
 have H:=zc h
 have HT:=zc hT
 have HP:=zc hp
 clear h hT hp
 go_enter func36,ntmps36
 go_wp2_with fail
 go_loopg [4,5] T.length (fun gg nv iv wx=>∃k:Nat,k≤T.length∧gg=T.length-k∧nv=.int .i64 (abe p 0 (here.take k) (T.take k):Nat)∧iv=.int .i64 k∧wx=w)
 case atStart=>exact⟨0,Nat.zero_le _,by omega,rfl,rfl,rfl⟩
 case round =>
  obtain⟨k,hk,rfl,rfl,rfl,rfl⟩:=hrel
  by_cases hlt:k<T.length
  ·have hlt2:(k:Int)<(T.length:Int):=by omega
   have hlt3:(k:Int)<(here.length:Int):=by omega
   obtain⟨b,hb⟩:∃b,here[k]?=some b:=⟨_,List.getElem?_eq_getElem (by omega)⟩
   obtain⟨L,hL⟩:∃L,T[k]?=some L:=⟨_,List.getElem?_eq_getElem hlt⟩
   obtain⟨g1,o1,rfl,q1⟩:=(za H).hr k b hb
   obtain⟨gb,go,tb,g,c,rfl,q2,q3,_⟩:=(za H).th k L hL
   have hLl:=za HT L (List.mem_of_getElem? hL)
   have hst:=agc p 0 here T k b L hb hL
   rw[Nat.zero_add] at hst
   have hle:=ahk p 0 (here.take k) (T.take k) (fun L hL=>za HT L (List.mem_of_mem_take hL))
   rw[List.length_take,Nat.min_eq_left hk] at hle
   have hle2:abe p 0 (here.take k) (T.take k)≤1000001000000:=by
    have:k*1000001≤1000000*1000001:=Nat.mul_le_mul_right _ (by omega)
    omega
   have HST:=zc hst
   have HCL:=zc (za HP k hlt)
   obtain⟨m,hm⟩:∃m,abe p 0 (here.take k) (T.take k)=m:=⟨_,rfl⟩
   rw[hm] at hle2
   rw[hm]
   have HM:=zc hm
   clear hst hle hm hb hL
   cases b with
   | false =>
    go_wp2_with fail
    go_roundg (T.length-(k+1))
    case measure=>omega
    case rel=>exact⟨k+1,by omega,rfl,by rw[za HST,za HM];simp,by go_num,rfl⟩
   | true =>
    go_wp2_with fail
    refine(za HCL).mono ?_
    rintro e w2 ⟨rfl,rfl⟩
    cases hpk:p k with
    | false =>
     go_wp2_with fail
     go_roundg (T.length-(k+1))
     case measure=>omega
     case rel=>exact⟨k+1,by omega,rfl,by rw[za HST,za HM,hpk];simp,by go_num,rfl⟩
    | true =>
     go_wp2_with fail
     go_roundg (T.length-(k+1))
     case measure=>omega
     case rel =>
      refine⟨k+1,by omega,rfl,?_,by go_num,rfl⟩
      rw[za HST,za HM,hpk]
      go_num
  ·obtain rfl:k=T.length:=by omega
   have hlt2:decide ((T.length:Int)<(T.length:Int))=false:=by simp
   rw[show here.take T.length=here by rw[←hln,List.take_length],List.take_length]
   go_wp2_with fail
   go_ret
   exact⟨rfl,rfl⟩
end
section
open Go.RowKit Go.Maps
structure Th where
 kind:Int
 tag:Int
 id:Int
 old:Bool
 is:List Int
def toA (a:Int):HV:=⟨4,a,⟨#[]⟩⟩
def Fld (here:List Bool) (ad:Nat→Int) (c:Int) (v:HV):Prop :=
 (c=0→v=acv)∧(c<0→v.kind=2)∧(0<c→v=toA (ad (c-1).toNat)∧here[(c-1).toNat]?=some true)
structure IsTh (here:List Bool) (ad:Nat→Int) (t:Th) (x:HO):Prop where
 kind:x.kind=t.kind
 tag:x.tag=t.tag
 id:x.id=t.id
 len:x.fs.length=t.is.length
 fld:∀(k:Nat) (c:Int),t.is[k]?=some c→∃v,x.fs[k]?=some v∧Fld here ad c v
structure Rep (P:PHp) (T:List Th) (here:List Bool) (ad:Nat→Int):Prop where
 len:here.length=T.length
 obj:∀(i:Nat) (t:Th),T[i]?=some t→here[i]?=some true→∃x,aao P (ad i)=some x∧IsTh here ad t x
 inj:∀i j:Nat,here[i]?=some true→here[j]?=some true→ad i=ad j→i=j
 sur:∀a x,aao P a=some x→∃i:Nat,here[i]?=some true∧ad i=a
 old:∀(i:Nat) (t:Th),T[i]?=some t→here[i]?=some true→(t.old=true↔∃j:Nat,j<P.O.length∧ad i=P.fo+2*j)
theorem Rep.th {P:PHp} {T:List Th} {here:List Bool} {ad:Nat→Int} (h:Rep P T here ad) {i:Nat} (hi:here[i]?=some true):∃t,T[i]?=some t:=by
 have:=(List.getElem?_eq_some_iff.1 hi).1
 exact⟨_,List.getElem?_eq_getElem (by rw[←h.len];exact this)⟩
theorem abx {P:PHp} {j:Nat} {x:HO} (h:P.Y[j]?=some x):aao P (P.fy+2*j)=some x:=by
 have hj:=(List.getElem?_eq_some_iff.1 h).1
 unfold aao
 rw[aa3.2 ⟨hj,rfl⟩]
 exact h
theorem abm {P:PHp} (hs:Small P) {j:Nat} {x:HO} (h:P.O[j]?=some x):aao P (P.fo+2*j)=some x:=by
 have hj:=(List.getElem?_eq_some_iff.1 h).1
 have h1:=hs.yo
 have h2:=hs.oe
 unfold aao
 rw[ab6 (fun i hi=>by omega)]
 simp only
 rw[aa3.2 ⟨hj,rfl⟩]
 exact h
theorem acj {P:PHp} {a:Int} {x:HO} (h:aao P a=some x):(∃j:Nat,P.Y[j]?=some x∧a=P.fy+2*j)∨(∃j:Nat,P.O[j]?=some x∧a=P.fo+2*j):=by
 unfold aao at h
 cases h1:acf P.fy P.Y.length a with
 | some i =>
  rw[h1] at h
  exact Or.inl ⟨i,h,(aa3.1 h1).2⟩
 | none =>
  rw[h1] at h
  simp only at h
  cases h2:acf P.fo P.O.length a with
  | some i =>
   rw[h2] at h
   exact Or.inr ⟨i,h,(aa3.1 h2).2⟩
  | none=>rw[h2] at h;cases h
def aec (f:Int) (n:Nat):List Int:=(List.range n).map fun (j:Nat)=>f+2*(j:Int)
theorem af0 {f:Int} {n:Nat} {a:Int}:a∈aec f n↔∃j:Nat,j<n∧a=f+2*j:=by
 unfold aec
 simp only[List.mem_map,List.mem_range]
 constructor
 ·rintro ⟨j,h,e⟩;exact⟨j,h,e.symm⟩
 ·rintro ⟨j,h,e⟩;exact⟨j,h,e.symm⟩
theorem af1 {α β:Type} {f:α→β}:∀{l:List α},l.Nodup→(∀a∈l,∀b∈l,f a=f b→a=b)→(l.map f).Nodup
 | [],_,_=>List.nodup_nil
 | c :: r,h,k=>by
  have h':=List.nodup_cons.1 h
  rw[List.map_cons,List.nodup_cons]
  refine⟨fun q=>?_,af1 h'.2 (fun a ha b hb=>k a (List.mem_cons_of_mem _ ha) b (List.mem_cons_of_mem _ hb))⟩
  obtain⟨b,hb,e⟩:=List.mem_map.1 q
  have:=k b (List.mem_cons_of_mem _ hb) c (List.mem_cons_self ..) e
  exact h'.1 (this ▸ hb)
theorem ak9 (f:Int) (n:Nat):(aec f n).Nodup:=by
 unfold aec
 exact af1 List.nodup_range (fun a _ b _ e=>by omega)
def idx (here:List Bool):List Nat:=(List.range here.length).filter fun i=>here[i]?==some true
theorem adg {here:List Bool} {i:Nat}:i∈idx here↔here[i]?=some true:=by
 unfold idx
 rw[List.mem_filter,List.mem_range]
 constructor
 ·rintro ⟨_,h⟩;simpa using h
 ·intro h
  exact⟨(List.getElem?_eq_some_iff.1 h).1,by simpa using h⟩
theorem idx_nd (here:List Bool):(idx here).Nodup:=(List.nodup_range).sublist List.filter_sublist
theorem Rep.perm {P:PHp} {T:List Th} {here:List Bool} {ad:Nat→Int} (h:Rep P T here ad) (hs:Small P):((idx here).map ad).Perm (aec P.fy P.Y.length++aec P.fo P.O.length):=by
 have h1:=hs.yo
 have h2:=hs.oe
 refine(List.perm_ext_iff_of_nodup ?_ ?_).2 fun a=>?_
 ·exact af1 (idx_nd here) (fun a ha b hb e=>h.inj a b (adg.1 ha) (adg.1 hb) e)
 ·refine List.nodup_append.2 ⟨ak9 _ _,ak9 _ _,fun a ha b hb e=>?_⟩
  obtain⟨j,_,e1⟩:=af0.1 ha
  obtain⟨k,_,e2⟩:=af0.1 hb
  omega
 ·rw[List.mem_append,af0,af0,List.mem_map]
  constructor
  ·rintro ⟨i,hi,rfl⟩
   obtain⟨t,ht⟩:=h.th (adg.1 hi)
   obtain⟨x,hx,_⟩:=h.obj i t ht (adg.1 hi)
   rcases acj hx with ⟨j,h1,h2⟩ | ⟨j,h1,h2⟩
   ·exact Or.inl ⟨j,(List.getElem?_eq_some_iff.1 h1).1,h2⟩
   ·exact Or.inr ⟨j,(List.getElem?_eq_some_iff.1 h1).1,h2⟩
  ·rintro (⟨j,hj,rfl⟩ | ⟨j,hj,rfl⟩)
   ·obtain⟨i,h1,h2⟩:=h.sur _ _ (abx (List.getElem?_eq_getElem hj))
    exact⟨i,adg.2 h1,h2⟩
   ·obtain⟨i,h1,h2⟩:=h.sur _ _ (abm hs (List.getElem?_eq_getElem hj))
    exact⟨i,adg.2 h1,h2⟩
def szA (P:PHp) (a:Int):Nat:=match aao P a with
 | some x=>1+x.fs.length
 | none=>0
theorem aka (f:Int) (g:Int→Nat):∀(l:List HO) (b:Nat),(∀(j:Nat) (x:HO),l[j]?=some x→g (f+2*((b+j:Nat):Int))=1+x.fs.length)→((List.range' b l.length).map fun (j:Nat)=>g (f+2*(j:Int))).sum=l.length+(zg l).length
 | [],b,_=>rfl
 | x :: r,b,h=>by
  have h0:=h 0 x rfl
  have:=aka f g r (b+1) (fun j y hj=>by
   have:=h (j+1) y (by simpa using hj)
   rw[show b+1+j=b+(j+1) by omega]
   exact this)
  rw[List.length_cons,List.range'_succ,List.map_cons,List.sum_cons,this]
  rw[Nat.add_zero] at h0
  rw[h0]
  simp only[zg,List.flatMap_cons,List.length_append]
  omega
theorem aff (f:Int) (g:Int→Nat) (l:List HO) (h:∀(j:Nat) x,l[j]?=some x→g (f+2*(j:Int))=1+x.fs.length):((aec f l.length).map g).sum=l.length+(zg l).length:=by
 unfold aec
 rw[List.map_map,List.range_eq_range']
 exact aka f g l 0 (fun j x hj=>by rw[Nat.zero_add];exact h j x hj)
theorem akb (p:Nat→Bool) (F:Nat→Nat):∀(here:List Bool) (Ls:List (List Int)) (b:Nat),here.length=Ls.length→(∀(i:Nat) (L:List Int),Ls[i]?=some L→F (b+i)=1+L.length) →
  abe p b here Ls=(((List.range' b here.length).filter fun i=>(here[i-b]?==some true)&&p i).map F).sum
 | [],Ls,b,_,_=>by simp[abe]
 | c :: bs,[],b,h,_=>by simp at h
 | c :: bs,L :: Ls,b,h,hF=>by
  have h0:=hF 0 L rfl
  rw[Nat.add_zero] at h0
  have:=akb p F bs Ls (b+1) (by simpa using h) (fun i K hi=>by
   rw[show b+1+i=b+(i+1) by omega]
   exact hF (i+1) K (by simpa using hi))
  rw[abe,this,List.length_cons,List.range'_succ,List.filter_cons]
  have e:(List.range' (b+1) bs.length).filter (fun i=>((c :: bs)[i-b]?==some true)&&p i)=(List.range' (b+1) bs.length).filter (fun i=>(bs[i-(b+1)]?==some true)&&p i):=by
   refine List.filter_congr fun i hi=>?_
   rw[List.mem_range'_1] at hi
   rw[show i-b=(i-(b+1))+1 by omega,List.getElem?_cons_succ]
  rw[e,Nat.sub_self,List.getElem?_cons_zero]
  cases c with
  | false=>simp
  | true =>
   cases hp:p b with
   | false=>simp
   | true=>simp[h0]
theorem Rep.cells {P:PHp} {T:List Th} {here:List Bool} {ad:Nat→Int} (h:Rep P T here ad) (hs:Small P):abe (fun _=>true) 0 here (T.map Th.is)=P.Y.length+(zg P.Y).length+(P.O.length+(zg P.O).length):=by
 have e1:=akb (fun _=>true) (fun i=>match T[i]? with | some t=>1+t.is.length | none=>0) here (T.map Th.is) 0 (by rw[List.length_map];exact h.len) (fun i L hi=>by
  rw[List.getElem?_map] at hi
  cases ht:T[i]? with
  | none=>rw[ht] at hi;cases hi
  | some t=>rw[ht] at hi;cases hi;simp[ht])
 have e2:((List.range' 0 here.length).filter fun i=>(here[i-0]?==some true)&&(fun _=>true) i)=idx here:=by
  unfold idx
  rw[List.range_eq_range']
  refine List.filter_congr fun i _=>by simp
 refine e1.trans ?_
 rw[e2]
 have e3:((idx here).map (fun i=>match T[i]? with | some t=>1+t.is.length | none=>0))=((idx here).map ad).map (szA P):=by
  rw[List.map_map]
  refine List.map_congr_left fun i hi=>?_
  obtain⟨t,ht⟩:=h.th (adg.1 hi)
  obtain⟨x,hx,k⟩:=h.obj i t ht (adg.1 hi)
  simp only[Function.comp,ht,szA,hx,k.len]
 rw[e3,((h.perm hs).map (szA P)).sum_nat,List.map_append,List.sum_append_nat,aff P.fy (szA P) P.Y (fun j x hj=>by simp[szA,abx hj]),aff P.fo (szA P) P.O (fun j x hj=>by simp[szA,abm hs hj])]
theorem akc (p:Nat→Bool):∀(here:List Bool) (Ls:List (List Int)) (b:Nat),abe p b here Ls=abe (fun _=>true) b (here.mapIdx fun i c=>c&&p (b+i)) Ls
 | [],Ls,b=>by cases Ls <;> simp[abe]
 | c :: bs,[],b=>by simp[abe]
 | c :: bs,L :: Ls,b=>by
  have:=akc p bs Ls (b+1)
  rw[abe,List.mapIdx_cons,abe,this]
  simp only[Nat.add_zero,Bool.and_true]
  congr 1
  congr 1
  congr 1
  funext i c
  rw[show b+1+i=b+(i+1) by omega]
end
end Go.Proofs.YtpnghfghdbijlaaGreatDoor
