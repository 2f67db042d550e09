/- A part. -/
import Derived.Test.YtpnghfghdbijlaaGreatDoorM06
open Go.Proofs.Tryz
namespace Go.Proofs.YtpnghfghdbijlaaGreatDoor
open Go.RowKit
set_option linter.unusedVariables false
set_option linter.unusedSimpArgs false
set_option maxRecDepth 100000
set_option maxHeartbeats 40000000
theorem amu {f:Nat} {M:MS} {i:Nat} (h:¬i<(zg M.T).length):aai f M i=M:=by
 cases f with
 | zero=>rfl
 | succ f=>rw[aai,if_neg h]
theorem amv {p:Nat} {M:MS} {i:Nat} (h:i<(zg M.T).length) (hp:(zg M.T).length≤p):aai (p-i) M i=aai (p-(i+1)) (aby M i) (i+1):=by
 obtain⟨q,hq⟩:∃q,p-i=q+1:=⟨p-i-1,by omega⟩
 rw[hq,aai,if_pos h,show p-(i+1)=q by omega]
theorem MvPost.refl {B:Nat} {w:World} {m:Mb} {M:MS} {cs:Array Value} {T:TypeId} {vto vtf:Value} (h:MvAt B w m M cs T vto vtf):MvPost B m M T vto vtf w w :=
 ⟨FrM.of_below (Below.refl _ _) (hlt h.tpart.blk),cs,vto,vtf,h,Or.inl rfl,Or.inl rfl⟩
theorem afl {B:Nat} {w:World} {m:Mb} {M:MS} {cs:Array Value} {T:TypeId} {vto vtf:Value} (h:MvAt B w m M cs T vto vtf) (hc:Cap M) {k0 s:Nat} (hi:MInv k0 s M) :
  Calls prog 54 #[.pointer (some ⟨m.mv,0,none⟩),.int .i64 s] w fun e w'=>e=.returned (.tuple #[])∧MvPost B m (aai (pot M-s) M s) T vto vtf w w':=by
 have H:=zc h
 have HC:=zc hc
 have HI:=zc hi
 have hpo:=hc.po
 clear h hc hi
 go_enter func54,ntmps54
 go_wp2_with fail
 go_loopg [1] (pot M-s) (fun gg iv wr=>∃(i:Nat) (Mi:MS),gg=pot M-i∧iv=.int .i64 i∧Hid (MInv k0 i Mi∧Cap Mi∧pot Mi=pot M∧aai (pot M-i) Mi i=aai (pot M-s) M s∧MvPost B m Mi T vto vtf w wr))
 case atStart=>exact⟨s,M,rfl,rfl,za HI,za HC,rfl,rfl,MvPost.refl (za H)⟩
 case round =>
  obtain⟨i,Mi,rfl,rfl,HY⟩:=hrel
  obtain⟨hI,hC,hP,hR,hF,cs',vto',vtf',hM,e1,e2⟩:=za HY
  have m0:=hM.m0
  obtain⟨gv,cv,hvf⟩:=aaa hM.tpart.flds
  have c2:wr.cell? ⟨m.tb,m.tp+2,none⟩=some (.slice gv (zg Mi.T).length cv):=by rw[←hvf];exact(zd hM.tpart.blk _).trans hM.tpart.e2
  have hle:(zg Mi.T).length≤pot M:=by rw[←hP];unfold pot;omega
  have HM:=zc hM
  have HCi:=zc hC
  have HIi:=zc hI
  have HPi:=zc hP
  have HRi:=zc hR
  have HF:=zc hF
  have HE1:=zc e1
  have HE2:=zc e2
  by_cases hlt:i<(zg Mi.T).length
  ·have hlt2:(i:Int)<((zg Mi.T).length:Int):=by omega
   have HLT:=zc hlt
   clear hI hC hP hR hF hM e1 e2 HY hvf
   go_wp2_with fail
   refine(ajv (za HM) (za HCi) (za HLT)).mono ?_
   rintro e w1 ⟨rfl,hp⟩
   have HP1:=zc hp
   clear hp m0 c2
   go_wp2_with fail
   go_roundg (pot M-(i+1))
   case measure=>omega
   case rel=>exact⟨i+1,aby Mi i,rfl,by go_num,((za HIi).field (za HLT)).1,(za HCi).field (za HIi) i,(afu (za HIi) i).trans (za HPi),(amv (za HLT) hle).symm.trans (za HRi),MvPost.trans (za HF) (za HE1) (za HE2) (za HP1)⟩
  ·have hlt2:decide ((i:Int)<((zg Mi.T).length:Int))=false:=by simp;omega
   have HLT:=zc hlt
   clear hI hC hP hR hF hM e1 e2 HY hvf hlt
   go_wp2_with fail
   go_end0
   refine⟨rfl,?_⟩
   rw[←za HRi,amu (za HLT)]
   exact⟨za HF,cs',vto',vtf',za HM,za HE1,za HE2⟩
structure RtAt (w:World) (g:Option Addr) (l:List (Option (Nat×Nat×HV))):Prop where
 at':∀k r,l[k]?=some r→∃gb go,g=some ⟨gb,go,none⟩∧w.cell? ⟨gb,go+k,none⟩=some (.pointer (r.map fun z=>⟨z.1,z.2.1,none⟩))
 val:∀rb ro v,some (rb,ro,v)∈l→w.cell? ⟨rb,ro,none⟩=some (.int .i64 v.kind)∧w.cell? ⟨rb,ro+1,none⟩=some (.int .i64 v.n)∧w.cell? ⟨rb,ro+2,none⟩=some (.string v.s)
def Out (m:Mb) (vto vtf:Value) (w:World) (k:Nat):Prop:=k<w.heap.size∧k≠m.tb∧(∀b∈m.ls,b.wb≠k)∧vto.ownBlock≠some k∧vtf.ownBlock≠some k
structure RtOut (m:Mb) (vto vtf:Value) (w:World) (g:Option Addr) (l:List (Option (Nat×Nat×HV))):Prop where
 g':∀gb go,g=some ⟨gb,go,none⟩→0<l.length→Out m vto vtf w gb
 v':∀rb ro v,some (rb,ro,v)∈l→Out m vto vtf w rb
theorem Out.same {m:Mb} {vto vtf:Value} {w w':World} {k:Nat} (h:Out m vto vtf w k) (hF:FrM m vto vtf w w'):w'.heap[k]?=w.heap[k]?:=hF.block k h.1 h.2.1 h.2.2.1 h.2.2.2.1 h.2.2.2.2
theorem RtAt.same {m:Mb} {vto vtf:Value} {w w':World} {g:Option Addr} {l:List (Option (Nat×Nat×HV))} (h:RtAt w g l) (ho:RtOut m vto vtf w g l) (hF:FrM m vto vtf w w'):RtAt w' g l:=by
 refine⟨fun k r hk=>?_,fun rb ro v hv=>?_⟩
 ·obtain⟨gb,go,e,hc⟩:=h.at' k r hk
  exact⟨gb,go,e,(World.cell?_of_block ((ho.g' gb go e (by have:=(List.getElem?_eq_some_iff.1 hk).1;omega)).same hF)).trans hc⟩
 ·have hs:=(ho.v' rb ro v hv).same hF
  obtain⟨a,b,c⟩:=h.val rb ro v hv
  exact⟨(World.cell?_of_block hs).trans a,(World.cell?_of_block hs).trans b,(World.cell?_of_block hs).trans c⟩
def zy (l:List (Option (Nat×Nat×HV))):List HV:=l.filterMap fun r=>r.map fun z=>z.2.2
theorem ah6 {l:List (Option (Nat×Nat×HV))} {k:Nat} {r:Option (Nat×Nat×HV)} (h:l[k]?=some r):zy (l.take (k+1))=zy (l.take k)++(r.map fun z=>z.2.2).toList:=by
 unfold zy
 rw[List.take_add_one,h,List.filterMap_append]
 cases r <;> rfl
theorem alu (M:MS) (l:List HV) (v:HV):zv M (l++[v])=(aaj (zv M l) v).1:=by simp[zv]
theorem ae1 {B:Nat} {w:World} {m:Mb} {M:MS} {cs:Array Value} {T:TypeId} {vto vtf:Value} (h:MvAt B w m M cs T vto vtf) (hc:Cap M) {k0 s:Nat} (hi:MInv k0 s M) {g:Option Addr} {l:List (Option (Nat×Nat×HV))} (hr:RtAt w g l) (ho:RtOut m vto vtf w g l) (hn:∀rb ro v,some (rb,ro,v)∈l→I64 v.n) (hl:l.length≤1000000000) (cap:Nat) :
  Calls prog 53 #[.pointer (some ⟨m.mv,0,none⟩),.slice g l.length cap] w fun e w'=>e=.returned (.tuple #[])∧MvPost B m (zv M (zy l)) T vto vtf w w':=by
 have H:=zc h
 have HC:=zc hc
 have HI:=zc hi
 have HRT:=zc hr
 have HO:=zc ho
 have HN:=zc hn
 clear h hc hi hr ho hn
 go_enter func53,ntmps53
 go_wp2_with fail
 go_loopg [8] l.length (fun gg iv wr=>∃(k:Nat) (Mk:MS),k≤l.length∧gg=l.length-k∧iv=.int .i64 k∧Hid (Mk=zv M (zy (l.take k))∧MInv k0 s Mk∧Cap Mk∧MvPost B m Mk T vto vtf w wr))
 case atStart=>exact⟨0,M,Nat.zero_le _,rfl,rfl,rfl,za HI,za HC,MvPost.refl (za H)⟩
 case round =>
  obtain⟨k,Mk,hk,rfl,rfl,HY⟩:=hrel
  obtain⟨hE,hI,hC,hF,cs',vto',vtf',hM,e1,e2⟩:=za HY
  have HM:=zc hM
  have HCk:=zc hC
  have HIk:=zc hI
  have HEk:=zc hE
  have HF:=zc hF
  have HE1:=zc e1
  have HE2:=zc e2
  by_cases hlt:k<l.length
  ·have hx:l[k]?=some (l[k]'hlt):=List.getElem?_eq_getElem _
   generalize (l[k]'hlt)=r at *
   have hrt:=(za HRT).same (za HO) hF
   obtain⟨gb,go,rfl,c0⟩:=hrt.at' k r hx
   have hk2:(k:Int)<(l.length:Int):=by omega
   have HX:=zc hx
   cases r with
   | none =>
    clear hE hI hC hF hM e1 e2 hrt hx
    go_wp2_with fail
    go_roundg (l.length-(k+1))
    case measure=>omega
    case rel=>exact⟨k+1,Mk,by omega,rfl,by go_num,by rw[za HEk,ah6 (za HX)];simp,za HIk,za HCk,za HF,cs',vto',vtf',za HM,za HE1,za HE2⟩
   | some z =>
    obtain⟨rb,ro,v⟩:=z
    have hmem:some (rb,ro,v)∈l:=List.mem_of_getElem? hx
    obtain⟨v0,v1,v2⟩:=hrt.val rb ro v hmem
    have hnv:=za HN rb ro v hmem
    have HNV:=zc hnv
    have c0':wr.cell? ⟨gb,go+k,none⟩=some (.pointer (some ⟨rb,ro,none⟩)):=c0
    clear hE hI hC hF hM e1 e2 hrt hx c0 hmem hnv
    go_wp2_with fail
    refine(ahc (za HM) (za HCk) v (za HNV)).mono ?_
    rintro e w1 ⟨rfl,hp⟩
    have HP1:=zc hp
    clear hp v0 v1 v2 c0'
    go_wp2_with fail
    go_roundg (l.length-(k+1))
    case measure=>omega
    case rel=>exact⟨k+1,(aaj Mk v).1,by omega,rfl,by go_num,by rw[za HEk,ah6 (za HX)];exact(alu _ _ _).symm,((za HIk).move v).1,((za HCk).move (za HIk) (za HNV)).1,MvPost.trans (za HF) (za HE1) (za HE2) (za HP1)⟩
  ·obtain rfl:k=l.length:=by omega
   have hff:decide ((l.length:Int)<(l.length:Int))=false:=by simp
   clear hlt hk hE hI hC hF hM e1 e2
   go_wp2_with fail
   go_end0
   refine⟨rfl,?_⟩
   have:=za HEk
   rw[List.take_length] at this
   rw[←this]
   exact⟨za HF,cs',vto',vtf',za HM,za HE1,za HE2⟩
theorem aku (n:Nat):madeCells #[Value.int .i64 0] n=((List.replicate n (0:Int)).map iv).toArray:=by
 apply Array.ext_getElem?
 intro j
 simp only[madeCells,iv,List.map_replicate,List.getElem?_toArray,List.getElem?_replicate]
 by_cases hj:j<n
 ·simp[hj,Nat.mod_one]
 ·simp[hj]
theorem aei:(prog.info? 3).map (fun i=>(i.zero,i.size,i.bytes))=some (some (.int .i64 0),1,8):=by kernel_rfl
theorem rep_map (n:Nat):((List.replicate n (0:Int)).map iv).toArray=Array.replicate n (iv 0):=by simp
def ab9 (w:World) (pb po n:Nat):World:=(w.alloc (.cells ((List.replicate n (0:Int)).map iv).toArray 3)).alloc (.cells #[.pointer (some ⟨pb,po,none⟩),.slice (some ⟨w.heap.size,0,none⟩) n n] 120)
theorem af9 (w:World) (pb po n:Nat):Below w.heap.size w (ab9 w pb po n):=((Below.refl _ _).alloc (Nat.le_refl _) _).alloc (by simp) _
theorem agu (w:World) (pb po n:Nat):(ab9 w pb po n).heap.size=w.heap.size+2:=by simp[ab9]
theorem akv (w:World) (pb po n:Nat):(ab9 w pb po n).heap[w.heap.size]?=some (.cells ((List.replicate n (0:Int)).map iv).toArray 3 (0,0)):=(Below.heap_alloc _ _ _ (by simp)).trans (aan _ _)
theorem ahu (w:World) (pb po n:Nat):(ab9 w pb po n).heap[w.heap.size+1]?=some (.cells #[.pointer (some ⟨pb,po,none⟩),.slice (some ⟨w.heap.size,0,none⟩) n n] 120 (0,0)):=afk _ _ (by simp)
theorem ahd {B:Nat} {w:World} {pb po:Nat} {l:List HO} {vo vf:Value} (h:PtAt B w pb po l vo vf) (hl:l.length≤10000000) :
  Calls prog 50 #[.pointer (some ⟨pb,po,none⟩)] w fun e w'=>e=.returned (.pointer (some ⟨w.heap.size+1,0,none⟩))∧w'=ab9 w pb po l.length:=by
 have c1:=h.c1
 obtain⟨g,cap,hv⟩:=aaa h.objs
 rw[hv] at c1
 have hmk:=run_make_row' (P:=prog) 49 3 (.int .i64 0) 8 underlying49 aei rfl .i64 .i64 l.length (by omega) (by omega)
 rw[aku] at hmk
 clear h hv
 go_enter func50,ntmps50
 go_wp2_with fail
 go_ret
 exact⟨rfl,by unfold ab9;rw[rep_map]⟩
theorem apl {B:Nat} {w w':World} {pb po:Nat} {l:List HO} {vo vf:Value} {f:Int} (h:PtAt B w pb po l vo vf) (hf:w.cell? ⟨pb,po,none⟩=some (.int .i64 f)) (h0:0≤f) (h1:f+2*l.length≤4611686018427387904) (hb:Below (ab9 w pb po l.length).heap.size (ab9 w pb po l.length) w') :
  LvAt B w' ⟨w.heap.size+1,pb,po,w.heap.size,vo,vf⟩ ⟨f,l,List.replicate l.length 0⟩:=by
 have hk:=af9 w pb po l.length
 refine LvAt.keep ?_ hb
 exact⟨zd (ahu _ _ _ _) 0,zd (ahu _ _ _ _) 1,akv _ _ _ _,by simp,zj hk hf (ze hf),h.keep hk,h0,h1⟩
def ae2 (w:World) (tb tp lb n cap:Nat):World:=(w.alloc (.cells #[.slice (some ⟨lb,0,none⟩) n cap] 121)).alloc (.cells #[.pointer (some ⟨tb,tp,none⟩),.func (.func 62) #[] #[.pointer (some ⟨w.heap.size,0,none⟩)]] 124)
theorem adn (w:World) (tb tp lb n cap:Nat):Below w.heap.size w (ae2 w tb tp lb n cap):=((Below.refl _ _).alloc (Nat.le_refl _) _).alloc (by simp) _
theorem ajw (w:World) (tb tp lb n cap:Nat):(ae2 w tb tp lb n cap).heap[w.heap.size]?=some (.cells #[.slice (some ⟨lb,0,none⟩) n cap] 121 (0,0)):=(Below.heap_alloc _ _ _ (by simp)).trans (aan _ _)
theorem ajx (w:World) (tb tp lb n cap:Nat):(ae2 w tb tp lb n cap).heap[w.heap.size+1]?=some (.cells #[.pointer (some ⟨tb,tp,none⟩),.func (.func 62) #[] #[.pointer (some ⟨w.heap.size,0,none⟩)]] 124 (0,0)):=afk _ _ (by simp)
theorem ado (w:World) (tb tp lb n cap:Nat) :
  Calls prog 51 #[.pointer (some ⟨tb,tp,none⟩),.slice (some ⟨lb,0,none⟩) n cap] w fun e w'=>e=.returned (.pointer (some ⟨w.heap.size+1,0,none⟩))∧w'=ae2 w tb tp lb n cap:=by
 go_enter func51,ntmps51
 go_wp2_with fail
 go_ret
 exact⟨rfl,rfl⟩
theorem aca {B:Nat} {w:World} {pb po:Nat} {l:List HO} {vo vf:Value} {f:Int} (h:PtAt B w pb po l vo vf) (hf:w.cell? ⟨pb,po,none⟩=some (.int .i64 f)) (h0:0≤f) (h1:f+2*l.length≤4611686018427387904) :
  Calls prog 56 #[.pointer (some ⟨pb,po,none⟩)] w fun e w'=>e=.returned (.agg #[.int .i64 (f+2*l.length),.slice none 0 0,.slice none 0 0])∧Below w.heap.size w w':=by
 obtain⟨w0,hw0⟩:∃w0,w.alloc (.cells #[.int .i64 0,.slice none 0 0,.slice none 0 0] 47)=w0:=⟨_,rfl⟩
 have hb0:Below w.heap.size w w0:=by rw[←hw0];exact(Below.refl _ _).alloc (Nat.le_refl _) _
 have hk0:w0.heap[w.heap.size]?=some (.cells #[.int .i64 0,.slice none 0 0,.slice none 0 0] 47 (0,0)):=by rw[←hw0];exact aan _ _
 have c1:=zj hb0 h.c1 (ze h.c1)
 have HF:=zc (zj hb0 hf (ze hf))
 obtain⟨g,cap,hv⟩:=aaa h.objs
 rw[hv] at c1
 have HB0:=zc hb0
 have HK0:=zc hk0
 have H0:=zc h0
 have H1:=zc h1
 clear h hf hv hb0 hk0 h0 h1
 go_enter func56,ntmps56
 go_wp2_with fail
 refine(adv (za HF) (za H0) (za H1)).mono ?_
 rintro e w1 ⟨rfl,rfl⟩
 have r0:=zd (za HK0) 0
 have r1:=fun u=>aas (v:=u) (i:=0) (zd (za HK0) 1) (by decide)
 have r2:=fun u u'=>aap (v:=u) (v':=u') (i:=0) (i':=1) (zd (za HK0) 2) (by decide) (by decide)
 have z0:=zt (za HK0) 0
 have z1:=zt (za HK0) 1
 have z2:=zt (za HK0) 2
 clear hw0
 go_wp2_with fail
 have hk3:=set3 (za HK0) (.int .i64 (f+2*(l.length:Int))) (.slice none 0 0) (.slice none 0 0)
 have f0:=zd hk3 0
 have f1:=zd hk3 1
 have f2:=zd hk3 2
 refine bodyPost_ret (v:=.agg #[.int .i64 (f+2*(l.length:Int)),.slice none 0 0,.slice none 0 0]) (by simp[results,Tryz.results56,f0,f1,f2,go_sem]) rfl ?_
 exact⟨rfl,(((za HB0).setCell (Nat.le_refl _) _).setCell (Nat.le_refl _) _).setCell (Nat.le_refl _) _⟩
section
open Go.RowKit Go.Maps
theorem ajy {M:MS} {v:HV} (h:aa0 M.L v):aaj M v=(M,phi M.L v):=by
 unfold aaj phi
 split
 ·rfl
 ·rename_i hk
  have hk4:v.kind=4:=by simpa using hk
  cases hq:aab M.L 0 v.n with
  | none=>rfl
  | some q =>
   have:=h hk4 q hq
   simp only[this,if_false,ne_eq,not_false_eq_true,if_true]
def agv (M:MS):Prop:=∀t:Nat,t<M.T.length→aab M.L 0 (M.ft+2*t)=none
theorem phi_phi {k0 s:Nat} {M:MS} (hi:MInv k0 s M) (ho:agv M) (v:HV):phi M.L (phi M.L v)=phi M.L v∧(aa0 M.L v→aa0 M.L (phi M.L v)):=by
 by_cases hk:v.kind≠4
 ·have e:phi M.L v=v:=by unfold phi;rw[if_pos hk]
  rw[e]
  exact⟨e,id⟩
 ·cases hq:aab M.L 0 v.n with
  | none =>
   have e:phi M.L v=v:=by unfold phi;rw[if_neg hk];simp only[hq]
   rw[e]
   exact⟨e,id⟩
  | some q =>
   by_cases hg:aaf M.L q=0
   ·have e:phi M.L v=v:=by unfold phi;rw[if_neg hk];simp only[hq,if_pos hg]
    rw[e]
    exact⟨e,id⟩
   ·have e:phi M.L v={ v with n:=aaf M.L q }:=by unfold phi;rw[if_neg hk];simp only[hq,if_neg hg]
    obtain⟨t,t1,t2,t3⟩:=hi.conv q hg
    have hl:aab M.L 0 (aaf M.L q)=none:=by rw[t3];exact ho t t2
    rw[e]
    refine⟨?_,fun _ _ q' hq'=>?_⟩
    ·unfold phi
     rw[if_neg hk]
     simp only[hl]
    ·have hq':aab M.L 0 (aaf M.L q)=some q':=hq'
     rw[hl] at hq'
     cases hq'
structure RtFit (m:Mb) (vto vtf:Value) (w:World) (g:Option Addr) (l:List (Option (Nat×Nat×HV))):Prop where
 out:RtOut m vto vtf w g l
 ty:∀rb ro v,some (rb,ro,v)∈l→Typ w rb 69
 bf:∀b∈m.ls,∀rb ro v,some (rb,ro,v)∈l→b.vf.ownBlock≠some rb
 gt:∀gb go,g=some ⟨gb,go,none⟩→0<l.length→Typ w gb 85
 ap:∀rb ro v ro' v',some (rb,ro,v)∈l→some (rb,ro',v')∈l→ro=ro'∨ro+2<ro'∨ro'+2<ro
 fz:∀rb ro v,some (rb,ro,v)∈l→∃cs,w.heap[rb]?=some (.cells cs 69 (0,0))
def abi (M:MS) (l:List (Option (Nat×Nat×HV))) (k:Nat) (rb ro:Nat) (v:HV):HV:=if (l.take k).any (fun r=>match r with | some z=>z.1==rb&&z.2.1==ro | none=>false) then phi M.L v else v
def abg (D:DataW Unit) (o:HO) (a:Int):DataW Unit:=if a=0 then D.del (.int .i64 o.id) else if 0<o.id then D.put (.int .i64 o.id) (.lit (.int .i64 a)) else D
def age (D:DataW Unit) (p:PL):DataW Unit:=(p.objs.zip p.went).foldl (fun D z=>abg D z.1 z.2) D
def abb (D:DataW Unit) (L:List PL):DataW Unit:=L.foldl age D
structure FrS (R:Nat→Prop) (m:Mb) (vto vtf:Value) (w w':World):Prop where
 os:w'.os=w.os
 tape:w'.tape=w.tape
 output:w'.output=w.output
 size:w.heap.size≤w'.heap.size
 block:∀k,Out m vto vtf w k→¬R k→w'.heap[k]?=w.heap[k]?
 head:¬R m.tb→∀c,(c<m.tp+1∨m.tp+2<c)→w'.cell? ⟨m.tb,c,none⟩=w.cell? ⟨m.tb,c,none⟩
 cl:∀k,Out m vto vtf w k→∀cs t fr,w.heap[k]?=some (.cells cs t fr)→∃cs',w'.heap[k]?=some (.cells cs' t fr)∧cs'.size=cs.size
theorem FrS.refl (R:Nat→Prop) (m:Mb) (vto vtf:Value) (w:World):FrS R m vto vtf w w:=⟨rfl,rfl,rfl,Nat.le_refl _,fun _ _ _=>rfl,fun _ _ _=>rfl,fun _ _ cs _ _ h=>⟨cs,h,rfl⟩⟩
theorem Out.later {m:Mb} {vto vtf vto' vtf':Value} {w w':World} {k:Nat} (h:Out m vto vtf w k) (hs:w.heap.size≤w'.heap.size) (h1:vto'.ownBlock=vto.ownBlock∨∀j,vto'.ownBlock=some j→w.heap.size≤j) (h2:vtf'.ownBlock=vtf.ownBlock∨∀j,vtf'.ownBlock=some j→w.heap.size≤j):Out m vto' vtf' w' k:=by
 obtain⟨a,b,c,d,e⟩:=h
 refine⟨Nat.lt_of_lt_of_le a hs,b,c,?_,?_⟩
 ·rcases h1 with q | q
  ·rw[q];exact d
  ·intro z;have:=q k z;omega
 ·rcases h2 with q | q
  ·rw[q];exact e
  ·intro z;have:=q k z;omega
theorem FrS.move {R:Nat→Prop} {m:Mb} {vto vtf vto' vtf':Value} {w w' w'':World} (h:FrS R m vto vtf w w') (k:FrM m vto' vtf' w' w'') (h1:vto'.ownBlock=vto.ownBlock∨∀j,vto'.ownBlock=some j→w.heap.size≤j) (h2:vtf'.ownBlock=vtf.ownBlock∨∀j,vtf'.ownBlock=some j→w.heap.size≤j):FrS R m vto vtf w w'' :=
 ⟨k.os.trans h.os,k.tape.trans h.tape,k.output.trans h.output,Nat.le_trans h.size k.size,fun j hj hr=>((hj.later h.size h1 h2).same k).trans (h.block j hj hr),fun hr c hc=>(k.head c hc).trans (h.head hr c hc),fun j hj cs t fr hc=>by
  obtain⟨c',e1,e2⟩:=h.cl j hj cs t fr hc
  exact⟨c',((hj.later h.size h1 h2).same k).trans e1,e2⟩⟩
theorem FrS.set3 {R:Nat→Prop} {m:Mb} {vto vtf:Value} {w w':World} (h:FrS R m vto vtf w w') {r a b c:Nat} (hr:R r) (x y z:Value):FrS R m vto vtf w (((w'.setCell ⟨r,a,none⟩ x).setCell ⟨r,b,none⟩ y).setCell ⟨r,c,none⟩ z):=by
 have oth:∀k,k≠r→(((w'.setCell ⟨r,a,none⟩ x).setCell ⟨r,b,none⟩ y).setCell ⟨r,c,none⟩ z).heap[k]?=w'.heap[k]?:=fun k hk=>by rw[zo _ hk,zo _ hk,zo _ hk]
 exact⟨h.os,h.tape,h.output,by simpa [World.setCell] using h.size,fun k hk hn=>(oth k (fun e=>hn (e ▸ hr))).trans (h.block k hk hn),fun hn k hk=>(World.cell?_of_block (oth m.tb (fun e=>hn (by rw[e];exact hr)))).trans (h.head hn k hk),fun k hk cs t fr hc=>by
  obtain⟨c',e1,e2⟩:=h.cl k hk cs t fr hc
  by_cases e:k=r
  ·subst e
   exact⟨_,aad (aad (aad e1 a x) b y) c z,by simpa using e2⟩
  ·exact⟨c',(oth k e).trans e1,e2⟩⟩
def acr (l:List (Option (Nat×Nat×HV))) (k:Nat):Prop:=∃ro v,some (k,ro,v)∈l
structure RtNow (M:MS) (w:World) (g:Option Addr) (l:List (Option (Nat×Nat×HV))) (k:Nat):Prop where
 at':∀k r,l[k]?=some r→∃gb go,g=some ⟨gb,go,none⟩∧w.cell? ⟨gb,go+k,none⟩=some (.pointer (r.map fun z=>⟨z.1,z.2.1,none⟩))
 val:∀rb ro v,some (rb,ro,v)∈l→w.cell? ⟨rb,ro,none⟩=some (.int .i64 (abi M l k rb ro v).kind)∧w.cell? ⟨rb,ro+1,none⟩=some (.int .i64 (abi M l k rb ro v).n)∧w.cell? ⟨rb,ro+2,none⟩=some (.string (abi M l k rb ro v).s)
 fz:∀rb ro v,some (rb,ro,v)∈l→∃cs,w.heap[rb]?=some (.cells cs 69 (0,0))
theorem apm (M:MS) (l:List (Option (Nat×Nat×HV))) (rb ro:Nat) (v:HV):abi M l 0 rb ro v=v:=by simp[abi]
theorem now_or (M:MS) (l:List (Option (Nat×Nat×HV))) (k rb ro:Nat) (v:HV):abi M l k rb ro v=v∨abi M l k rb ro v=phi M.L v:=by
 unfold abi
 split
 ·exact Or.inr rfl
 ·exact Or.inl rfl
theorem apn (M:MS) {l:List (Option (Nat×Nat×HV))} {k:Nat} (h:l[k]?=some none) (rb ro:Nat) (v:HV):abi M l (k+1) rb ro v=abi M l k rb ro v:=by
 unfold abi
 rw[List.take_add_one,h]
 simp
theorem apo (M:MS) {l:List (Option (Nat×Nat×HV))} {k rb ro:Nat} {v:HV} (h:l[k]?=some (some (rb,ro,v))) (u:HV):abi M l (k+1) rb ro u=phi M.L u:=by
 unfold abi
 rw[List.take_add_one,h]
 simp
theorem an1 (M:MS) {l:List (Option (Nat×Nat×HV))} {k rb ro rb' ro':Nat} {v:HV} (h:l[k]?=some (some (rb,ro,v))) (hne:¬(rb=rb'∧ro=ro')) (u:HV):abi M l (k+1) rb' ro' u=abi M l k rb' ro' u:=by
 unfold abi
 rw[List.take_add_one,h]
 have:(rb==rb'&&ro==ro')=false:=by
  rw[Bool.and_eq_false_iff]
  by_cases e:rb=rb'
  ·exact Or.inr (by simpa using fun q=>hne ⟨e,q⟩)
  ·exact Or.inl (by simpa using e)
 simp[this]
theorem now_all (M:MS) {l:List (Option (Nat×Nat×HV))} {rb ro:Nat} {v:HV} (h:some (rb,ro,v)∈l):abi M l l.length rb ro v=phi M.L v:=by
 unfold abi
 rw[List.take_length,if_pos]
 rw[List.any_eq_true]
 exact⟨_,h,by simp⟩
theorem RtNow.step {M:MS} {w:World} {g:Option Addr} {l:List (Option (Nat×Nat×HV))} {k rb ro:Nat} {v:HV} (h:RtNow M w g l k) (hk:l[k]?=some (some (rb,ro,v))) (hap:∀rb ro v ro' v',some (rb,ro,v)∈l→some (rb,ro',v')∈l→ro=ro'∨ro+2<ro'∨ro'+2<ro)
  (hgt:∀gb go,g=some ⟨gb,go,none⟩→gb≠rb) (hsame:∀v',some (rb,ro,v')∈l→phi M.L v'=phi M.L v) :
  RtNow M (((w.setCell ⟨rb,ro,none⟩ (.int .i64 (phi M.L v).kind)).setCell ⟨rb,ro+1,none⟩ (.int .i64 (phi M.L v).n)).setCell ⟨rb,ro+2,none⟩ (.string (phi M.L v).s)) g l (k+1):=by
 have hmem:=List.mem_of_getElem? hk
 have oth:∀k,k≠rb→(((w.setCell ⟨rb,ro,none⟩ (.int .i64 (phi M.L v).kind)).setCell ⟨rb,ro+1,none⟩ (.int .i64 (phi M.L v).n)).setCell ⟨rb,ro+2,none⟩ (.string (phi M.L v).s)).heap[k]?=w.heap[k]?:=fun k hk=>by rw[zo _ hk,zo _ hk,zo _ hk]
 refine⟨fun j r hj=>?_,fun rb' ro' v' hv'=>?_,fun rb' ro' v' hv'=>?_⟩
 ·obtain⟨gb,go,e,hc⟩:=h.at' j r hj
  exact⟨gb,go,e,(World.cell?_of_block (oth gb (hgt gb go e))).trans hc⟩
 ·obtain⟨a0,a1,a2⟩:=h.val rb ro v hmem
  obtain⟨b0,b1,b2⟩:=h.val rb' ro' v' hv'
  by_cases e:rb=rb'∧ro=ro'
  ·obtain⟨rfl,rfl⟩:=e
   rw[apo M hk,hsame v' hv']
   refine⟨?_,?_,?_⟩
   ·exact aap (World.cell?_setCell_same _ _ _ a0) (by omega) (by omega)
   ·exact aas (World.cell?_setCell_same _ _ _ (aas a1 (by omega))) (by omega)
   ·exact World.cell?_setCell_same _ _ _ (aap a2 (by omega) (by omega))
  ·rw[an1 M hk e]
   by_cases er:rb'=rb
   ·subst er
    have:=hap rb' ro v ro' v' hmem hv'
    have hne:ro≠ro':=fun q=>e ⟨rfl,q⟩
    refine⟨?_,?_,?_⟩
    ·exact aas (aap b0 (by omega) (by omega)) (by omega)
    ·exact aas (aap b1 (by omega) (by omega)) (by omega)
    ·exact aas (aap b2 (by omega) (by omega)) (by omega)
   ·exact⟨(World.cell?_of_block (oth rb' er)).trans b0,(World.cell?_of_block (oth rb' er)).trans b1,(World.cell?_of_block (oth rb' er)).trans b2⟩
 ·obtain⟨cs,hc⟩:=h.fz rb' ro' v' hv'
  by_cases er:rb'=rb
  ·subst er
   exact⟨_,aad (aad (aad hc _ _) _ _) _ _⟩
  ·exact⟨cs,(oth rb' er).trans hc⟩
end
end Go.Proofs.YtpnghfghdbijlaaGreatDoor
