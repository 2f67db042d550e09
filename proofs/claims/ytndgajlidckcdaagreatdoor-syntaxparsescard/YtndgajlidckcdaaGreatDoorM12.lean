/- A part. -/
import Derived.Test.YtndgajlidckcdaaGreatDoorM11
open Go.Proofs.Tryz
namespace Go.Proofs.YtndgajlidckcdaaGreatDoor
open Go.RowKit
set_option linter.unusedVariables false
set_option linter.unusedSimpArgs false
set_option maxRecDepth 100000
set_option maxHeartbeats 8000000
structure NmOk (s:ByteArray):Prop where
 le:s.size≤16
 pos:0<s.size
 hd:lt (zo s 0)=true
 all:∀i,i<s.size→nb (zo s i)=true
 word:isW s=false
structure TokOk (S:LS):Prop where
 nm:S.kd=2→NmOk S.tx
 nt:S.kd≠2→S.kd≠4→S.tx=zc
 st:S.kd=4→S.tx.size≤300
 nn:S.kd≠3→S.nn=0
 nu:S.kd=3→∃u:Nat,u≤9223372036854775808∧S.nn=wrap64 u
theorem avk (s:ByteArray) (B:Int→Bool):∀(f p i:Nat),p≤i→i<ab1 s B f p→B (zo s i)=true
 | 0,p,i,h1,h2=>by rw[ab1] at h2;omega
 | f+1,p,i,h1,h2=>by
  rw[ab1] at h2
  split at h2
  ·rename_i hp
   split at h2
   ·rename_i hb
    rcases Nat.lt_or_ge p i with h | h
    ·exact avk s B f (p+1) i h h2
    ·obtain rfl:p=i:=by omega
     rw[←aa0 hp]
     exact hb
   ·omega
  ·omega
theorem azb (s:ByteArray) (B:Int→Bool):∀(f p:Nat),p≤s.size→ab1 s B f p≤s.size
 | 0,p,h=>h
 | f+1,p,h=>by
  rw[ab1]
  split
  ·split
   ·exact azb s B f (p+1) (by omega)
   ·exact h
  ·exact h
theorem am8 {s:ByteArray} {a b i:Nat} (hb:b≤s.size) (hi:i<b-a):zo (s.extract a b) i=zo s (a+i):=by
 have h1:i<(s.extract a b).size:=by rw[ByteArray.size_extract];omega
 have h2:a+i<s.size:=by omega
 rw[←aa0 h1,←aa0 h2,ByteArray.getElem_extract]
theorem word_ok {S:LS} (h:S.pl<S.src.size) (h1:lt (zo S.src S.pl)=true) (h2:isW (acd S)=false) (h3:(acd S).size≤16):NmOk (acd S):=by
 have e:acd S=S.src.extract S.pl (acu S):=rfl
 have hle:acu S≤S.src.size:=azb _ _ _ _ (by omega)
 have hlt:S.pl<acu S:=by
  show S.pl<ab1 S.src nb (S.src.size-S.pl) S.pl
  rw[ahe h (by rw[aa0 h];unfold nb;rw[h1];rfl)]
  have:∀f p,p≤ab1 S.src nb f p:=by
   intro f
   induction f with
   | zero=>intro p;exact Nat.le_refl _
   | succ f ih =>
    intro p
    rw[ab1]
    split
    ·split
     ·exact Nat.le_trans (Nat.le_succ p) (ih (p+1))
     ·exact Nat.le_refl _
    ·exact Nat.le_refl _
  exact this _ _
 have hsz:(acd S).size=acu S-S.pl:=by rw[e,ByteArray.size_extract];omega
 refine⟨h3,by omega,?_,fun i hi=>?_,h2⟩
 ·rw[e,am8 hle (by omega)]
  exact h1
 ·rw[e,am8 hle (by omega)]
  exact avk _ _ (S.src.size-S.pl) S.pl _ (by omega) (show S.pl+i<acu S by omega)
theorem bbz {S T:LS} (h0:S.tx=zc) (h1:S.nn=0) (h2:S.kd=0) (h:abe S=.inr T):TokOk T:=by
 have hz:TokOk S:=⟨fun e=>by omega,fun _ _=>h0,fun e=>by omega,fun _=>h1,fun e=>by omega⟩
 unfold abe at h
 split at h
 ·rename_i hp
  split at h
  ·rename_i hl
   split at h
   ·cases h
    exact⟨fun e=>(by cases e),fun _ _=>h0,fun e=>(by cases e),fun _=>h1,fun e=>(by cases e)⟩
   ·rename_i hw
    split at h
    ·cases h
    ·rename_i hs
     cases h
     exact⟨fun _=>word_ok hp hl (by simpa using hw) (by omega),fun e=>absurd rfl e,fun e=>(by cases e),fun _=>h1,fun e=>(by cases e)⟩
  ·split at h
   ·split at h
    ·rename_i u hu
     split at h
     ·cases h
     ·rename_i hg
      cases h
      refine⟨fun e=>(by cases e),fun _ _=>h0,fun e=>(by cases e),fun e=>absurd rfl e,fun _=>⟨u,?_,rfl⟩⟩
      simp only[decide_eq_true_eq] at hg
      omega
    ·cases h
   ·split at h
    ·split at h
     ·cases h
     ·split at h
      ·cases h
      ·rename_i hs
       cases h
       exact⟨fun e=>(by cases e),fun _ e=>absurd rfl e,fun _=>by show ByteArray.size _≤300;simp only[ByteArray.size,List.size_toArray];omega,fun _=>h1,fun e=>(by cases e)⟩
    ·split at h
     ·cases h
     ·cases h
      exact⟨fun e=>(by cases e),fun _ _=>h0,fun e=>(by cases e),fun _=>h1,fun e=>(by cases e)⟩
 ·cases h
  exact hz
theorem asb {S T:LS} (h:abv S=.inr T):TokOk T:=by
 unfold abv at h
 exact bbz rfl rfl rfl h
def vK (t:Tree):Prop:=18≤t.kind∧t.kind≤45
def sK (t:Tree):Prop:=8≤t.kind∧t.kind≤17∧t.kind≠15
def cls (k:Nat):Nat:=[15,14,8,0,2,2,9,10,3,16,6,7,11,3,12,13,3,3,0,0,0,0,0,0,0,1,1,1,2,0,3,4,4,4,4,4,4,4,4,4,3,3,3,5,4,5].getD k 15
def ahq:Nat→List Tree→Prop
 | 0,ks=>ks=[]
 | 1,ks=>ks.length≤8∧∀k∈ks,vK k
 | 2,ks=>∃p b,ks=[p,b]∧p.kind=6∧b.kind=7
 | 3,ks=>∃a,ks=[a]∧vK a
 | 4,ks=>∃a b,ks=[a,b]∧vK a∧vK b
 | 5,ks=>∃a l,ks=a :: l∧vK a∧l.length≤8∧∀k∈l,vK k
 | 6,ks=>∃c b,vK c∧b.kind=7∧(ks=[c,b]∨∃e,ks=[c,b,e]∧e.kind=7)
 | 7,ks=>∃c b,ks=[c,b]∧vK c∧b.kind=7
 | 8,ks=>∃fs ms,ks=fs++ms∧fs.length≤8∧(∀k∈fs,k.kind=3)∧∀k∈ms,k.kind=4
 | 9,ks=>ks.length≤8∧∀k∈ks,k.kind=24
 | 10,ks=>∀k∈ks,sK k
 | 11,ks=>ks=[]∨∃a,ks=[a]∧vK a
 | 12,ks=>∃b c,ks=[b,c]∧b.kind=7∧c.kind=15
 | 13,ks=>∃b,ks=[b]∧b.kind=7
 | 14,ks=>∀k∈ks,sK k∨k.kind=2∨k.kind=5
 | 16,ks=>∃a b,ks=[a,b]∧vK a∧vK b∧adm a.kind=true
 | _,_=>False
def ah9 (k:Nat):Bool:=k==2||k==3||k==4||k==5||k==8||k==15||k==24||k==25||k==26||k==42||k==43
structure TextOk (k:Nat) (tx un:ByteArray) (n:Int):Prop where
 nm:ah9 k=true→NmOk tx
 nt:ah9 k=false→k≠19→tx=zc
 st:k=19→tx.size≤300
 un:un=zc∨k=2∧NmOk un
 nn:k≠18→n=0
 nu:k=18→∃u:Nat,u≤9223372036854775808∧n=wrap64 u
def HereX (t:Tree):Prop:=TextOk t.kind t.text t.under t.n∧ahq (cls t.kind) t.kids
def WxN:Nat→Tree→Prop
 | 0,_=>True
 | f+1,t=>HereX t∧∀k∈t.kids,WxN f k
def Wx (t:Tree):Prop:=∀f,WxN f t
theorem Wx.here {t:Tree} (h:Wx t):HereX t:=(h 1).1
theorem Wx.kid {t k:Tree} (h:Wx t) (hk:k∈t.kids):Wx k:=fun f=>(h (f+1)).2 k hk
theorem Wx.mk {t:Tree} (h:HereX t) (hk:∀k∈t.kids,Wx k):Wx t
 | 0=>trivial
 | f+1=>⟨h,fun k hm=>hk k hm f⟩
abbrev AllX (Q:Tree→Prop) (l:List Tree):Prop:=∀t∈l,Wx t∧Q t
theorem AllX.wx {Q:Tree→Prop} {l:List Tree} (h:AllX Q l):∀t∈l,Wx t:=fun t ht=>(h t ht).1
theorem AllX.q {Q:Tree→Prop} {l:List Tree} (h:AllX Q l):∀t∈l,Q t:=fun t ht=>(h t ht).2
theorem AllX.nil {Q:Tree→Prop}:AllX Q []:=fun _ h=>by cases h
theorem AllX.snoc {Q:Tree→Prop} {l:List Tree} {t:Tree} (hl:AllX Q l) (h:Wx t∧Q t):AllX Q (l++[t]):=fun u hu=>by
 rcases List.mem_append.1 hu with q | q
 ·exact hl u q
 ·rw[List.mem_singleton.1 q];exact h
theorem Wx.bare {k ln:Nat} {ks:List Tree} (h0:(ah9 k||k==19||k==18)=false) (h:ahq (cls k) ks) (hk:∀t∈ks,Wx t):Wx (nd k ln ks):=by
 simp only[Bool.or_eq_false_iff,beq_eq_false_iff_ne] at h0
 exact Wx.mk ⟨⟨fun e=>(by rw[show (nd k ln ks).kind=k from rfl,h0.1.1] at e;cases e),fun _ _=>rfl,fun e=>absurd e h0.1.2,Or.inl rfl,fun _=>rfl,fun e=>absurd e h0.2⟩,h⟩ hk
theorem Wx.named {k ln:Nat} {s:ByteArray} {ks:List Tree} (h0:ah9 k=true) (h18:(k==18||k==19)=false) (hs:NmOk s) (h:ahq (cls k) ks) (hk:∀t∈ks,Wx t):Wx (ndT k s ln ks):=by
 simp only[Bool.or_eq_false_iff,beq_eq_false_iff_ne] at h18
 exact Wx.mk ⟨⟨fun _=>hs,fun e=>(by rw[show (ndT k s ln ks).kind=k from rfl,h0] at e;cases e),fun e=>absurd e h18.2,Or.inl rfl,fun _=>rfl,fun e=>absurd e h18.1⟩,h⟩ hk
def ade {α:Type} (Q:α→Prop) (r:Res α):Prop:=∀a S,r=.inr (a,S)→Q a∧TokOk S
section
variable {α β:Type} {Q:α→Prop} {R:β→Prop} {S:LS}
theorem xb {t:Res α} {k:α→LS→Res β} (h:ade Q t) (hk:∀a S,Q a→TokOk S→ade R (k a S)):ade R (bnd t k):=fun b S e=>by
 obtain⟨a,S1,h1,h2⟩:=ze e
 exact hk a S1 (h a S1 h1).1 (h a S1 h1).2 b S h2
theorem xi {a:α} (h:Q a) (hS:TokOk S):ade Q (.inr (a,S)):=fun _ _ e=>by cases e;exact⟨h,hS⟩
theorem xl {f:Int×Nat}:ade Q (.inl f:Res α):=fun _ _ e=>by cases e
theorem xf {c:Prop} [Decidable c] {a b:Res α} (ha:c→ade Q a) (hb:¬c→ade Q b):ade Q (if c then a else b):=by
 split
 ·rename_i h;exact ha h
 ·rename_i h;exact hb h
end
theorem am9 (S:LS):ade (fun _=>True) (zi S):=fun a T h=>⟨trivial,asb (arg h)⟩
section
variable {β:Type} {R:β→Prop} {S:LS}
theorem xt {k:Unit→LS→Res β} (hk:∀S1,TokOk S1→ade R (k () S1)):ade R (bnd (zi S) k):=xb (am9 S) fun _ S1 _ h=>hk S1 h
theorem want_x (m:ByteArray) (S:LS):ade (fun _=>True) (zj m S):=by
 unfold zj
 exact xf (fun _=>am9 S) (fun _=>xl)
theorem xw {m:ByteArray} {k:Unit→LS→Res β} (hk:∀S1,TokOk S1→ade R (k () S1)):ade R (bnd (zj m S) k):=xb (want_x m S) fun _ S1 _ h=>hk S1 h
theorem bb0 (m:ByteArray) {S:LS} (hS:TokOk S):ade (fun _=>True) (aab m S):=by
 unfold aab
 exact xf (fun _=>xb (am9 S) fun _ _ _ h=>xi trivial h) (fun _=>xi trivial hS)
theorem xa {m:ByteArray} {k:Bool→LS→Res β} (hS:TokOk S) (hk:∀b S1,TokOk S1→ade R (k b S1)):ade R (bnd (aab m S) k):=xb (bb0 m hS) fun b S1 _ h=>hk b S1 h
theorem xm {n:Nat} {k:Unit→LS→Res β} (hS:TokOk S) (hk:n≠8→∀S1,TokOk S1→ade R (k () S1)):ade R (bnd (aco n S) k):=xb (Q:=fun _=>n≠8) (fun a T h=>by
 have hn:n≠8:=fun e=>by rw[aco,if_pos e] at h;cases h
 rw[ahh h];exact⟨hn,hS⟩) fun _ S1 hn h=>hk hn S1 h
theorem asc {S:LS} (hS:TokOk S):ade NmOk (z6 S):=by
 unfold z6
 exact xf (fun h2=>xb (am9 S) fun _ _ _ h=>xi (hS.nm h2) h) (fun _=>xl)
theorem xn {k:ByteArray→LS→Res β} (hS:TokOk S) (hk:∀s S1,NmOk s→TokOk S1→ade R (k s S1)):ade R (bnd (z6 S) k):=xb (asc hS) fun s S1 h1 h=>hk s S1 h1 h
end
def Rdx (Q:Tree→Prop) (P:LS→Res Tree):Prop:=∀S,TokOk S→ade (fun t=>Wx t∧Q t) (P S)
theorem param_x:Rdx (fun t=>t.kind=24) ac1:=fun _ hS=>xn hS fun _ _ hs h1=>xi ⟨Wx.named rfl rfl hs rfl (fun _ h=>by cases h),rfl⟩ h1
theorem ana {Q:Tree→Prop} {shut:ByteArray} {P:LS→Res Tree} (hP:Rdx Q P):∀(f:Nat) (acc:List Tree) (S:LS),AllX Q acc→acc.length≤8→TokOk S→ade (fun l=>AllX Q l∧l.length≤8) (adx shut P f acc S)
 | 0,_,_,_,_,_=>xl
 | f+1,acc,S,h,hl,hS=>xm hS fun hn S0 h0=>xb (hP S0 h0) fun t S1 ht h1=>xa h1 fun b S2 h2=>xf (fun _=>xi ⟨h.snoc ht,by rw[List.length_append];show acc.length+1≤8;omega⟩ h2) (fun _=>xw fun S3 h3=>ana hP f _ S3 (h.snoc ht) (by rw[List.length_append];show acc.length+1≤8;omega) h3)
theorem ame {Q:Tree→Prop} {shut:ByteArray} {P:LS→Res Tree} (hP:Rdx Q P) (S:LS) (hS:TokOk S):ade (fun l=>AllX Q l∧l.length≤8) (abp shut P S):=xa hS fun _ S1 h1=>xf (fun _=>xi ⟨AllX.nil,Nat.zero_le _⟩ h1) (fun _=>ana hP 9 [] S1 AllX.nil (Nat.zero_le _) h1)
theorem bb2:Rdx (fun t=>t.kind=6) af0:=fun _ _=>xw fun S1 h1=>xb (ame param_x S1 h1) fun ks _ h h2=>xi ⟨Wx.bare (k:=6) rfl (show ks.length≤8∧∀k∈ks,k.kind=24 from ⟨h.2,h.1.q⟩) h.1.wx,rfl⟩ h2
theorem aos {Q:Tree→Prop} {shut:ByteArray} {P:LS→Res Tree} (hP:Rdx Q P):∀(f:Nat) (acc:List Tree) (S:LS) (fs:List Tree),(∃ms,acc=fs++ms∧AllX Q ms)→TokOk S→ade (fun l=>∃ms,l=fs++ms∧AllX Q ms) (abz shut P f acc S)
 | 0,_,_,_,_,_=>xl
 | f+1,acc,S,fs,h,hS=>xa hS fun _ S1 h1=>xf (fun _=>xi h h1) (fun _=>xb (hP S1 h1) fun t S2 ht h2=>aos hP f _ S2 fs (by
  obtain⟨ms,e,hm⟩:=h
  exact⟨ms++[t],by rw[e,List.append_assoc],hm.snoc ht⟩) h2)
structure LowX (L:Low):Prop where
 v:Rdx vK L.V
 s:Rdx sK L.S
 n:Rdx vK L.N
theorem agv {t:Tree} {k:Nat} (e:t.kind=k) (h:(Nat.ble 18 k&&Nat.ble k 45)=true):vK t:=by
 simp only[Bool.and_eq_true,Nat.ble_eq] at h
 exact⟨by rw[e];exact h.1,by rw[e];exact h.2⟩
theorem ahr {t:Tree} {k:Nat} (e:t.kind=k) (h:(Nat.ble 8 k&&Nat.ble k 17&&k !=15)=true):sK t:=by
 simp only[Bool.and_eq_true,Nat.ble_eq,bne_iff_ne] at h
 exact⟨by rw[e];exact h.1.1,by rw[e];exact h.1.2,by rw[e];exact h.2⟩
theorem aix {a:Tree} (h:Wx a):∀t∈[a],Wx t:=fun _ e=>by rw[List.mem_singleton.1 e];exact h
theorem ahs {a b:Tree} (ha:Wx a) (hb:Wx b):∀t∈[a,b],Wx t:=fun t e=>by
 rcases List.mem_cons.1 e with rfl | e
 ·exact ha
 ·rw[List.mem_singleton.1 e];exact hb
theorem asd {a:Tree} {l:List Tree} (ha:Wx a) (hl:∀t∈l,Wx t):∀t∈a :: l,Wx t:=fun t e=>by
 rcases List.mem_cons.1 e with rfl | e
 ·exact ha
 ·exact hl t e
theorem ajj {L:Low} (hL:LowX L):Rdx (fun t=>t.kind=7) (aaj L):=fun _ _=>xw fun S1 h1=>xb (aos hL.s 3002 [] S1 [] ⟨[],rfl,AllX.nil⟩ h1) fun ks _ h h2=>xi (by
 obtain⟨ms,e,hm⟩:=h
 rw[List.nil_append] at e
 subst e
 exact⟨Wx.bare (k:=7) rfl (show ∀k∈ks,sK k from hm.q) hm.wx,rfl⟩) h2
theorem ase {L:Low} (hL:LowX L) (S:LS) (hS:TokOk S):ade (fun pb=>(Wx pb.1∧pb.1.kind=6)∧Wx pb.2∧pb.2.kind=7) (adn L S):=xb (bb2 S hS) fun _ S1 hp h1=>xb (ajj hL S1 h1) fun _ _ hb h2=>xi ⟨hp,hb⟩ h2
theorem ak9 {L:Low} (hL:LowX L):Rdx vK (aa7 L):=fun _ _=>xw fun S1 h1=>xb (hL.v S1 h1) fun _ _ h _=>xw fun _ h3=>xi h h3
theorem asf {L:Low} (hL:LowX L) (S:LS) (hS:TokOk S):ade (fun l=>AllX vK l∧l.length≤8) (aek L S):=ame hL.v S hS
theorem bb3 {L:Low} (hL:LowX L):Rdx (fun t=>t.kind=4) (aa9 L):=fun _ hS=>xn hS fun _ S2 hs h2=>xb (ase hL S2 h2) fun pb _ h h3=>xi ⟨Wx.named (k:=4) rfl rfl hs ⟨pb.1,pb.2,rfl,h.1.2,h.2.2⟩ (ahs h.1.1 h.2.1),rfl⟩ h3
theorem fn_x {L:Low} (hL:LowX L):Rdx (fun t=>t.kind=5) (fnP L):=fun _ _=>xt fun _ h1=>xn h1 fun _ S2 hs h2=>xb (ase hL S2 h2) fun pb _ h h3=>xi ⟨Wx.named (k:=5) rfl rfl hs ⟨pb.1,pb.2,rfl,h.1.2,h.2.2⟩ (ahs h.1.1 h.2.1),rfl⟩ h3
theorem bb5 {L:Low} (hL:LowX L):Rdx vK (age L):=fun _ _=>xt fun S1 h1=>xb (ase hL S1 h1) fun pb _ h h3=>xi ⟨Wx.bare (k:=28) rfl ⟨pb.1,pb.2,rfl,h.1.2,h.2.2⟩ (ahs h.1.1 h.2.1),agv (k:=28) rfl rfl⟩ h3
theorem field_x (n:Nat):Rdx (fun t=>t.kind=3∧n≠8) (ady n):=fun _ _=>xt fun _ h1=>xm h1 fun hn _ h2=>xn h2 fun _ _ hs _=>xw fun _ h4=>xi ⟨Wx.named (k:=3) rfl rfl hs rfl (fun _ h=>by cases h),rfl,hn⟩ h4
theorem asg:∀(f:Nat) (acc:List Tree) (S:LS),AllX (fun t=>t.kind=3) acc→acc.length≤8→TokOk S→ade (fun l=>AllX (fun t=>t.kind=3) l∧l.length≤8) (adf f acc S)
 | 0,_,_,_,_,_=>xl
 | f+1,acc,S,h,hl,hS=>xf (fun _=>xb (field_x acc.length S hS) fun t S1 ht h1=>asg f _ S1 (h.snoc ⟨ht.1,ht.2.1⟩) (by have:=ht.2.2;rw[List.length_append];show acc.length+1≤8;omega) h1) (fun _=>xi ⟨h,hl⟩ hS)
theorem under_x (S:LS) (hS:TokOk S):ade (fun s=>s=zc∨NmOk s) (ac8 S):=xa hS fun _ S1 h1=>xf (fun _=>fun a T e=>⟨Or.inr (asc h1 a T e).1,(asc h1 a T e).2⟩) (fun _=>xi (Or.inl rfl) h1)
theorem aot {L:Low} (hL:LowX L):Rdx (fun t=>t.kind=2) (ace L):=fun _ _=>xt fun _ h1=>xn h1 fun s S2 hs h2=>xb (under_x S2 h2) fun u _ hu _=>xw fun S4 h4=>xb (asg 10 [] S4 AllX.nil (Nat.zero_le _) h4) fun fs S5 hf h5=>xb (aos (bb3 hL) 3002 fs S5 fs ⟨[],by rw[List.append_nil],AllX.nil⟩ h5) fun ks _ h h6=>xi (by
 obtain⟨ms,e,hm⟩:=h
 refine⟨Wx.mk ⟨⟨fun _=>hs,fun e=>(by cases e),fun e=>(by cases e),hu.imp (fun h=>h) (fun h=>⟨rfl,h⟩),fun _=>rfl,fun e=>(by cases e)⟩,⟨fs,ms,e,hf.2,hf.1.q,hm.q⟩⟩ (fun t ht=>?_),rfl⟩
 rw[show ks=fs++ms from e] at ht
 rcases List.mem_append.1 ht with q | q
 ·exact hf.1.wx t q
 ·exact hm.wx t q) h6
theorem aul {L:Low} (hL:LowX L):Rdx (fun t=>sK t∨t.kind=2∨t.kind=5) (aak L):=fun S hS=>xf (fun _ a T e=>⟨⟨(aot hL S hS a T e).1.1,Or.inr (Or.inl (aot hL S hS a T e).1.2)⟩,(aot hL S hS a T e).2⟩) (fun _=>xf (fun _ a T e=>⟨⟨(fn_x hL S hS a T e).1.1,Or.inr (Or.inr (fn_x hL S hS a T e).1.2)⟩,(fn_x hL S hS a T e).2⟩) (fun _ a T e=>⟨⟨(hL.s S hS a T e).1.1,Or.inl (hL.s S hS a T e).1.2⟩,(hL.s S hS a T e).2⟩))
theorem azc {L:Low} (hL:LowX L):∀(f:Nat) (acc:List Tree) (S:LS),AllX (fun t=>sK t∨t.kind=2∨t.kind=5) acc→TokOk S→ade (AllX (fun t=>sK t∨t.kind=2∨t.kind=5)) (aeg L f acc S)
 | 0,_,_,_,_=>xl
 | f+1,acc,S,h,hS=>xf (fun _=>xi h hS) (fun _=>xb (aul hL S hS) fun t S1 ht h1=>azc hL f _ S1 (h.snoc ht) h1)
theorem azd {L:Low} (hL:LowX L):Rdx (fun t=>t.kind=1) (afg L):=fun S hS=>xb (azc hL 3002 [] S AllX.nil hS) fun ks _ h h1=>xi ⟨Wx.bare (k:=1) rfl (show ∀k∈ks,sK k∨k.kind=2∨k.kind=5 from h.q) h.wx,rfl⟩ h1
theorem aou {Q:Tree→Prop} {P:LS→Res Tree} (hP:Rdx Q P):Rdx Q (adl P):=fun S hS=>xb (hP S hS) fun _ _ h _=>xw fun _ h2=>xi h h2
theorem aze {k:Nat} (h0:(ah9 k||k==19||k==18)=false) (hc:cls k=3) (hs:(Nat.ble 8 k&&Nat.ble k 17&&k !=15)=true) {P:LS→Res Tree} (hP:Rdx vK P):Rdx sK (ah1 k P):=fun _ _=>xt fun S1 h1=>xb (aou hP S1 h1) fun t _ h h2=>xi ⟨Wx.bare h0 (by rw[hc];exact⟨t,rfl,h.2⟩) (aix h.1),ahr rfl hs⟩ h2
theorem awt {L:Low} (hL:LowX L):Rdx sK (afb L):=fun _ _=>xt fun _ h1=>xn h1 fun _ _ hs _=>xw fun S3 h3=>xb (aou hL.v S3 h3) fun t _ h h4=>xi ⟨Wx.named (k:=8) rfl rfl hs ⟨t,rfl,h.2⟩ (aix h.1),ahr (k:=8) rfl rfl⟩ h4
theorem apy {L:Low} (hL:LowX L) (k:Nat) (S:LS):ade (fun t=>∃c b ln,t=nd k ln [c,b]∧(Wx c∧vK c)∧Wx b∧b.kind=7) (abx L k S):=xt fun S1 h1=>xb (ak9 hL S1 h1) fun c S2 hc h2=>xb (ajj hL S2 h2) fun b _ hb h3=>xi ⟨c,b,_,rfl,hc,hb⟩ h3
theorem while_x {L:Low} (hL:LowX L):Rdx sK (abx L 11):=fun S hS a T e=>by
 obtain⟨⟨c,b,ln,rfl,hc,hb⟩,h2⟩:=apy hL 11 S a T e
 exact⟨⟨Wx.bare (k:=11) rfl ⟨c,b,rfl,hc.2,hb.2⟩ (ahs hc.1 hb.1),ahr (k:=11) rfl rfl⟩,h2⟩
theorem bb6 {L:Low} (hL:LowX L):Rdx sK (ad9 L):=fun S hS=>xb (apy hL 10 S) fun t _ ht h1=>xa h1 fun _ S2 h2=>xf (fun _=>xb (ajj hL S2 h2) fun u _ hu h3=>xi (by
  obtain⟨c,b,ln,rfl,hc,hb⟩:=ht
  exact⟨Wx.bare (k:=10) (ln:=ln) rfl ⟨c,b,hc.2,hb.2,Or.inr ⟨u,rfl,hu.2⟩⟩ (asd hc.1 (ahs hb.1 hu.1)),ahr (k:=10) rfl rfl⟩) h3) (fun _=>xi (by
  obtain⟨c,b,ln,rfl,hc,hb⟩:=ht
  exact⟨Wx.bare (k:=10) rfl ⟨c,b,hc.2,hb.2,Or.inl rfl⟩ (ahs hc.1 hb.1),ahr (k:=10) rfl rfl⟩) h2)
theorem awu {L:Low} (hL:LowX L):Rdx sK (ado L):=fun _ _=>xt fun _ h1=>xa h1 fun _ S2 h2=>xf (fun _=>xi ⟨Wx.bare (k:=12) rfl (Or.inl rfl) (fun _ h=>by cases h),ahr (k:=12) rfl rfl⟩ h2) (fun _=>xb (aou hL.v S2 h2) fun t _ h h3=>xi ⟨Wx.bare (k:=12) rfl (Or.inr ⟨t,rfl,h.2⟩) (aix h.1),ahr (k:=12) rfl rfl⟩ h3)
theorem catch_x {L:Low} (hL:LowX L):Rdx (fun t=>t.kind=15) (ae7 L):=fun _ _=>xw fun _ _=>xw fun _ h2=>xn h2 fun _ _ hs _=>xw fun S4 h4=>xb (ajj hL S4 h4) fun b _ hb h5=>xi ⟨Wx.named (k:=15) rfl rfl hs ⟨b,rfl,hb.2⟩ (aix hb.1),rfl⟩ h5
theorem try_x {L:Low} (hL:LowX L):Rdx sK (ajx L):=fun _ _=>xt fun S1 h1=>xb (ajj hL S1 h1) fun b S2 hb h2=>xb (catch_x hL S2 h2) fun c _ hc h3=>xi ⟨Wx.bare (k:=14) rfl ⟨b,c,rfl,hb.2,hc.2⟩ (ahs hb.1 hc.1),ahr (k:=14) rfl rfl⟩ h3
theorem bareS_x {L:Low} (hL:LowX L):Rdx sK (ae1 L):=fun S hS=>xb (hL.v S hS) fun t _ ht _=>xf (fun _=>xf (fun hset=>xt fun S2 h2=>xb (hL.v S2 h2) fun u _ hu _=>xw fun _ h4=>xi ⟨Wx.bare (k:=9) rfl ⟨t,u,rfl,ht.2,hu.2,hset⟩ (ahs ht.1 hu.1),ahr (k:=9) rfl rfl⟩ h4) (fun _=>xl)) (fun _=>xw fun _ h2=>xi ⟨Wx.bare (k:=17) rfl ⟨t,rfl,ht.2⟩ (aix ht.1),ahr (k:=17) rfl rfl⟩ h2)
theorem any_x {L:Low} (hL:LowX L):Rdx sK (aal L):=fun S hS=>xf (fun _=>awt hL S hS) (fun _=>xf (fun _=>bb6 hL S hS) (fun _=>xf (fun _=>while_x hL S hS) (fun _=>xf (fun _=>awu hL S hS) (fun _=>xf (fun _=>aze rfl rfl rfl hL.v S hS) (fun _=>xf (fun _=>aze rfl rfl rfl (ak9 hL) S hS) (fun _=>xf (fun _=>try_x hL S hS) (fun _=>bareS_x hL S hS)))))))
theorem aum (lev:Nat) (S:LS) (h:abc lev S≠0):(Nat.ble 31 (abc lev S)&&Nat.ble (abc lev S) 39)=true:=by
 unfold abc at h ⊢
 have all:(ab9.all fun s=>Nat.ble 31 s.2.1&&Nat.ble s.2.1 39)=true:=by decide
 split
 ·rename_i s hs
  exact List.all_eq_true.1 all s (List.mem_of_find?_eq_some hs)
 ·rename_i hs
  rw[hs] at h
  exact absurd rfl h
theorem bb7:∀k,k<46→(Nat.ble 31 k&&Nat.ble k 39)=true→cls k=4∧(ah9 k||k==19||k==18)=false∧(Nat.ble 18 k&&Nat.ble k 45)=true:=by decide
theorem pair_x {k:Nat} (hk:(Nat.ble 31 k&&Nat.ble k 39)=true) {a b:Tree} (ha:Wx a∧vK a) (hb:Wx b∧vK b) (ln:Nat):Wx (nd k ln [a,b])∧vK (nd k ln [a,b]):=by
 have h46:k<46:=by simp only[Bool.and_eq_true,Nat.ble_eq] at hk;omega
 obtain⟨h1,h2,h3⟩:=bb7 k h46 hk
 exact⟨Wx.bare h2 (by rw[h1];exact⟨a,b,rfl,ha.2,hb.2⟩) (ahs ha.1 hb.1),agv rfl h3⟩
theorem anb {lev:Nat} {P:LS→Res Tree} (hP:Rdx vK P):∀(f:Nat) (t:Tree) (S:LS),Wx t∧vK t→TokOk S→ade (fun t=>Wx t∧vK t) (acl lev P f t S)
 | 0,_,_,_,_=>xl
 | f+1,t,S,h,hS=>xf (fun _=>xi h hS) (fun hj=>xt fun S1 h1=>xb (hP S1 h1) fun _ S2 hu h2=>anb hP f _ S2 (pair_x (aum lev S hj) h hu _) h2)
theorem jo_x {P:LS→Res Tree} (hP:Rdx vK P):∀(n:Nat),Rdx vK (jo P n)
 | 0=>hP
 | n+1=>fun S hS=>xb (jo_x hP n S hS) fun t S1 h h1=>anb (jo_x hP n) 3002 t S1 h h1
theorem anc {k:Nat} {S:LS} (h:TextOk k S.tx zc S.nn) (hc:cls k=0) (hv:(Nat.ble 18 k&&Nat.ble k 45)=true):ade (fun t=>Wx t∧vK t) (ad5 k S):=xt fun _ h1=>xi ⟨Wx.mk ⟨h,by show ahq (cls k) [];rw[hc];rfl⟩ (fun _ h=>by cases h),agv rfl hv⟩ h1
theorem const_x {S:LS} (hS:TokOk S) (h:aas S≠0):ade (fun t=>Wx t∧vK t) (ad5 (aas S) S):=by
 have hkd:S.kd=1∧(aas S=20∨aas S=21∨aas S=22∨aas S=23):=by
  have kd:∀m,S.is m=true→S.kd=1:=fun m e=>by unfold LS.is at e;simp only[Bool.and_eq_true,beq_iff_eq] at e;exact e.1
  unfold aas at h ⊢
  split
  ·rename_i e;exact⟨kd _ e,Or.inl rfl⟩
  ·split
   ·rename_i e;exact⟨kd _ e,Or.inr (Or.inl rfl)⟩
   ·split
    ·rename_i e;exact⟨kd _ e,Or.inr (Or.inr (Or.inl rfl))⟩
    ·split
     ·rename_i e;exact⟨kd _ e,Or.inr (Or.inr (Or.inr rfl))⟩
     ·rename_i a b c d
      rw[if_neg a,if_neg b,if_neg c,if_neg d] at h
      exact absurd rfl h
 have ht:=hS.nt (by omega) (by omega)
 have hn:=hS.nn (by omega)
 rcases hkd.2 with e | e | e | e <;> rw[e] <;> exact anc ⟨fun e=>(by cases e),fun _ _=>ht,fun e=>(by cases e),Or.inl rfl,fun _=>hn,fun e=>(by cases e)⟩ rfl rfl
theorem call_x {t:Tree} (h:Wx t∧vK t) {l:List Tree} (hl:AllX vK l∧l.length≤8):Wx (ac9 45 t l)∧vK (ac9 45 t l):=⟨Wx.bare (k:=45) rfl ⟨t,l,rfl,h.2,hl.2,hl.1.q⟩ (asd h.1 hl.1.wx),agv (k:=45) rfl rfl⟩
theorem bb9 {L:Low} (hL:LowX L) {t:Tree} (h:Wx t∧vK t):Rdx vK (adk L t):=fun _ hS=>xn hS fun _ _ hs h1=>xa h1 fun _ S2 h2=>xf (fun _=>xb (asf hL S2 h2) fun l _ hu h3=>xi ⟨Wx.named (k:=43) rfl rfl hs ⟨t,l,rfl,h.2,hu.2,hu.1.q⟩ (asd h.1 hu.1.wx),agv (k:=43) rfl rfl⟩ h3) (fun _=>xi ⟨Wx.named (k:=42) rfl rfl hs ⟨t,rfl,h.2⟩ (aix h.1),agv (k:=42) rfl rfl⟩ h2)
theorem aq3 {L:Low} (hL:LowX L):∀(f:Nat) (t:Tree) (S:LS),Wx t∧vK t→TokOk S→ade (fun t=>Wx t∧vK t) (abd L f t S)
 | 0,_,_,_,_=>xl
 | f+1,t,S,h,hS=>xa hS fun _ S1 h1=>xf (fun _=>xb (bb9 hL h S1 h1) fun u S2 hu h2=>aq3 hL f u S2 hu h2) (fun _=>xa h1 fun _ S2 h2=>xf (fun _=>xb (hL.v S2 h2) fun u _ hu _=>xw fun S4 h4=>aq3 hL f _ S4 ⟨Wx.bare (k:=44) rfl ⟨t,u,rfl,h.2,hu.2⟩ (ahs h.1 hu.1),agv (k:=44) rfl rfl⟩ h4) (fun _=>xa h2 fun _ S3 h3=>xf (fun _=>xb (asf hL S3 h3) fun _ S4 hu h4=>aq3 hL f _ S4 (call_x h hu) h4) (fun _=>xi h h3)))
theorem avl {L:Low} (hL:LowX L) {k:Nat} (h0:ah9 k=true) (h1:(k==18||k==19)=false) (hc:cls k=1) (hv:(Nat.ble 18 k&&Nat.ble k 45)=true) (ln:Nat):Rdx vK (adh L k ln):=fun _ hS=>xn hS fun _ _ hs _=>xw fun S2 h2=>xb (asf hL S2 h2) fun l _ h h3=>xi ⟨Wx.named h0 h1 hs (by rw[hc];exact⟨h.2,h.1.q⟩) h.1.wx,agv rfl hv⟩ h3
theorem bca {L:Low} (hL:LowX L):Rdx vK (abm L):=fun S hS=>by
 unfold abm
 refine xf (fun _=>ak9 hL S hS) (fun _=>xf (fun _=>xt fun S1 h1=>xb (ame hL.v S1 h1) fun l _ h h2=>xi ⟨Wx.bare (k:=27) rfl ⟨h.2,h.1.q⟩ h.1.wx,agv (k:=27) rfl rfl⟩ h2) (fun _=>xf (fun _=>bb5 hL S hS) (fun _=>xf (fun _=>xt fun S1 h1=>avl hL rfl rfl rfl rfl _ S1 h1) (fun _=>xf (fun _=>xt fun _ _=>xw fun S2 h2=>avl hL rfl rfl rfl rfl _ S2 h2) (fun _=>xf (fun _=>xt fun _ _=>xw fun _ _=>xw fun _ h3=>xi ⟨Wx.bare (k:=29) rfl rfl (fun _ h=>by cases h),agv (k:=29) rfl rfl⟩ h3) (fun _=>xf (fun _=>xt fun S1 h1=>xb (ak9 hL S1 h1) fun t _ h h2=>xi ⟨Wx.bare (k:=30) rfl ⟨t,rfl,h.2⟩ (aix h.1),agv (k:=30) rfl rfl⟩ h2) (fun _=>?_)))))))
 exact xl
theorem bcb {L:Low} (hL:LowX L):Rdx vK (zr L):=fun S hS=>xf (fun e=>anc (k:=24) ⟨fun _=>hS.nm e,fun e=>(by cases e),fun e=>(by cases e),Or.inl rfl,fun _=>hS.nn (by omega),fun e=>(by cases e)⟩ rfl rfl) (fun _=>xf (fun e=>anc (k:=18) ⟨fun e=>(by cases e),fun _ _=>hS.nt (by omega) (by omega),fun e=>(by cases e),Or.inl rfl,fun e=>absurd rfl e,fun _=>hS.nu e⟩ rfl rfl) (fun _=>xf (fun e=>anc (k:=19) ⟨fun e=>(by cases e),fun _ e=>absurd rfl e,fun _=>hS.st e,Or.inl rfl,fun _=>hS.nn (by omega),fun e=>(by cases e)⟩ rfl rfl) (fun _=>xf (fun _=>bca hL S hS) (fun e=>const_x hS e))))
theorem awv {L:Low} (hL:LowX L):Rdx vK (ab5 L):=fun S hS=>xb (bcb hL S hS) fun t S1 h h1=>aq3 hL 3002 t S1 h h1
theorem ash {L:Low} (hL:LowX L) {k:Nat} (h0:(ah9 k||k==19||k==18)=false) (hc:cls k=3) (hv:(Nat.ble 18 k&&Nat.ble k 45)=true):Rdx vK (aea L k):=fun _ _=>xt fun S1 h1=>xb (hL.n S1 h1) fun t _ h h2=>xi ⟨Wx.bare h0 (by rw[hc];exact⟨t,rfl,h.2⟩) (aix h.1),agv rfl hv⟩ h2
theorem ane {L:Low} (hL:LowX L):Rdx vK (aae L):=fun S hS=>xf (fun _=>ash hL rfl rfl rfl S hS) (fun _=>xf (fun _=>ash hL rfl rfl rfl S hS) (fun _=>awv hL S hS))
theorem asi {Q:Tree→Prop} {P:LS→Res Tree} (hP:Rdx Q P):Rdx Q (abi P):=fun S hS=>xf (fun _=>xl) (fun _=>xb (hP { S with dp:=S.dp+1 } ⟨hS.nm,hS.nt,hS.st,hS.nn,hS.nu⟩) fun _ _ h h1=>xi h ⟨h1.nm,h1.nt,h1.st,h1.nn,h1.nu⟩)
theorem ala:∀d,LowX (abr d)
 | 0=>⟨fun _ _=>xl,fun _ _=>xl,fun _ _=>xl⟩
 | d+1=>⟨asi (jo_x (ane (ala d)) 6),asi (any_x (ala d)),asi (ane (ala d))⟩
theorem readP_x {s:ByteArray} {v:Value} {t:Tree} {S:LS} (h:adb s v=.inr (t,S)):Wx t∧t.kind=1:=by
 unfold adb at h
 split at h
 ·cases h
 ·rename_i T hT
  exact(azd (ala 26) T (asb hT) t S h).1
def aay (l:List Tree):Nat:=(l.map Tree.many).sum
theorem alb {k:Nat} {a b:ByteArray} {n:Int} {ln:Nat} {l:List Tree}:(⟨k,a,b,n,ln,l⟩:Tree).many=1+aay l:=ahi _
theorem af3 {k ln:Nat} {l:List Tree}:(nd k ln l).many=1+aay l:=ahi _
theorem ahu {k ln:Nat} {s:ByteArray} {l:List Tree}:(ndT k s ln l).many=1+aay l:=ahi _
theorem aax:aay []=0:=rfl
theorem zx {t:Tree} {l:List Tree}:aay (t :: l)=t.many+aay l:=by simp[aay]
theorem ahv {l r:List Tree}:aay (l++r)=aay l+aay r:=by simp[aay]
def En {α:Type} (p:Nat) (m:α→Nat) (r:Res α):Prop:=∀a S',r=.inr (a,S')→Ok S'∧m a+p≤S'.tp
def none0 {α:Type} (_:α):Nat:=0
section
variable {α β:Type} {m:α→Nat} {m':β→Nat} {p q:Nat} {S:LS}
theorem nbd {t:Res α} {k:α→LS→Res β} (h:En q m t) (hk:∀a S,Ok S→m a+q≤S.tp→En p m' (k a S)):En p m' (bnd t k):=fun b S' e=>by
 obtain⟨a,S1,h1,h2⟩:=ze e
 exact hk a S1 (h a S1 h1).1 (h a S1 h1).2 b S' h2
theorem ni {a:α} (ok:Ok S) (h:m a+p≤S.tp):En p m (.inr (a,S)):=fun _ _ e=>by cases e;exact⟨ok,h⟩
theorem nl {f:Int×Nat}:En p m (.inl f:Res α):=fun _ _ e=>by cases e
theorem nf {c:Prop} [Decidable c] {a b:Res α} (ha:c→En p m a) (hb:¬c→En p m b):En p m (if c then a else b):=by
 by_cases h:c
 ·rw[if_pos h];exact ha h
 ·rw[if_neg h];exact hb h
theorem nt {k:Unit→LS→Res β} (ok:Ok S) (hk:S.kd≠0) (h:∀S1,Ok S1→S.tp+1≤S1.tp→En p m' (k () S1)):En p m' (bnd (zi S) k):=fun b S' e=>by
 obtain⟨a,S1,h1,h2⟩:=ze e
 have o:=aan ok hk h1
 exact h S1 o.ok o.tp b S' h2
theorem nw {s:ByteArray} {k:Unit→LS→Res β} (ok:Ok S) (h:∀S1,Ok S1→S.tp+1≤S1.tp→En p m' (k () S1)):En p m' (bnd (zj s S) k):=fun b S' e=>by
 obtain⟨a,S1,h1,h2⟩:=ze e
 have o:=aau ok h1
 exact h S1 o.ok o.tp b S' h2
theorem nn {k:ByteArray→LS→Res β} (ok:Ok S) (h:∀s S1,Ok S1→S.tp+1≤S1.tp→En p m' (k s S1)):En p m' (bnd (z6 S) k):=fun b S' e=>by
 obtain⟨a,S1,h1,h2⟩:=ze e
 have o:=acn ok h1
 exact h a S1 o.ok o.tp b S' h2
theorem na {s:ByteArray} {k:Bool→LS→Res β} (ok:Ok S) (h:∀b S1,Ok S1→S.tp≤S1.tp→(b=true→S.tp+1≤S1.tp)→En p m' (k b S1)):En p m' (bnd (aab s S) k):=fun b S' e=>by
 obtain⟨a,S1,h1,h2⟩:=ze e
 have o:=ab4 ok h1
 exact h a S1 o.1.ok o.1.tp (fun e=>(o.2.1 e).tp) b S' h2
theorem nm {n:Nat} {k:Unit→LS→Res β} (h:En p m' (k () S)):En p m' (bnd (aco n S) k):=fun b S' e=>by
 obtain⟨a,S1,h1,h2⟩:=ze e
 rw[ahh h1] at h2
 exact h b S' h2
end
theorem azf {P:LS→Res Tree} {S1:LS} {p:Nat} (h:En S1.tp Tree.many (P S1)) (hp:p≤S1.tp):En p Tree.many (P S1):=fun a S' e=>⟨(h a S' e).1,by have:=(h a S' e).2;omega⟩
def Rm (P:LS→Res Tree):Prop:=∀S,Ok S→En S.tp Tree.many (P S)
theorem anf {k:Nat} {S:LS} (ok:Ok S) (hk:S.kd≠0):En S.tp Tree.many (ad5 k S):=nt ok hk fun _ o h=>ni o (by rw[alb,aax];omega)
theorem param_m:Rm ac1:=fun _ ok=>nn ok fun _ _ o h=>ni o (by rw[alb,aax];omega)
theorem ang {shut:ByteArray} {P:LS→Res Tree} (hP:Rm P):∀(f:Nat) (acc:List Tree) (S:LS) (p:Nat),Ok S→aay acc+p≤S.tp→En p aay (adx shut P f acc S)
 | 0,_,_,_,_,_=>nl
 | f+1,acc,S,p,ok,h=>nm (nbd (hP S ok) fun t S1 o1 h1=>na o1 fun b S2 o2 h2 _=>nf (fun _=>ni o2 (by rw[ahv,zx,aax];omega)) fun _=>nw o2 fun S3 o3 h3=>ang hP f _ S3 p o3 (by rw[ahv,zx,aax];omega))
theorem amf {shut:ByteArray} {P:LS→Res Tree} (hP:Rm P) (S:LS) (ok:Ok S):En S.tp aay (abp shut P S):=na ok fun b S1 o1 h1 _=>nf (fun _=>ni o1 (by rw[aax];omega)) fun _=>ang hP 9 [] S1 S.tp o1 (by rw[aax];omega)
theorem bcc:Rm af0:=fun S ok=>nw ok fun S1 o1 h1=>nbd (amf param_m S1 o1) fun _ _ o2 h2=>ni o2 (by rw[alb];omega)
theorem aov {shut:ByteArray} {P:LS→Res Tree} (hP:Rm P):∀(f:Nat) (acc:List Tree) (S:LS) (p:Nat),Ok S→aay acc+p≤S.tp→En p aay (abz shut P f acc S)
 | 0,_,_,_,_,_=>nl
 | f+1,acc,S,p,ok,h=>na ok fun b S1 o1 h1 _=>nf (fun _=>ni o1 (by omega)) fun _=>nbd (hP S1 o1) fun t S2 o2 h2=>aov hP f _ S2 p o2 (by rw[ahv,zx,aax];omega)
structure LowM (L:Low):Prop where
 v:Rm L.V
 s:Rm L.S
 n:Rm L.N
def two (pb:Tree×Tree):Nat:=pb.1.many+pb.2.many
theorem ajk {L:Low} (hL:LowM L):Rm (aaj L):=fun S ok=>nw ok fun S1 o1 h1=>nbd (aov hL.s 3002 [] S1 S1.tp o1 (by rw[aax];omega)) fun _ _ o2 h2=>ni o2 (by rw[alb];omega)
theorem asj {L:Low} (hL:LowM L) (S:LS) (ok:Ok S):En S.tp two (adn L S):=nbd (bcc S ok) fun _ S1 o1 h1=>nbd (ajk hL S1 o1) fun _ _ o2 h2=>ni o2 (by unfold two;simp only;omega)
theorem alc {L:Low} (hL:LowM L):Rm (aa7 L):=fun S ok=>nw ok fun S1 o1 h1=>nbd (hL.v S1 o1) fun _ _ o2 h2=>nw o2 fun _ o3 h3=>ni o3 (by omega)
theorem ask {L:Low} (hL:LowM L) (S:LS) (ok:Ok S):En S.tp aay (aek L S):=amf hL.v S ok
theorem bcd {L:Low} (hL:LowM L):Rm (aa9 L):=fun S ok=>nn ok fun _ S2 o2 h2=>nbd (asj hL S2 o2) fun pb _ o3 h3=>ni o3 (by unfold two at h3;rw[ahu,zx,zx,aax];omega)
theorem fn_m {L:Low} (hL:LowM L) {S:LS} (ok:Ok S) (hk:S.kd≠0):En S.tp Tree.many (fnP L S):=nt ok hk fun _ o1 h1=>nn o1 fun _ S2 o2 h2=>nbd (asj hL S2 o2) fun pb _ o3 h3=>ni o3 (by unfold two at h3;rw[ahu,zx,zx,aax];omega)
theorem bce {L:Low} (hL:LowM L) {S:LS} (ok:Ok S) (hk:S.kd≠0):En S.tp Tree.many (age L S):=nt ok hk fun S1 o1 h1=>nbd (asj hL S1 o1) fun pb _ o3 h3=>ni o3 (by unfold two at h3;rw[af3,zx,zx,aax];omega)
theorem field_m {n:Nat} {S:LS} (ok:Ok S) (hk:S.kd≠0):En S.tp Tree.many (ady n S):=nt ok hk fun _ o1 h1=>nm (nn o1 fun _ _ o2 h2=>nw o2 fun _ o3 h3=>ni o3 (by rw[ahu,aax];omega))
theorem asl:∀(f:Nat) (acc:List Tree) (S:LS) (p:Nat),Ok S→aay acc+p≤S.tp→En p aay (adf f acc S)
 | 0,_,_,_,_,_=>nl
 | f+1,acc,S,p,ok,h=>nf (fun hi=>nbd (field_m ok (aai hi)) fun t S1 o1 h1=>asl f _ S1 p o1 (by rw[ahv,zx,aax];omega)) fun _=>ni ok h
theorem under_m (S:LS) (ok:Ok S):En S.tp none0 (ac8 S):=na ok fun _ S1 o1 h1 _=>nf (fun _=>fun a S' e=>by
 have o:=acn o1 e
 exact⟨o.ok,by have:=o.tp;unfold none0;omega⟩) fun _=>ni o1 (by unfold none0;omega)
theorem class_m {L:Low} (hL:LowM L) {S:LS} (ok:Ok S) (hk:S.kd≠0):En S.tp Tree.many (ace L S):=nt ok hk fun _ o1 h1=>nn o1 fun _ S2 o2 h2=>nbd (under_m S2 o2) fun _ _ o3 h3=>nw o3 fun S4 o4 h4=>nbd (asl 10 [] S4 S4.tp o4 (by rw[aax];omega)) fun fs S5 o5 h5=>nbd (aov (bcd hL) 3002 fs S5 S4.tp o5 h5) fun _ _ o6 h6=>ni o6 (by rw[alb];omega)
theorem aun {L:Low} (hL:LowM L):Rm (aak L):=fun S ok=>nf (fun hi=>class_m hL ok (aai hi)) fun _=>nf (fun hi=>fn_m hL ok (aai hi)) fun _=>hL.s S ok
theorem azg {L:Low} (hL:LowM L):∀(f:Nat) (acc:List Tree) (S:LS) (p:Nat),Ok S→aay acc+p≤S.tp→En p aay (aeg L f acc S)
 | 0,_,_,_,_,_=>nl
 | f+1,acc,S,p,ok,h=>nf (fun _=>ni ok h) fun _=>nbd (aun hL S ok) fun t S1 o1 h1=>azg hL f _ S1 p o1 (by rw[ahv,zx,aax];omega)
theorem aow {P:LS→Res Tree} (hP:Rm P):Rm (adl P):=fun S ok=>nbd (hP S ok) fun _ _ o1 h1=>nw o1 fun _ o2 h2=>ni o2 (by omega)
theorem azh {k:Nat} {P:LS→Res Tree} (hP:Rm P) {S:LS} (ok:Ok S) (hk:S.kd≠0):En S.tp Tree.many (ah1 k P S):=nt ok hk fun S1 o1 h1=>nbd (aow hP S1 o1) fun _ _ o2 h2=>ni o2 (by rw[af3,zx,aax];omega)
theorem awx {L:Low} (hL:LowM L) {S:LS} (ok:Ok S) (hk:S.kd≠0):En S.tp Tree.many (afb L S):=nt ok hk fun _ o1 h1=>nn o1 fun _ _ o2 h2=>nw o2 fun S3 o3 h3=>nbd (aow hL.v S3 o3) fun _ _ o4 h4=>ni o4 (by rw[ahu,zx,aax];omega)
theorem apz {L:Low} (hL:LowM L) {k:Nat} {S:LS} (ok:Ok S) (hk:S.kd≠0):En S.tp Tree.many (abx L k S):=nt ok hk fun S1 o1 h1=>nbd (alc hL S1 o1) fun _ S2 o2 h2=>nbd (ajk hL S2 o2) fun _ _ o3 h3=>ni o3 (by rw[af3,zx,zx,aax];omega)
theorem bcf {L:Low} (hL:LowM L) {S:LS} (ok:Ok S) (hk:S.kd≠0):En S.tp Tree.many (ad9 L S):=nbd (apz hL ok hk) fun t _ o1 h1=>na o1 fun _ S2 o2 h2 _=>nf (fun _=>nbd (ajk hL S2 o2) fun _ _ o3 h3=>ni o3 (by have:=ahi t;rw[alb,ahv,zx,aax];unfold aay at *;omega)) fun _=>ni o2 (by omega)
theorem awy {L:Low} (hL:LowM L) {S:LS} (ok:Ok S) (hk:S.kd≠0):En S.tp Tree.many (ado L S):=nt ok hk fun _ o1 h1=>na o1 fun _ S2 o2 h2 _=>nf (fun _=>ni o2 (by rw[af3,aax];omega)) fun _=>nbd (aow hL.v S2 o2) fun _ _ o3 h3=>ni o3 (by rw[af3,zx,aax];omega)
theorem catch_m {L:Low} (hL:LowM L):Rm (ae7 L):=fun S ok=>nw ok fun _ o1 h1=>nw o1 fun _ o2 h2=>nn o2 fun _ _ o3 h3=>nw o3 fun S4 o4 h4=>nbd (ajk hL S4 o4) fun _ _ o5 h5=>ni o5 (by rw[ahu,zx,aax];omega)
theorem try_m {L:Low} (hL:LowM L) {S:LS} (ok:Ok S) (hk:S.kd≠0):En S.tp Tree.many (ajx L S):=nt ok hk fun S1 o1 h1=>nbd (ajk hL S1 o1) fun _ S2 o2 h2=>nbd (catch_m hL S2 o2) fun _ _ o3 h3=>ni o3 (by rw[af3,zx,zx,aax];omega)
theorem bare_m {L:Low} (hL:LowM L):Rm (ae1 L):=fun S ok=>nbd (hL.v S ok) fun _ _ o1 h1=>nf (fun hi=>nf (fun _=>nt o1 (aai hi) fun S2 o2 h2=>nbd (hL.v S2 o2) fun _ _ o3 h3=>nw o3 fun _ o4 h4=>ni o4 (by rw[af3,zx,zx,aax];omega)) fun _=>nl) fun _=>nw o1 fun _ o2 h2=>ni o2 (by rw[af3,zx,aax];omega)
theorem any_m {L:Low} (hL:LowM L):Rm (aal L):=fun S ok=>nf (fun hi=>awx hL ok (aai hi)) fun _=>nf (fun hi=>bcf hL ok (aai hi)) fun _=>nf (fun hi=>apz hL ok (aai hi)) fun _=>nf (fun hi=>awy hL ok (aai hi)) fun _=>nf (fun hi=>azh hL.v ok (aai hi)) fun _=>nf (fun hi=>azh (alc hL) ok (aai hi)) fun _=>nf (fun hi=>try_m hL ok (aai hi)) fun _=>bare_m hL S ok
theorem ako {k:Nat} {t:Tree} {l:List Tree}:(ac9 k t l).many=1+t.many+aay l:=by rw[ac9,af3,zx];omega
theorem anh {lev:Nat} {P:LS→Res Tree} (hP:Rm P):∀(f:Nat) (t:Tree) (S:LS) (p:Nat),Ok S→t.many+p≤S.tp→En p Tree.many (acl lev P f t S)
 | 0,_,_,_,_,_=>nl
 | f+1,t,S,p,ok,h=>nf (fun _=>ni ok h) fun hj=>nt ok (af5 hj) fun S1 o1 h1=>nbd (hP S1 o1) fun _ S2 o2 h2=>anh hP f _ S2 p o2 (by rw[ako,zx,aax];omega)
theorem jo_m {P:LS→Res Tree} (hP:Rm P):∀(n:Nat),Rm (jo P n)
 | 0=>hP
 | n+1=>fun S ok=>nbd (jo_m hP n S ok) fun t S1 o1 h1=>anh (jo_m hP n) 3002 t S1 S.tp o1 h1
theorem bch {L:Low} (hL:LowM L) {t:Tree} {S:LS} {p:Nat} (ok:Ok S) (h:t.many+p≤S.tp):En p Tree.many (adk L t S):=nn ok fun _ _ o1 h1=>na o1 fun _ S2 o2 h2 _=>nf (fun _=>nbd (ask hL S2 o2) fun _ _ o3 h3=>ni o3 (by rw[ahu,zx];omega)) fun _=>ni o2 (by rw[ahu,zx,aax];omega)
theorem aq4 {L:Low} (hL:LowM L):∀(f:Nat) (t:Tree) (S:LS) (p:Nat),Ok S→t.many+p≤S.tp→En p Tree.many (abd L f t S)
 | 0,_,_,_,_,_=>nl
 | f+1,t,S,p,ok,h=>na ok fun b S1 o1 h1 g1=>nf (fun _=>nbd (bch hL (p:=p) o1 (by omega)) fun u S2 o2 h2=>aq4 hL f u S2 p o2 h2) fun _=>na o1 fun b S2 o2 h2 g2=>nf (fun e=>nbd (hL.v S2 o2) fun _ _ o3 h3=>nw o3 fun S4 o4 h4=>aq4 hL f _ S4 p o4 (by rw[ako,zx,aax];omega)) fun _=>na o2 fun b S3 o3 h3 g3=>nf (fun e=>nbd (ask hL S3 o3) fun _ S4 o4 h4=>aq4 hL f _ S4 p o4 (by have:=g3 e;rw[ako];omega)) fun _=>ni o3 (by omega)
theorem avm {L:Low} (hL:LowM L) {k ln:Nat}:Rm (adh L k ln):=fun S ok=>nn ok fun _ _ o1 h1=>nw o1 fun S2 o2 h2=>nbd (ask hL S2 o2) fun _ _ o3 h3=>ni o3 (by rw[ahu];omega)
theorem bci {L:Low} (hL:LowM L):Rm (abm L):=fun S ok=>by
 unfold abm
 exact nf (fun _=>alc hL S ok) fun _=>nf (fun hi=>nt ok (aai hi) fun S1 o1 h1=>nbd (amf hL.v S1 o1) fun _ _ o2 h2=>ni o2 (by rw[af3];omega)) fun _=>nf (fun hi=>bce hL ok (aai hi)) fun _=>nf (fun hi=>nt ok (aai hi) fun S1 o1 h1=>azf (avm hL S1 o1) (by omega)) fun _=>nf (fun hi=>nt ok (aai hi) fun _ o1 h1=>nw o1 fun S2 o2 h2=>azf (avm hL S2 o2) (by omega)) fun _=>nf (fun hi=>nt ok (aai hi) fun _ o1 h1=>nw o1 fun _ o2 h2=>nw o2 fun _ o3 h3=>ni o3 (by rw[af3,aax];omega)) fun _=>nf (fun hi=>nt ok (aai hi) fun S1 o1 h1=>nbd (alc hL S1 o1) fun _ _ o2 h2=>ni o2 (by rw[af3,zx,aax];omega)) fun _=>nl
theorem bcj {L:Low} (hL:LowM L):Rm (zr L):=fun S ok=>nf (fun h=>anf ok (by omega)) fun _=>nf (fun h=>anf ok (by omega)) fun _=>nf (fun h=>anf ok (by omega)) fun _=>nf (fun _=>bci hL S ok) fun h=>anf ok (amb h)
theorem awz {L:Low} (hL:LowM L):Rm (ab5 L):=fun S ok=>nbd (bcj hL S ok) fun t S1 o1 h1=>aq4 hL 3002 t S1 S.tp o1 h1
theorem asm {L:Low} (hL:LowM L) {k:Nat} {S:LS} (ok:Ok S) (hk:S.kd≠0):En S.tp Tree.many (aea L k S):=nt ok hk fun S1 o1 h1=>nbd (hL.n S1 o1) fun _ _ o2 h2=>ni o2 (by rw[af3,zx,aax];omega)
theorem ani {L:Low} (hL:LowM L):Rm (aae L):=fun S ok=>nf (fun hi=>asm hL ok (aai hi)) fun _=>nf (fun hi=>asm hL ok (aai hi)) fun _=>awz hL S ok
theorem asn {P:LS→Res Tree} (hP:Rm P):Rm (abi P):=fun S ok=>nf (fun _=>nl) fun _=>nbd (hP { S with dp:=S.dp+1 } ⟨⟨ok.fit.size,ok.fit.pl,ok.fit.ln⟩,ok.tp,ok.tl,ok.now⟩) fun _ _ o h=>ni ⟨⟨o.fit.size,o.fit.pl,o.fit.ln⟩,o.tp,o.tl,o.now⟩ h
theorem ald:∀d,LowM (abr d)
 | 0=>⟨fun _ _=>nl,fun _ _=>nl,fun _ _=>nl⟩
 | d+1=>⟨asn (jo_m (ani (ald d)) 6),asn (any_m (ald d)),asn (ani (ald d))⟩
theorem azi {S:LS} (ok:Ok S) {t:Tree} {S':LS} (h:afg (abr 26) S=.inr (t,S')):Ok S'∧t.many+S.tp≤S'.tp+1:=by
 obtain⟨ks,S1,h1,h2⟩:=ze h
 cases h2
 have:=azg (ald 26) 3002 [] S S.tp ok (by rw[aax];omega) ks S' h1
 exact⟨this.1,by rw[af3];omega⟩
theorem aw0 {s:ByteArray} (hs:s.size≤3000) {v:Value} {t:Tree} {S:LS} (h:adb s v=.inr (t,S)):t.many≤3001:=by
 unfold adb at h
 split at h
 ·cases h
 ·rename_i T hT
  have ok:=(ag0 (S:=acf s v) ⟨hs,Nat.zero_le _,Nat.le_refl _⟩ hT).1
  obtain⟨o,hm⟩:=azi ok h
  have:=o.tp
  have:=o.fit.pl
  have:=o.fit.size
  omega
theorem aet {k:Tree}:∀{l:List Tree},k∈l→k.many≤aay l
 | x :: l,h=>by
  rw[zx]
  rcases List.mem_cons.1 h with rfl | h
  ·omega
  ·have:=aet h
   omega
end Go.Proofs.YtndgajlidckcdaaGreatDoor
