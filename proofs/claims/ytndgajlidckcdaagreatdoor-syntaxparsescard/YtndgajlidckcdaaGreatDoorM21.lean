/- A part. -/
import Derived.Test.YtndgajlidckcdaaGreatDoorM09
open Go.Proofs.Tryz
namespace Go.Proofs.YtndgajlidckcdaaGreatDoor
open Go.RowKit
set_option linter.unusedVariables false
set_option linter.unusedSimpArgs false
set_option maxRecDepth 100000
set_option maxHeartbeats 8000000
structure Tok where
 kind:Nat
 text:ByteArray
 n:Int
 at':Nat
 line:Nat
def zv (S:LS):Tok :=
 if S.kd=1 then ⟨if isW S.mrk=true then 119 else 120,S.mrk,0,S.tp,S.tl⟩
 else if S.kd=2 then ⟨110,S.tx,0,S.tp,S.tl⟩
 else if S.kd=3 then ⟨105,⟨#[]⟩,S.nn,S.tp,S.tl⟩
 else if S.kd=4 then ⟨115,S.tx,0,S.tp,S.tl⟩
 else ⟨101,⟨#[]⟩,0,S.tp,S.tl⟩
def Follows:LS→List Tok→Int×Int→Prop
 | S,[],bad=>(S.kd=0∧bad=(0,-1))∨(S.kd≠0∧∃e p,abv S=.inl (e,p)∧bad=(e,(p:Int)))
 | S,t :: r,bad=>S.kd≠0∧∃S',abv S=.inr S'∧t=zv S'∧Follows S' r bad
def LS.deep (S:LS) (d:Nat):LS:={ S with dp:=d }
theorem azq (S:LS) (d:Nat):abe (S.deep d)=match abe S with
  | .inl f=>.inl f
  | .inr T=>.inr (T.deep d):=by
 unfold abe
 show (if S.pl<S.src.size then _ else _)=_
 split
 ·show (if lt (zo S.src S.pl)=true then _ else _)=_
  split
  ·show (if isW (acd S)=true then _ else _)=_
   split
   ·rfl
   ·show (if 16<(acd S).size then _ else _)=_
    split <;> rfl
  ·show (if dg (zo S.src S.pl)=true then _ else _)=_
   split
   ·cases hp:Lib.parseUintB 64 (aee S).data.toList with
    | ok u =>
     have hq:Lib.parseUintB 64 (aee (S.deep d)).data.toList=.ok u:=hp
     simp only[hq]
     split <;> rfl
    | _ =>
     simp only[show Lib.parseUintB 64 (aee (S.deep d)).data.toList=_ from hp]
     rfl
   ·show (if zo S.src S.pl=34 then _ else _)=_
    split
    ·cases hp:aec S.src (S.pl+1) [] with
     | inl q =>
      simp only[show aec (S.deep d).src ((S.deep d).pl+1) []=_ from hp]
     | inr x =>
      simp only[show aec (S.deep d).src ((S.deep d).pl+1) []=_ from hp]
      split <;> rfl
    ·show (if adw S.src S.pl=0 then _ else _)=_
     split <;> rfl
 ·rfl
theorem ap1 (S:LS) (d:Nat):abv (S.deep d)=match abv S with
  | .inl f=>.inl f
  | .inr T=>.inr (T.deep d):=by
 unfold abv
 exact azq (S.fresh (ab0 S.src (S.src.size-S.pl) S.pl S.ln).1 (ab0 S.src (S.src.size-S.pl) S.pl S.ln).2) d
theorem tok_deep (S:LS) (d:Nat):zv (S.deep d)=zv S:=rfl
theorem Follows.deep:∀{ts:List Tok} {S:LS} {bad:Int×Int} (d:Nat),Follows S ts bad→Follows (S.deep d) ts bad
 | [],S,bad,d,h=>by
  rcases h with h | ⟨h1,e,p,h2,h3⟩
  ·exact Or.inl h
  ·exact Or.inr ⟨h1,e,p,by rw[ap1,h2],h3⟩
 | t :: r,S,bad,d,h=>by
  obtain⟨h1,S',h2,h3,h4⟩:=h
  exact⟨h1,S'.deep d,by rw[ap1,h2],h3,h4.deep d⟩
theorem Follows.next {S S':LS} {ts:List Tok} {bad:Int×Int} (h:Follows S ts bad) (ha:abv S=.inr S') (hk:S.kd≠0):∃r,ts=zv S' :: r∧Follows S' r bad:=by
 cases ts with
 | nil =>
  rcases h with ⟨h,_⟩ | ⟨_,e,p,h,_⟩
  ·exact absurd h hk
  ·rw[ha] at h
   cases h
 | cons t r =>
  obtain⟨_,T,h2,h3,h4⟩:=h
  rw[ha] at h2
  cases h2
  exact⟨r,by rw[h3],h4⟩
theorem Follows.stop {S:LS} {ts:List Tok} {bad:Int×Int} (h:Follows S ts bad) {e:Int} {p:Nat} (ha:abv S=.inl (e,p)) (hk:S.kd≠0):ts=[]∧bad=(e,(p:Int)):=by
 cases ts with
 | nil =>
  rcases h with ⟨h,_⟩ | ⟨_,e',p',h,h2⟩
  ·exact absurd h hk
  ·rw[ha] at h
   cases h
   exact⟨rfl,h2⟩
 | cons t r =>
  obtain⟨_,T,h2,_⟩:=h
  rw[ha] at h2
  cases h2
def abq:Nat→LS→List Tok×(Int×Int)
 | 0,_=>([],(0,-1))
 | f+1,S=>match abv S with
  | .inl x=>([],(x.1,(x.2:Int)))
  | .inr T=>if T.kd=0 then ([zv T],(0,-1)) else (zv T :: (abq f T).1,(abq f T).2)
theorem amk {f:Nat} {S:LS} {e:Int} {p:Nat} (h:abv S=.inl (e,p)):abq (f+1) S=([],(e,(p:Int))):=by rw[abq,h]
theorem aml {f:Nat} {S T:LS} (h:abv S=.inr T) (hk:T.kd=0):abq (f+1) S=([zv T],(0,-1)):=by
 rw[abq,h]
 exact if_pos hk
theorem aky {f:Nat} {S T:LS} (h:abv S=.inr T) (hk:T.kd≠0):abq (f+1) S=(zv T :: (abq f T).1,(abq f T).2):=by
 rw[abq,h]
 exact if_neg hk
def left (S:LS):Nat:=S.src.size-S.pl
theorem as3 {S T:LS} (fit:Fit S) (h:abv S=.inr T) (hk:T.kd≠0):left T<left S∧Fit T∧T.src=S.src:=by
 have q:=ag0 fit h
 have h1:T.src=S.src:=q.2.2.src
 have h2:=q.1.now hk
 have h3:=q.1.fit.pl
 have h4:=q.2.1
 rw[h1] at h3
 refine⟨?_,q.1.fit,h1⟩
 unfold left
 rw[h1]
 omega
theorem akz:∀(f:Nat) {S:LS},Fit S→left S<f→S.kd≠0→Follows S (abq f S).1 (abq f S).2
 | 0,S,_,h,_=>absurd h (Nat.not_lt_zero _)
 | f+1,S,fit,h,hk=>by
  cases ha:abv S with
  | inl x =>
   rw[amk (e:=x.1) (p:=x.2) ha]
   exact Or.inr ⟨hk,x.1,x.2,ha,rfl⟩
  | inr T =>
   by_cases hT:T.kd=0
   ·rw[aml ha hT]
    exact⟨hk,T,ha,rfl,Or.inl ⟨hT,rfl⟩⟩
   ·rw[aky ha hT]
    obtain⟨q1,q2,_⟩:=as3 fit ha hT
    exact⟨hk,T,ha,rfl,akz f q2 (by omega) hT⟩
theorem aw7 {f:Nat} {S:LS} (fit:Fit S) (h:left S<f):(∃e p,abv S=.inl (e,p)∧abq (f+1) S=([],(e,(p:Int))))∨(∃(T:LS) (r:List Tok×(Int×Int)),abv S=.inr T∧abq (f+1) S=(zv T :: r.1,r.2)∧Follows T r.1 r.2):=by
 cases ha:abv S with
 | inl x=>exact Or.inl ⟨x.1,x.2,rfl,amk (e:=x.1) (p:=x.2) ha⟩
 | inr T =>
  by_cases hT:T.kd=0
  ·exact Or.inr ⟨T,([],(0,-1)),rfl,aml ha hT,Or.inl ⟨hT,rfl⟩⟩
  ·obtain⟨q1,q2,_⟩:=as3 fit ha hT
   exact Or.inr ⟨T,abq f T,rfl,aky ha hT,akz f q2 (by omega) hT⟩
abbrev St:Type:=(Int×Nat) ⊕ LS
def zg {α:Type} (t:Res α):St:=match t with
 | .inl f=>.inl f
 | .inr x=>.inr x.2
def run {α:Type} (P:LS→Res α) (s:St):Res α:=match s with
 | .inl f=>.inl f
 | .inr S=>P S
theorem run_inl {α:Type} {P:LS→Res α} {f:Int×Nat}:run P (.inl f)=.inl f:=rfl
theorem run_inr {α:Type} {P:LS→Res α} {S:LS}:run P (.inr S)=P S:=rfl
theorem run_bnd {α β:Type} (P:LS→Res α) (Q:α→LS→Res β) (s:St):run (fun S=>bnd (P S) Q) s=bnd (run P s) Q:=by
 cases s <;> rfl
theorem st_bnd {α β:Type} (t:Res α) (Q:LS→Res β):zg (bnd t fun _=>Q)=zg (run Q (zg t)):=by
 cases t <;> rfl
def aao (t:Tok):List Value:=[.int .u8 (t.kind:Int),.string t.text,.int .i64 t.n,.int .i64 (t.at':Int),.int .i64 (t.line:Int)]
def acx (t:Tok):Value:=.agg #[.int .u8 (t.kind:Int),.string t.text,.int .i64 t.n,.int .i64 (t.at':Int),.int .i64 (t.line:Int)]
def afl:Nat→ByteArray
 | 0=>⟨#[124,124,32]⟩
 | 1=>⟨#[38,38,32]⟩
 | 2=>⟨#[61,61,32]⟩
 | 3=>⟨#[60,32]⟩
 | 4=>⟨#[43,32,45,32]⟩
 | _=>⟨#[42,32,47,32,37,32]⟩
def aer (s:ByteArray):Nat:=match ab9.find? (fun r=>r.1==s) with
 | some r=>r.2.1
 | none=>0
structure RT (w:World) (pb:Nat):Prop where
 ranks:∃g o cap,3<pb∧g<pb∧w.cell? ⟨3,0,none⟩=some (.slice (some ⟨g,o,none⟩) 6 cap)∧∀i,i<6→w.cell? ⟨g,o+i,none⟩=some (.string (afl i))
 kinds:∃m o,4<pb∧m<pb∧w.cell? ⟨4,0,none⟩=some (.map (some m))∧w.heap[m]?=some o∧∀w':World,w'.heap[m]?=some o→∀s:ByteArray,s.size≤3000→(Go.Instr.lookup 164 (.map (some m)) (.string s) false).run prog w'=.ok (.int .i64 (aer s:Int)) w'
 longest:8<pb∧∃n,w.cell? ⟨8,0,none⟩=some (.int .i64 n)
theorem RT.keep {w w':World} {pb:Nat} (h:RT w pb) (hk:∀k,k<pb→w'.heap[k]?=w.heap[k]?):RT w' pb:=by
 obtain⟨⟨g,o,cap,h1,h2,h3,h4⟩,⟨m,ob,k1,k2,k3,k4,k5⟩,l1,n,l2⟩:=h
 exact⟨⟨g,o,cap,h1,h2,(World.cell?_of_block (hk _ h1)).trans h3,fun i hi=>(World.cell?_of_block (hk _ h2)).trans (h4 i hi)⟩,⟨m,ob,k1,k2,(World.cell?_of_block (hk _ k1)).trans k3,(hk _ k2).trans k4,k5⟩,l1,n,(World.cell?_of_block (hk _ l1)).trans l2⟩
structure PB (w:World) (pb:Nat) (ts:List Tok) (bad:Int×Int) (i:Nat) (f:Int×Int):Prop where
 blk:∃g cap,w.heap[pb]?=some (.cells #[.slice (some ⟨g,0,none⟩) ts.length cap,.int .i64 (i:Int),.int .i64 f.1,.int .i64 f.2,.int .i64 bad.1,.int .i64 bad.2] 72 (0,0))∧g<pb∧∃(cs:Array Value) (t:TypeId) (fr:Nat×Nat),w.heap[g]?=some (.cells cs t fr)∧∀(k:Nat) (x:Tok),ts[k]?=some x→∀(j:Nat) (u:Value),(aao x)[j]?=some u→cs[k*5+j]?=some u
 few:ts.length≤3002
 i:i≤ts.length
 tabs:RT w pb
theorem PB.keep {w w':World} {pb:Nat} {ts:List Tok} {bad:Int×Int} {i:Nat} {f:Int×Int} (h:PB w pb ts bad i f) (hk:∀k,k≤pb→w'.heap[k]?=w.heap[k]?):PB w' pb ts bad i f:=by
 obtain⟨⟨g,cap,h1,h2,cs,t,fr,h3,h4⟩,hf,hi,ht⟩:=h
 exact⟨⟨g,cap,(hk _ (Nat.le_refl _)).trans h1,h2,cs,t,fr,(hk g (by omega)).trans h3,h4⟩,hf,hi,ht.keep fun k h=>hk k (by omega)⟩
theorem PB.lt {w:World} {pb:Nat} {ts:List Tok} {bad:Int×Int} {i:Nat} {f:Int×Int} (h:PB w pb ts bad i f):pb<w.heap.size:=by
 obtain⟨⟨g,cap,h1,_⟩,_,_⟩:=h
 exact(gtE h1).1
structure Clean (S:LS):Prop where
 word:S.kd=1→S.tx=⟨#[]⟩∧S.nn=0
 name:S.kd=2→S.nn=0
 num:S.kd=3→S.tx=⟨#[]⟩
 str:S.kd=4→S.nn=0
 mark:S.kd=1→S.mrk.size≤S.src.size
 kinds:S.kd≤4
theorem azr (s:ByteArray) (i j:Nat):(s.extract i j).size≤s.size:=by rw[ByteArray.size_extract];omega
theorem aw8 {S T:LS} (ht:S.tx=⟨#[]⟩) (hn:S.nn=0) (hk:S.kd=0) (h:abe S=.inr T):Clean T:=by
 unfold abe at h
 split at h
 ·split at h
  ·split at h
   ·cases h;exact⟨fun _=>⟨ht,hn⟩,fun e=>(by cases e),fun e=>(by cases e),fun e=>(by cases e),fun _=>azr _ _ _,(by show (1:Nat)≤4;decide)⟩
   ·split at h
    ·cases h
    ·cases h;exact⟨fun e=>(by cases e),fun _=>hn,fun e=>(by cases e),fun e=>(by cases e),fun e=>(by cases e),(by dsimp only;decide)⟩
  ·split at h
   ·split at h
    ·split at h
     ·cases h
     ·cases h;exact⟨fun e=>(by cases e),fun e=>(by cases e),fun _=>ht,fun e=>(by cases e),fun e=>(by cases e),(by dsimp only;decide)⟩
    ·cases h
   ·split at h
    ·split at h
     ·cases h
     ·split at h
      ·cases h
      ·cases h;exact⟨fun e=>(by cases e),fun e=>(by cases e),fun e=>(by cases e),fun _=>hn,fun e=>(by cases e),(by dsimp only;decide)⟩
    ·split at h
     ·cases h
     ·cases h;exact⟨fun _=>⟨ht,hn⟩,fun e=>(by cases e),fun e=>(by cases e),fun e=>(by cases e),fun _=>azr _ _ _,(by show (1:Nat)≤4;decide)⟩
 ·cases h
  exact⟨fun e=>(by omega),fun e=>(by omega),fun e=>(by omega),fun e=>(by omega),fun e=>(by omega),by omega⟩
theorem ant {S T:LS} (h:abv S=.inr T):Clean T:=aw8 rfl rfl rfl h
theorem Clean.deep {S:LS} (h:Clean S) (d:Nat):Clean (S.deep d):=⟨h.word,h.name,h.num,h.str,h.mark,h.kinds⟩
def At (w:World) (pb:Nat):St→Prop
 | .inl f=>f.1≠0∧∃ts bad i,PB w pb ts bad i (f.1,(f.2:Int))
 | .inr S=>Ok S∧∃ts bad i,PB w pb ts bad i (0,-1)∧ts[i]?=some (zv S)∧Follows S (ts.drop (i+1)) bad∧Clean S
theorem At.pb {w:World} {pb:Nat} {s:St} (h:At w pb s):∃ts bad i f,PB w pb ts bad i f:=by
 cases s with
 | inl f =>
  obtain⟨_,ts,bad,i,h⟩:=h
  exact⟨ts,bad,i,_,h⟩
 | inr S =>
  obtain⟨_,ts,bad,i,h,_⟩:=h
  exact⟨ts,bad,i,_,h⟩
theorem At.lt {w:World} {pb:Nat} {s:St} (h:At w pb s):pb<w.heap.size:=by
 obtain⟨ts,bad,i,f,h⟩:=h.pb
 exact h.lt
theorem At.keep {w w':World} {pb:Nat} {s:St} (h:At w pb s) (hk:∀k,k≤pb→w'.heap[k]?=w.heap[k]?):At w' pb s:=by
 cases s with
 | inl f =>
  obtain⟨h0,ts,bad,i,h⟩:=h
  exact⟨h0,ts,bad,i,h.keep hk⟩
 | inr S =>
  obtain⟨h0,ts,bad,i,h,h2⟩:=h
  exact⟨h0,ts,bad,i,h.keep hk,h2⟩
theorem At.add {w w':World} {pb:Nat} {s:St} (h:At w pb s) (ha:Add w w'):At w' pb s:=h.keep fun k hk=>ha.block k (Nat.lt_of_le_of_lt hk h.lt)
def Rt {α:Type} (t:Res α) (pb:Nat) (F:Value→Prop) (V:α→Value→World→Prop) (w:World) (e:Ending) (w':World):Prop :=
 ∃v,e=.returned v∧F v∧Ext pb w w'∧At w' pb (zg t)∧∀a S,t=.inr (a,S)→V a v w'
def zq (s:St) (m:ByteArray):Bool:=match s with
 | .inl _=>false
 | .inr S=>S.is m
def okB (s:St):Bool:=match s with
 | .inl _=>false
 | .inr _=>true
def anu (e:Int) (s:St):St:=match s with
 | .inl f=>.inl f
 | .inr S=>.inl (e,S.tp)
theorem Add.putNew {a w:World} (h:Add a w) (p:Addr) (hp:a.heap.size≤p.block) (v:Value):Add a (w.setCell p v) :=
 ⟨h.os,h.tape,h.output,by simpa [World.setCell] using h.size,fun k hk=>(Below.heap_setCell _ _ _ _ (by omega)).trans (h.block k hk)⟩
theorem Add.dN {w w':World} (h:Add w w') (n:Nat):Add w (w'.drewN n):=⟨h.os,h.tape,h.output,h.size,h.block⟩
theorem At.tok {w:World} {pb:Nat} {s:St} (h:At w pb s):∃ts bad i f,PB w pb ts bad i f∧∀S,s=.inr S→ts[i]?=some (zv S):=by
 cases s with
 | inl f =>
  obtain⟨_,ts,bad,i,h⟩:=h
  exact⟨ts,bad,i,_,h,fun S e=>by cases e⟩
 | inr S =>
  obtain⟨_,ts,bad,i,h,h2,_⟩:=h
  exact⟨ts,bad,i,_,h,fun T e=>by cases e;exact h2⟩
theorem as4 {w:World} {pb:Nat} {ts:List Tok} {bad:Int×Int} {i:Nat} {f:Int×Int} (h:PB w pb ts bad i f):Calls prog 33 #[.pointer (some ⟨pb,0,none⟩)] w fun e w'=>e=.returned (.bool (f.1==0))∧w'=w:=by
 obtain⟨⟨g,cap,hb,_⟩,_,_⟩:=h
 have c2:=zd hb 2
 simp only[List.getElem?_toArray,List.getElem?_cons_zero,List.getElem?_cons_succ] at c2
 clear hb
 go_enter func33,ntmps33
 go_wp2_with fail
 go_ret
 exact⟨rfl,rfl⟩
theorem aat {w:World} {pb:Nat} {s:St} (h:At w pb s):Calls prog 33 #[.pointer (some ⟨pb,0,none⟩)] w fun e w'=>e=.returned (.bool (okB s))∧w'=w:=by
 cases s with
 | inl f =>
  obtain⟨h0,ts,bad,i,h⟩:=h
  have d:(f.1==0)=false:=by simpa using h0
  exact(as4 h).mono fun e w' q=>⟨q.1.trans (by rw[d];rfl),q.2⟩
 | inr S =>
  obtain⟨h0,ts,bad,i,h,_⟩:=h
  exact(as4 h).mono fun e w' q=>⟨q.1.trans rfl,q.2⟩
def noTok:Tok:=⟨101,⟨#[]⟩,0,0,0⟩
def NowPost (s:St) (w:World) (e:Ending) (w':World):Prop:=∃x,e=.returned (acx x)∧Add w w'∧∀S,s=.inr S→x=zv S
theorem abg {w:World} {pb:Nat} {s:St} (h:At w pb s):Calls prog 34 #[.pointer (some ⟨pb,0,none⟩)] w fun e w'=>NowPost s w e w':=by
 obtain⟨ts,bad,i,f,⟨⟨g,cap,hb,hg,cs,t,fr,hgc,hat⟩,hfew,hil⟩,htok⟩:=h.tok
 have HT:=zb htok
 have hpl:=(gtE hb).1
 have c0:=zd ((aam w (.cells #[.int .u8 0,.string ⟨#[]⟩,.int .i64 0,.int .i64 0,.int .i64 0] 75) hpl).trans hb) 0
 have c1:=zd ((aam w (.cells #[.int .u8 0,.string ⟨#[]⟩,.int .i64 0,.int .i64 0,.int .i64 0] 75) hpl).trans hb) 1
 simp only[List.getElem?_toArray,List.getElem?_cons_zero,List.getElem?_cons_succ] at c0 c1
 obtain⟨L,hL⟩:∃L,ts.length=L:=⟨_,rfl⟩
 rw[hL] at c0 hfew hil
 have hx:=aaq w (.cells #[.int .u8 0,.string ⟨#[]⟩,.int .i64 0,.int .i64 0,.int .i64 0] 75)
 have HA:=zb ((Add.refl w).alloc (.cells #[.int .u8 0,.string ⟨#[]⟩,.int .i64 0,.int .i64 0,.int .i64 0] 75))
 by_cases hlt:i<L
 ·have hlt2:decide ((i:Int)<(L:Int))=true:=by simp;omega
  have hlt3:(i:Int)<(L:Int):=by omega
  obtain⟨x,hx0⟩:∃x,ts[i]?=some x:=⟨_,List.getElem?_eq_getElem (by omega)⟩
  have hgl:g<w.heap.size:=by omega
  have kc:∀(j:Nat) (u:Value),(aao x)[j]?=some u→(w.alloc (.cells #[.int .u8 0,.string ⟨#[]⟩,.int .i64 0,.int .i64 0,.int .i64 0] 75)).cell? ⟨g,i*5+j,none⟩=some u:=fun j u hu=>by
   rw[zd ((aam w _ hgl).trans hgc)]
   exact hat i x hx0 j u hu
  have k0:(w.alloc (.cells #[.int .u8 0,.string ⟨#[]⟩,.int .i64 0,.int .i64 0,.int .i64 0] 75)).cell? ⟨g,i*5,none⟩=some (.int .u8 (x.kind:Int)):=kc 0 _ rfl
  have k1:=kc 1 _ rfl
  have k2:=kc 2 _ rfl
  have k3:=kc 3 _ rfl
  have k4:=kc 4 _ rfl
  have HX:=zb (show ∀S,s=.inr S→x=zv S from fun S e=>by have:=za HT S e;rw[hx0] at this;exact Option.some.inj this)
  have HG:=zb hgl
  clear h hb hgc hat htok hx0 kc hL hgl hlt HT
  go_enter func34,ntmps34
  go_wp2_with fail
  go_quiet (fail)
  go_wp2_with fail
  go_region
  go_wp2_with fail
  have hfin:=hset (i:=4) (hset (i:=3) (hset (i:=2) (hset (i:=1) (hset (i:=0) (show ((w.alloc (.cells #[.int .u8 0,.string ⟨#[]⟩,.int .i64 0,.int .i64 0,.int .i64 0] 75)).drewN (nq+1)).heap[w.heap.size]?=_ from hx) (.int .u8 (x.kind:Int))) (.string x.text)) (.int .i64 x.n)) (.int .i64 (x.at':Int))) (.int .i64 (x.line:Int))
  refine bodyPost_ret (v:=acx x) (results_cell_row Tryz.results34 _ _ w.heap.size 75 _ (0,0) _ rfl hfin underlying75 rfl (by kernel_rfl)) rfl ?_
  have hbl:w.heap.size≤w.heap.size:=Nat.le_refl _
  exact⟨x,rfl,((((((Add.dN (za HA) _).putNew ⟨w.heap.size,0,none⟩ hbl _).putNew ⟨w.heap.size,1,none⟩ hbl _).putNew ⟨w.heap.size,2,none⟩ hbl _).putNew ⟨w.heap.size,3,none⟩ hbl _).putNew ⟨w.heap.size,4,none⟩ hbl _),za HX⟩
 ·have hlt2:decide (i<L)=false:=by simp;omega
  have HX:=zb (show ∀S,s=.inr S→noTok=zv S from fun S e=>by have:=(List.getElem?_eq_some_iff.1 (za HT S e)).1;omega)
  clear h hb hgc hat htok hL hlt HT
  go_enter func34,ntmps34
  go_wp2_with fail
  go_quiet (fail)
  go_wp2_with fail
  have hfin:=hset (i:=4) (hset (i:=3) (hset (i:=2) (hset (i:=1) (hset (i:=0) (show ((w.alloc (.cells #[.int .u8 0,.string ⟨#[]⟩,.int .i64 0,.int .i64 0,.int .i64 0] 75)).drewN nq).heap[w.heap.size]?=_ from hx) (.int .u8 101)) (.string ⟨#[]⟩)) (.int .i64 0)) (.int .i64 0)) (.int .i64 0)
  refine bodyPost_ret (v:=acx noTok) (results_cell_row Tryz.results34 _ _ w.heap.size 75 _ (0,0) _ rfl hfin underlying75 rfl (by kernel_rfl)) rfl ?_
  have hbl:w.heap.size≤w.heap.size:=Nat.le_refl _
  exact⟨noTok,rfl,((((((Add.dN (za HA) _).putNew ⟨w.heap.size,0,none⟩ hbl _).putNew ⟨w.heap.size,1,none⟩ hbl _).putNew ⟨w.heap.size,2,none⟩ hbl _).putNew ⟨w.heap.size,3,none⟩ hbl _).putNew ⟨w.heap.size,4,none⟩ hbl _),za HX⟩
theorem aj8 {S:LS} (h:S.kd=1) (hw:isW S.mrk=true):zv S=⟨119,S.mrk,0,S.tp,S.tl⟩:=by rw[zv,if_pos h,if_pos hw]
theorem af8 {S:LS} (h:S.kd=1) (hw:¬isW S.mrk=true):zv S=⟨120,S.mrk,0,S.tp,S.tl⟩:=by rw[zv,if_pos h,if_neg hw]
theorem as5 {S:LS} (h:S.kd≠1):(zv S).kind≠119∧(zv S).kind≠120:=by
 unfold zv
 rw[if_neg h]
 split
 ·exact⟨by simp,by simp⟩
 ·split
  ·exact⟨by simp,by simp⟩
  ·split <;> exact⟨by simp,by simp⟩
theorem bcq {S:LS} (h:S.kd=2):zv S=⟨110,S.tx,0,S.tp,S.tl⟩:=by rw[zv,if_neg (by omega),if_pos h]
theorem axa {S:LS} (h:S.kd≠2):(zv S).kind≠110:=by
 unfold zv
 split
 ·split <;> (intro e;cases e)
 ·split
  ·simp
  ·split <;> simp
theorem anv (S:LS):(zv S).at'=S.tp∧(zv S).line=S.tl:=by
 unfold zv
 split
 ·exact⟨rfl,rfl⟩
 ·split
  ·exact⟨rfl,rfl⟩
  ·split
   ·exact⟨rfl,rfl⟩
   ·split <;> exact⟨rfl,rfl⟩
theorem abu {w:World} {pb:Nat} {s:St} (h:At w pb s) (m:ByteArray):Calls prog 35 #[.pointer (some ⟨pb,0,none⟩),.string m] w fun e w'=>e=.returned (.bool (zq s m))∧Add w w':=by
 have H:=zb h
 clear h
 cases s with
 | inl f =>
  go_enter func35,ntmps35
  go_wp2_with fail
  refine(abg (za H)).mono ?_
  rintro e w1 ⟨x,rfl,ha,hx⟩
  have HA:=zb ha
  have h2:=((za H).add ha).add ((Add.refl w1).alloc (.cells (aao x).toArray 75))
  have HH:=zb h2
  clear ha h2
  clear hx
  unfold acx
  dsimp only
  go_wp2_with fail
  refine(aat (za HH)).mono ?_
  rintro e w2 ⟨rfl,rfl⟩
  dsimp only [okB,aao]
  go_wp2_with fail
  go_ret
  exact⟨rfl,(za HA).alloc _⟩
 | inr S =>
  by_cases hk:S.kd=1
  ·by_cases hw:isW S.mrk=true
   ·have ht:=aj8 hk hw
    have hb:(S.kd==1)=true:=by simpa using hk
    clear hw
    go_enter func35,ntmps35
    go_wp2_with fail
    refine(abg (za H)).mono ?_
    rintro e w1 ⟨x,rfl,ha,hx⟩
    have HA:=zb ha
    have h2:=((za H).add ha).add ((Add.refl w1).alloc (.cells (aao x).toArray 75))
    have HH:=zb h2
    clear ha h2
    obtain rfl:=(hx S rfl).trans ht
    clear ht hx hk
    unfold acx
    dsimp only
    go_wp2_with fail
    refine(aat (za HH)).mono ?_
    rintro e w2 ⟨rfl,rfl⟩
    dsimp only [okB,aao]
    go_wp2_with fail
    go_ret
    exact⟨by rw[zq,LS.is,hb];rfl,(za HA).alloc _⟩
   ·have ht:=af8 hk hw
    have hb:(S.kd==1)=true:=by simpa using hk
    clear hw
    go_enter func35,ntmps35
    go_wp2_with fail
    refine(abg (za H)).mono ?_
    rintro e w1 ⟨x,rfl,ha,hx⟩
    have HA:=zb ha
    have h2:=((za H).add ha).add ((Add.refl w1).alloc (.cells (aao x).toArray 75))
    have HH:=zb h2
    clear ha h2
    obtain rfl:=(hx S rfl).trans ht
    clear ht hx hk
    unfold acx
    dsimp only
    go_wp2_with fail
    refine(aat (za HH)).mono ?_
    rintro e w2 ⟨rfl,rfl⟩
    dsimp only [okB,aao]
    go_wp2_with fail
    go_ret
    exact⟨by rw[zq,LS.is,hb];rfl,(za HA).alloc _⟩
  ·have hb:(S.kd==1)=false:=by simpa using hk
   obtain⟨n1,n2⟩:=as5 hk
   go_enter func35,ntmps35
   go_wp2_with fail
   refine(abg (za H)).mono ?_
   rintro e w1 ⟨x,rfl,ha,hx⟩
   have HA:=zb ha
   have h2:=((za H).add ha).add ((Add.refl w1).alloc (.cells (aao x).toArray 75))
   have HH:=zb h2
   clear ha h2
   obtain rfl:=hx S rfl
   have b1:(((zv S).kind:Int)==119)=false:=by simp;omega
   have b2:(((zv S).kind:Int)==120)=false:=by simp;omega
   clear hx hk n1 n2
   unfold acx
   dsimp only
   go_wp2_with fail
   refine(aat (za HH)).mono ?_
   rintro e w2 ⟨rfl,rfl⟩
   dsimp only [okB,aao]
   go_wp2_with fail
   go_ret
   exact⟨by rw[zq,LS.is,hb];rfl,(za HA).alloc _⟩
def TokRow (lo:Nat) (w:World) (v:Value) (ts:List Tok):Prop:=(v=.slice none 0 0∧ts=[]) ∨
 ∃g cap,v=.slice (some ⟨g,0,none⟩) ts.length cap∧lo≤g∧g<w.heap.size∧∃(cs:Array Value) (t:TypeId) (fr:Nat×Nat),w.heap[g]?=some (.cells cs t fr)∧∀(k:Nat) (x:Tok),ts[k]?=some x→∀(j:Nat) (u:Value),(aao x)[j]?=some u→cs[k*5+j]?=some u
def LexPost (ts:List Tok) (bad:Int×Int) (w:World) (e:Ending) (w':World):Prop :=
 ∃v,e=.returned (.tuple #[v,.agg #[.int .i64 bad.1,.int .i64 bad.2]])∧Add w w'∧TokRow w.heap.size w' v ts∧ts.length≤3002
def azs (w:World):Prop:=∃t fr,w.heap[0]?=some (.cells #[.int .i64 0,.int .i64 (-1)] t fr)
theorem aio (c:Int) (w:World):Calls prog 59 #[.int .u8 c] w fun e w'=>e=.returned (.bool (dg c))∧w'=w:=by
 rcases(by omega:(48≤c∧c≤57)∨c<48∨(48≤c∧57<c)) with ⟨h1,h2⟩ | h1 | ⟨h1,h2⟩
 all_goals
  go_enter func59,ntmps59
  go_wp2
  go_ret
  exact⟨rb (by rw[Bool.eq_iff_iff];simp[dg];omega),rfl⟩
theorem rcases5 (c:Int):(97≤c∧c≤122)∨(65≤c∧c≤90)∨c=95∨c<65∨(90<c∧c<95)∨c=96∨122<c:=by omega
theorem ahl (c:Int) (w:World):Calls prog 58 #[.int .u8 c] w fun e w'=>e=.returned (.bool (lt c))∧w'=w:=by
 rcases rcases5 c with ⟨h1,h2⟩ | ⟨h1,h2⟩ | h1 | h1 | ⟨h1,h2⟩ | h1 | h1
 all_goals
  go_enter func58,ntmps58
  go_wp2
  go_ret
 all_goals exact⟨rb (by rw[Bool.eq_iff_iff];simp[lt];omega),rfl⟩
theorem bcr (ws:List ByteArray) (hl:ws.length=20) (s:ByteArray) (w:World) (b off cap:Nat) (hc:∀k,k<20→w.cell? ⟨b,off+k,none⟩=some (.string (ws[k]?.getD ByteArray.empty))) :
  Calls prog 50 #[.slice (some ⟨b,off,none⟩) 20 cap,.string s] w fun e w'=>e=.returned (.bool (ae9 ws s))∧w'=w:=by
 have HL:Hid (ws.length=20):=hl
 clear hl
 go_enter func50,ntmps50
 go_wp2
 go_loop [9] (fun i=>∃k:Nat,k≤20∧i=.int .i64 k∧∀j,j<k→((ws[j]?.getD ByteArray.empty).toList==s.toList)=false) (fun i=>20-(intOf i).toNat)
 case atStart=>exact⟨0,by omega,rfl,fun j h=>by omega⟩
 case round =>
  obtain⟨k,hk,rfl,hno⟩:=hrel
  have HN:=zb hno
  clear hno
  by_cases hlt:k<20
  ·have hi:=hc k hlt
   cases hw:((ws[k]?.getD ByteArray.empty).toList==s.toList)
   ·have HW:=zb hw
    go_wp2
    go_round
    case rel =>
     refine⟨k+1,by omega,by go_num,fun j hj=>?_⟩
     by_cases e:j=k
     ·subst e;exact za HW
     ·exact za HN j (by omega)
    case measure=>simp[intOf];omega
   ·have HW:=zb hw
    go_wp2
    go_ret
    exact⟨rb (ams (by rw[HL.out];exact hlt) (za HW)).symm,rfl⟩
  ·go_wp2
   go_ret
   exact⟨rb (aln (fun j hj=>za HN j (by have:=HL.out;omega))).symm,rfl⟩
theorem ap2 {a b:ByteArray}:(a.toList==b.toList)=true↔a=b:=by
 simp only[beq_iff_eq,ByteArray.toList_eq]
 constructor
 ·intro h
  cases a
  cases b
  simp only[ByteArray.mk.injEq]
  exact Array.toList_inj.1 h
 ·intro h
  rw[h]
def atS (s:ByteArray) (v:Value) (i l:Nat):LS:=⟨s,i,l,0,0,0,⟨#[]⟩,⟨#[]⟩,0,0,v⟩
theorem atS_first (s:ByteArray) (v:Value):acf s v=atS s v 0 1:=rfl
theorem adv_at {S:LS} (h:S.dp=0):abv S=abv (atS S.src S.jn S.pl S.ln):=by
 obtain⟨src,pl,ln,kd,tp,tl,mrk,tx,nn,dp,jn⟩:=S
 cases h
 rfl
theorem ao3 {f:Nat} {S T:LS} (h:abv S=abv T):abq f S=abq f T:=by
 cases f with
 | zero=>rfl
 | succ f=>rw[abq,abq,h]
theorem bcs {s:ByteArray} {v:Value} {i l:Nat} (h:i<s.size) (h':s[i].toNat=10) (f:Nat):abq f (atS s v i l)=abq f (atS s v (i+1) (l+1)):=by
 refine ao3 ?_
 unfold abv
 show abe ((atS s v i l).fresh (ab0 s (s.size-i) i l).1 (ab0 s (s.size-i) i l).2)=abe ((atS s v (i+1) (l+1)).fresh (ab0 s (s.size-(i+1)) (i+1) (l+1)).1 (ab0 s (s.size-(i+1)) (i+1) (l+1)).2)
 rw[aph h h']
 rfl
theorem azt {s:ByteArray} {v:Value} {i l:Nat} (h:i<s.size) (h':s[i].toNat=32) (f:Nat):abq f (atS s v i l)=abq f (atS s v (i+1) l):=by
 refine ao3 ?_
 unfold abv
 show abe ((atS s v i l).fresh (ab0 s (s.size-i) i l).1 (ab0 s (s.size-i) i l).2)=abe ((atS s v (i+1) l).fresh (ab0 s (s.size-(i+1)) (i+1) l).1 (ab0 s (s.size-(i+1)) (i+1) l).2)
 rw[amr h h']
 rfl
def aa5 (s:ByteArray) (v:Value) (i l:Nat):LS:=⟨s,i,l,0,i,l,⟨#[]⟩,⟨#[]⟩,0,0,v⟩
theorem alg {s:ByteArray} {v:Value} {i l:Nat} (h:i<s.size) (h1:s[i].toNat≠10) (h2:s[i].toNat≠32):abv (atS s v i l)=abe (aa5 s v i l):=by
 unfold abv
 show abe ((atS s v i l).fresh (ab0 s (s.size-i) i l).1 (ab0 s (s.size-i) i l).2)=_
 rw[api h h1 h2]
 rfl
theorem adv_end {s:ByteArray} {v:Value} {i l:Nat} (h:¬i<s.size):abv (atS s v i l)=.inr (aa5 s v i l):=by
 unfold abv
 show abe ((atS s v i l).fresh (ab0 s (s.size-i) i l).1 (ab0 s (s.size-i) i l).2)=_
 rw[aq9 h]
 exact are h
theorem afr (t:Tok):(aao t).length=5:=rfl
theorem flat5:∀(l:List Tok) (k j:Nat) (x:Tok) (u:Value),l[k]?=some x→(aao x)[j]?=some u→(l.flatMap aao)[k*5+j]?=some u
 | [],k,j,x,u,h,_=>by simp at h
 | t :: r,0,j,x,u,h,hu=>by
  simp only[List.getElem?_cons_zero,Option.some.injEq] at h
  subst h
  have hj:j<5:=by
   have:=(List.getElem?_eq_some_iff.1 hu).1
   rw[afr] at this
   exact this
  rw[List.flatMap_cons,Nat.zero_mul,Nat.zero_add,List.getElem?_append_left (by rw[afr];exact hj)]
  exact hu
 | t :: r,k+1,j,x,u,h,hu=>by
  rw[List.getElem?_cons_succ] at h
  rw[List.flatMap_cons,List.getElem?_append_right (by rw[afr];omega),afr,show (k+1)*5+j-5=k*5+j by omega]
  exact flat5 r k j x u h hu
theorem flat_len (l:List Tok):(l.flatMap aao).length=l.length*5:=by
 induction l with
 | nil=>rfl
 | cons t r ih=>rw[List.flatMap_cons,List.length_append,ih,afr,List.length_cons];omega
theorem TokRow.of {lo:Nat} {w:World} {v:Value} {ts:List Tok} (h:w.ownsRow lo 75 5 v ts.length (ts.flatMap aao)):TokRow lo w v ts:=by
 rcases h.2 with ⟨rfl,h0⟩ | ⟨g,cap,cur,rfl,h2,h3,h4,h5,h6,h7⟩
 ·exact Or.inl ⟨rfl,List.eq_nil_of_length_eq_zero h0⟩
 ·refine Or.inr ⟨g,cap,rfl,h2,(gtE h3).1,cur,_,_,h3,fun k x hk j u hu=>?_⟩
  have e:=flat5 ts k j x u hk hu
  have hkl:=(List.getElem?_eq_some_iff.1 hk).1
  have hj:=(List.getElem?_eq_some_iff.1 hu).1
  rw[afr] at hj
  rw[←h7,List.getElem?_take,if_pos (by omega)] at e
  rw[←Array.getElem?_toList]
  exact e
structure LexEnv (w:World):Prop where
 fine:azs w
 words:∃g o cap,w.cell? ⟨1,0,none⟩=some (.slice (some ⟨g,o,none⟩) 20 cap)∧∀k,k<20→w.cell? ⟨g,o+k,none⟩=some (.string (afa[k]?.getD ByteArray.empty))
 range:∃te pe,w.cell? ⟨7,0,none⟩=some (.iface te pe)
theorem LexEnv.keep {w w':World} (h:LexEnv w) (hk:∀k,k<w.heap.size→w'.heap[k]?=w.heap[k]?):LexEnv w':=by
 obtain⟨⟨t,fr,h1⟩,⟨g,o,cap,h2,h3⟩,te,pe,h4⟩:=h
 refine⟨⟨t,fr,(hk _ (gtE h1).1).trans h1⟩,⟨g,o,cap,?_,fun k hk'=>?_⟩,te,pe,?_⟩
 ·exact(World.cell?_of_block (hk _ (World.block_lt_of_cell? w _ h2))).trans h2
 ·exact(World.cell?_of_block (hk _ (World.block_lt_of_cell? w _ (h3 k hk')))).trans (h3 k hk')
 ·exact(World.cell?_of_block (hk _ (World.block_lt_of_cell? w _ h4))).trans h4
def anw (s:ByteArray) (v:Value) (Q:List Tok×(Int×Int)) (w:World) (gg:Nat) (out line i:Value) (wr:World):Prop :=
 ∃(acc:List Tok) (il ll F:Nat),i=.int .i64 (il:Int)∧line=.int .i64 (ll:Int)∧il≤s.size∧ll≤il+1∧gg=s.size-il+1∧s.size-il<F∧acc.length≤il∧Hid (Add w wr)∧Hid (wr.heap[w.heap.size]?=some (.cells #[.int .i64 0,.int .i64 0] 25 (0,0)))∧Hid (wr.ownsRow (w.heap.size+1) 75 5 out acc.length (acc.flatMap aao))∧Hid ((acc++(abq F (atS s v il ll)).1,(abq F (atS s v il ll)).2)=Q)
theorem ahm:(prog.info? 75).map (fun i=>(i.zero,i.size,i.bytes))=some (some (.agg #[.int .u8 0,.string ByteArray.empty,.int .i64 0,.int .i64 0,.int .i64 0]),5,48):=by kernel_rfl
theorem ap3 (l:List Tok) (x:Tok):l.flatMap aao++aao x=(l++[x]).flatMap aao:=by simp
theorem bct {f:Nat} {s:ByteArray} {v:Value} {i l:Nat} {T:LS} (h:abv (atS s v i l)=.inr T) (hk:T.kd≠0) (hs:T.src=s) (hv:T.jn=v) (hd:T.dp=0):abq (f+1) (atS s v i l)=(zv T :: (abq f (atS s v T.pl T.ln)).1,(abq f (atS s v T.pl T.ln)).2):=by
 rw[aky h hk,ao3 (adv_at hd),hs,hv]
def ah3 (B:Int→Bool) (s:ByteArray) (j:Nat):Bool:=if h:j<s.size then B s[j].toNat else false
theorem avq {B:Int→Bool} {s:ByteArray} {j:Nat} (h:j<s.size):ah3 B s j=B s[j].toNat:=by rw[ah3,dif_pos h]
theorem as6 {B:Int→Bool} {s:ByteArray} {j:Nat} (h:¬j<s.size):ah3 B s j=false:=by rw[ah3,dif_neg h]
theorem azu {B:Int→Bool} {s:ByteArray} {j:Nat} (h:ah3 B s j=true):j<s.size∧ab1 s B (s.size-j) j=ab1 s B (s.size-(j+1)) (j+1):=by
 unfold ah3 at h
 split at h
 ·rename_i hj
  exact⟨hj,ahe hj h⟩
 ·cases h
theorem avr {B:Int→Bool} {s:ByteArray} {j:Nat} (h:ah3 B s j=false):ab1 s B (s.size-j) j=j:=by
 unfold ah3 at h
 split at h
 ·rename_i hj
  exact ara hj h
 ·rename_i hj
  exact aoi hj
theorem adv_str {s:ByteArray} {v:Value} {il ll:Nat} (h:il<s.size) (h34:s[il].toNat=34):abe (aa5 s v il ll)=match aec s (il+1) [] with
  | .inl q=>.inl (3,q)
  | .inr (said,q)=>if 300<said.length then .inl (4,il) else .inr { aa5 s v il ll with pl:=q,kd:=4,tx:=⟨said.toArray⟩ }:=by
 unfold abe
 rw[if_pos (show (aa5 s v il ll).pl<(aa5 s v il ll).src.size from h),if_neg (show ¬lt (zo (aa5 s v il ll).src (aa5 s v il ll).pl)=true by show ¬lt (zo s il)=true;rw[←aa0 h,h34];decide),if_neg (show ¬dg (zo (aa5 s v il ll).src (aa5 s v il ll).pl)=true by show ¬dg (zo s il)=true;rw[←aa0 h,h34];decide),if_pos (show zo (aa5 s v il ll).src (aa5 s v il ll).pl=34 by show zo s il=34;rw[←aa0 h];exact h34)]
 rfl
theorem ahz {a b:ByteArray} (h:a.data.toList=b.data.toList):a=b:=by
 cases a
 cases b
 exact congrArg ByteArray.mk (Array.toList_inj.1 h)
theorem aj9 {l:List UInt8} {t:ByteArray} {b:UInt8} (h:t.data.toList=[b]):(⟨l.toArray⟩:ByteArray)++t=⟨(l++[b]).toArray⟩:=by
 apply ahz
 show ((⟨l.toArray⟩:ByteArray)++t).data.toList=(l++[b])
 rw[ByteArray.data_append,Array.toList_append,h]
theorem avs {s:ByteArray} {p:Nat} (h:p<s.size):(s.extract p (p+1)).data.toList=[UInt8.ofNat (zo s p)]:=by
 rw[ByteArray.data_extract,Array.toList_extract,List.extract_eq_take_drop,show p+1-p=1 by omega,←aa0 h]
 have hl:p<s.data.toList.length:=by simpa using h
 rw[List.drop_eq_getElem_cons hl,List.take_succ_cons,List.take_zero]
 congr 1
 show s.data.toList[p]=UInt8.ofNat (s[p].toNat)
 rw[UInt8.ofNat_toNat]
 rfl
def escK (b:Nat):Int:=if b=110 then 0 else if b=34 then 1 else if b=92 then 2 else -1
theorem escK_ix {b:Nat} (h:b<256):(Lib.indexByte [110,34,92] ((b:Nat):Int).toNat.toUInt8:Int)=escK b:=by
 revert h
 revert b
 decide
theorem ai2 {b:Nat} (h:b<256) (w:World):Calls prog 61 #[.string ⟨#[110,34,92]⟩,.int .u8 ((b:Nat):Int)] w fun e w'=>e=.returned (.int .i64 (escK b))∧w'=w:=by
 rw[←escK_ix h]
 exact Tryz.strings_IndexByte ⟨#[110,34,92]⟩ _ w
def ad7 (s:ByteArray) (p:Nat):Nat→ByteArray
 | 0=>⟨#[]⟩
 | k+1=>if aef s p k=true then twins[k]?.getD ByteArray.empty else ad7 s p k
theorem bcu {s:ByteArray} {v:Value} {il ll:Nat} (h:il<s.size) (hl:lt ((s[il].toNat:Nat):Int)=false) (hd:dg ((s[il].toNat:Nat):Int)=false) (h34:s[il].toNat≠34):abe (aa5 s v il ll)=if adw s il=0 then .inl (3,il) else .inr { aa5 s v il ll with pl:=il+adw s il,kd:=1,mrk:=s.extract il (il+adw s il) }:=by
 unfold abe
 rw[if_pos (show (aa5 s v il ll).pl<(aa5 s v il ll).src.size from h),if_neg (show ¬lt (zo (aa5 s v il ll).src (aa5 s v il ll).pl)=true by show ¬lt (zo s il)=true;rw[←aa0 h,hl];decide),if_neg (show ¬dg (zo (aa5 s v il ll).src (aa5 s v il ll).pl)=true by show ¬dg (zo s il)=true;rw[←aa0 h,hd];decide),if_neg (show ¬zo (aa5 s v il ll).src (aa5 s v il ll).pl=34 by show ¬zo s il=34;rw[←aa0 h];exact h34)]
 rfl
theorem pre_two {l:List UInt8} {a b:UInt8} (h:Lib.hasPrefix l [a,b]=true):∃r,l=a :: b :: r:=by
 unfold Lib.hasPrefix at h
 obtain⟨r,hr⟩:=List.isPrefixOf_iff_prefix.1 h
 exact⟨r,by rw[←hr];rfl⟩
theorem amn {s:ByteArray} {il:Nat} {a b:UInt8} (h:Lib.hasPrefix (s.extract il s.size).data.toList [a,b]=true):il+2≤s.size∧s.extract il (il+2)=⟨#[a,b]⟩:=by
 obtain⟨r,hr⟩:=pre_two h
 have hsz:(s.extract il s.size).data.toList.length=s.size-il:=by
  show (s.extract il s.size).data.toList.length=_
  rw[Array.length_toList]
  show (s.extract il s.size).size=_
  rw[ByteArray.size_extract]
  omega
 rw[hr] at hsz
 simp only[List.length_cons] at hsz
 refine⟨by omega,?_⟩
 have e1:(s.extract il (il+2)).data.toList=((s.extract il s.size).data.toList).take 2:=by
  rw[ByteArray.data_extract,ByteArray.data_extract,Array.toList_extract,Array.toList_extract]
  simp only[List.extract_eq_take_drop]
  rw[List.take_take]
  congr 1
  omega
 rw[hr] at e1
 have e2:(s.extract il (il+2)).data=#[a,b]:=by
  apply Array.toList_inj.1
  rw[e1]
  rfl
 cases hx:s.extract il (il+2) with
 | mk d =>
  rw[hx] at e2
  exact congrArg ByteArray.mk e2
theorem isW_or:isW ⟨#[124,124]⟩=false:=by unfold isW ae9;simp only[ByteArray.toList_eq];decide
theorem isW_and:isW ⟨#[38,38]⟩=false:=by unfold isW ae9;simp only[ByteArray.toList_eq];decide
theorem bcv:isW ⟨#[61,61]⟩=false:=by unfold isW ae9;simp only[ByteArray.toList_eq];decide
theorem axb:∀x∈afa,2≤x.size:=by decide
theorem axc {t:ByteArray} (h:t.size=1):isW t=false:=by
 cases hw:isW t
 ·rfl
 ·exfalso
  unfold isW ae9 at hw
  obtain⟨x,hx,he⟩:=List.any_eq_true.1 hw
  rw[ap2] at he
  have:=axb x hx
  rw[he] at this
  omega
theorem adv_num {s:ByteArray} {v:Value} {il ll E:Nat} (h:il<s.size) (hl:lt ((s[il].toNat:Nat):Int)=false) (hd:dg ((s[il].toNat:Nat):Int)=true) (hE:ab1 s dg (s.size-il) il=E):abe (aa5 s v il ll)=match Lib.parseUintB 64 (s.extract il E).data.toList with
  | .ok u=>if decide ((9223372036854775808:Int)<(u:Int))=true then .inl (2,il) else .inr { aa5 s v il ll with pl:=E,kd:=3,nn:=wrap64 u }
  | _=>.inl (2,il):=by
 subst hE
 unfold abe
 rw[if_pos (show (aa5 s v il ll).pl<(aa5 s v il ll).src.size from h),if_neg (show ¬lt (zo (aa5 s v il ll).src (aa5 s v il ll).pl)=true by show ¬lt (zo s il)=true;rw[←aa0 h,hl];decide),if_pos (show dg (zo (aa5 s v il ll).src (aa5 s v il ll).pl)=true by show dg (zo s il)=true;rw[←aa0 h];exact hd)]
 rfl
theorem num_two {s:ByteArray} {il E:Nat} (h:il<s.size) (hd:dg ((s[il].toNat:Nat):Int)=true) (hE:ab1 s dg (s.size-il) il=E):Lib.parseUintB 64 (s.extract il E).data.toList=.range∨∃u,Lib.parseUintB 64 (s.extract il E).data.toList=.ok u:=by
 subst hE
 rcases avf (S:=aa5 s .nilIface il 0) h (by show dg (zo s il)=true;rw[←aa0 h];exact hd) with h1 | h1
 ·exact Or.inr h1
 ·exact Or.inl h1
theorem adv_let {s:ByteArray} {v:Value} {il ll E:Nat} (h:il<s.size) (hl:lt ((s[il].toNat:Nat):Int)=true) (hE:ab1 s nb (s.size-il) il=E):abe (aa5 s v il ll)=if isW (s.extract il E)=true then .inr { aa5 s v il ll with pl:=E,kd:=1,mrk:=s.extract il E } else if 16<(s.extract il E).size then .inl (4,il) else .inr { aa5 s v il ll with pl:=E,kd:=2,tx:=s.extract il E }:=by
 subst hE
 unfold abe
 rw[if_pos (show (aa5 s v il ll).pl<(aa5 s v il ll).src.size from h),if_pos (show lt (zo (aa5 s v il ll).src (aa5 s v il ll).pl)=true by show lt (zo s il)=true;rw[←aa0 h];exact hl)]
 rfl
theorem anx (s:ByteArray) (B:Int→Bool):∀(f p:Nat),p≤s.size→p≤ab1 s B f p∧ab1 s B f p≤s.size
 | 0,p,h=>⟨Nat.le_refl _,h⟩
 | f+1,p,h=>by
  rw[ab1]
  split
  ·split
   ·have:=anx s B f (p+1) (by omega)
    omega
   ·exact⟨Nat.le_refl _,h⟩
  ·exact⟨Nat.le_refl _,h⟩
theorem afw {w W w3:World} {out:Value} {n:Nat} {xs:List Value} {o:Obj} (ha:Add w W) (hb:W.heap[w.heap.size]?=some (.cells #[.int .i64 0,.int .i64 0] 25 (0,0))) (hown:W.ownsRow (w.heap.size+1) 75 5 out n xs) (hg:(W.alloc o).grownBy w3 out.ownBlock):Add w w3∧w3.heap[w.heap.size]?=some (.cells #[.int .i64 0,.int .i64 0] 25 (0,0)):=by
 have hsz:=ha.size
 have hbl:=(gtE hb).1
 have hrow:∀j,out.ownBlock=some j→w.heap.size+1≤j:=by
  intro j hj
  rcases hown.2 with ⟨rfl,_⟩ | ⟨g,cap,cur,rfl,h2,_⟩
  ·simp[Value.ownBlock] at hj
  ·simp only[Value.ownBlock,Option.some.injEq] at hj
   omega
 have hk:∀k,k≤w.heap.size→w3.heap[k]?=W.heap[k]?:=fun k hk=>by
  rw[hg.block k (by simp;omega) (fun e=>by have:=hrow k e.symm;omega),aam _ _ (by omega)]
 refine⟨⟨hg.os.trans ha.os,hg.tape.trans ha.tape,hg.output.trans ha.output,?_,fun k h=>(hk k (by omega)).trans (ha.block k h)⟩,(hk _ (Nat.le_refl _)).trans hb⟩
 have:=hg.size
 simp at this
 omega
theorem ao4 {w:World} {base:Nat} {out:Value} {n:Nat} {xs:List Value} (h:w.ownsRow base 75 5 out n xs) {w':World} {lo:Nat} (hl:∀g,out.ownBlock=some g→g<lo) (hk:∀k,k<lo→w'.heap[k]?=w.heap[k]?):w'.ownsRow base 75 5 out n xs:=by
 refine⟨h.1,?_⟩
 rcases h.2 with h' | ⟨g,cap,cur,rfl,h2,h3,h4⟩
 ·exact Or.inl h'
 ·exact Or.inr ⟨g,cap,cur,rfl,h2,(hk g (hl g rfl)).trans h3,h4⟩
theorem as7 {w:World} {base:Nat} {out:Value} {n:Nat} {xs:List Value} (h:w.ownsRow base 75 5 out n xs):∀g,out.ownBlock=some g→g<w.heap.size:=by
 intro g hg
 rcases h.2 with ⟨rfl,_⟩ | ⟨g',cap,cur,rfl,h2,h3,_⟩
 ·simp[Value.ownBlock] at hg
 ·simp only[Value.ownBlock,Option.some.injEq] at hg
  subst hg
  exact(gtE h3).1
structure TB (w wr W:World) (out:Value) (acc:List Tok) (x:Tok):Prop where
 add:Add w W
 b3:W.heap[w.heap.size]?=some (.cells #[.int .i64 0,.int .i64 0] 25 (0,0))
 own:W.ownsRow (w.heap.size+1) 75 5 out acc.length (acc.flatMap aao)
 box:W.heap[wr.heap.size]?=some (.cells #[.int .u8 (x.kind:Int),.string x.text,.int .i64 x.n,.int .i64 (x.at':Int),.int .i64 (x.line:Int)] 75 (0,0))
 far:w.heap.size<wr.heap.size
 low:∀g,out.ownBlock=some g→g<wr.heap.size
theorem TB.start {w wr:World} {out:Value} {acc:List Tok} (ha:Add w wr) (hb:wr.heap[w.heap.size]?=some (.cells #[.int .i64 0,.int .i64 0] 25 (0,0))) (ho:wr.ownsRow (w.heap.size+1) 75 5 out acc.length (acc.flatMap aao)) (i l:Nat) :
  TB w wr (wr.alloc (.cells #[.int .u8 0,.string ⟨#[]⟩,.int .i64 0,.int .i64 (i:Int),.int .i64 (l:Int)] 75)) out acc ⟨0,⟨#[]⟩,0,i,l⟩ :=
 ⟨ha.alloc _,(aam _ _ (gtE hb).1).trans hb,ao4 ho (as7 ho) (fun k hk=>aam _ _ hk),aaq _ _,(gtE hb).1,as7 ho⟩
theorem TB.keep {w wr W W':World} {out:Value} {acc:List Tok} {x:Tok} (h:TB w wr W out acc x) (hb:Add W W'):TB w wr W' out acc x :=
 ⟨h.add.trans hb,(hb.block _ (gtE h.b3).1).trans h.b3,ao4 h.own (as7 h.own) (fun k hk=>hb.block k hk),(hb.block _ (gtE h.box).1).trans h.box,h.far,h.low⟩
theorem TB.put {w wr W:World} {out:Value} {acc:List Tok} {x:Tok} (h:TB w wr W out acc x) (i:Nat) (u:Value) {y:Tok} (hy:(#[Value.int .u8 (x.kind:Int),.string x.text,.int .i64 x.n,.int .i64 (x.at':Int),.int .i64 (x.line:Int)]:Array Value).setIfInBounds i u=#[Value.int .u8 (y.kind:Int),.string y.text,.int .i64 y.n,.int .i64 (y.at':Int),.int .i64 (y.line:Int)]):TB w wr (W.setCell ⟨wr.heap.size,i,none⟩ u) out acc y:=by
 have hf:=h.far
 refine⟨⟨h.add.os,h.add.tape,h.add.output,by simpa [World.setCell] using h.add.size,fun k hk=>(aaf _ (by omega)).trans (h.add.block k hk)⟩,(aaf _ (by omega)).trans h.b3,ao4 h.own h.low (fun k hk=>aaf _ (by omega)),?_,h.far,h.low⟩
 rw[hset h.box u,hy]
theorem TB.drew {w wr W:World} {out:Value} {acc:List Tok} {x:Tok} (h:TB w wr W out acc x):TB w wr W.drew out acc x:=⟨⟨h.add.os,h.add.tape,h.add.output,h.add.size,h.add.block⟩,h.b3,h.own,h.box,h.far,h.low⟩
theorem agj {f:Nat} {s:ByteArray} {v:Value} {i l:Nat} {e:Int} {p:Nat} {acc:List Tok} {Q:List Tok×(Int×Int)} (h:abv (atS s v i l)=.inl (e,p)) (hq:(acc++(abq (f+1) (atS s v i l)).1,(abq (f+1) (atS s v i l)).2)=Q):Q=(acc,(e,(p:Int))):=by
 rw[amk h,List.append_nil] at hq
 exact hq.symm
theorem ag4 {s:ByteArray} {v:Value} {Q:List Tok×(Int×Int)} {w w3:World} {acc:List Tok} {il ll Fu E g cap:Nat} {T:LS} {x:Tok} (hadv:abv (atS s v il ll)=.inr T) (hk:T.kd≠0) (hs:T.src=s) (hj:T.jn=v) (hd:T.dp=0) (hpl:T.pl=E) (hln:T.ln=ll) (htok:zv T=x)
  (hq:(acc++(abq Fu (atS s v il ll)).1,(abq Fu (atS s v il ll)).2)=Q) (hE:il<E) (hE2:E≤s.size) (hll:ll≤il+1) (hF:s.size-il<Fu) (hacc:acc.length≤il) (had:Add w w3) (hb3:w3.heap[w.heap.size]?=some (.cells #[.int .i64 0,.int .i64 0] 25 (0,0)))
  (hown:w3.ownsRow (w.heap.size+1) 75 5 (.slice (some ⟨g,0,none⟩) (acc.length+1) cap) (acc.length+1) (acc.flatMap aao++aao x)):anw s v Q w (s.size-E+1) (.slice (some ⟨g,0,none⟩) (acc.length+1) cap) (.int .i64 (ll:Int)) (.int .i64 (E:Int)) w3:=by
 obtain⟨F,rfl⟩:∃F,Fu=F+1:=⟨Fu-1,by omega⟩
 rw[bct (f:=F) hadv hk hs hj hd,htok,hpl,hln] at hq
 rw[ap3] at hown
 refine⟨acc++[x],E,ll,F,rfl,rfl,hE2,by omega,rfl,by omega,by simp;omega,had,hb3,by rw[List.length_append];exact hown,?_⟩
 show (acc++[x]++_,_)=Q
 rw[List.append_assoc]
 exact hq
theorem agk {w wr W:World} {out:Value} {acc:List Tok} {x:Tok} {Q:List Tok×(Int×Int)} {e:Int} {p:Int} (h:TB w wr W out acc x) (hq:Q=(acc,(e,p))) (hl:acc.length≤3002) (a b:Value):LexPost Q.1 Q.2 w (.returned (.tuple #[out,.agg #[.int .i64 e,.int .i64 p]])) ((W.setCell ⟨w.heap.size,0,none⟩ a).setCell ⟨w.heap.size,1,none⟩ b):=by
 subst hq
 have hk:∀k,k≠w.heap.size→((W.setCell ⟨w.heap.size,0,none⟩ a).setCell ⟨w.heap.size,1,none⟩ b).heap[k]?=W.heap[k]?:=fun k hk=>(aaf _ hk).trans (aaf _ hk)
 refine⟨out,rfl,⟨h.add.os,h.add.tape,h.add.output,by simpa [World.setCell] using h.add.size,fun k hk'=>(hk k (by omega)).trans (h.add.block k hk')⟩,?_,hl⟩
 have ho:((W.setCell ⟨w.heap.size,0,none⟩ a).setCell ⟨w.heap.size,1,none⟩ b).ownsRow (w.heap.size+1) 75 5 out acc.length (acc.flatMap aao):=by
  refine⟨h.own.1,?_⟩
  rcases h.own.2 with h' | ⟨g,cap,cur,rfl,h2,h3,h4⟩
  ·exact Or.inl h'
  ·exact Or.inr ⟨g,cap,cur,rfl,h2,(hk g (by omega)).trans h3,h4⟩
 rcases TokRow.of ho with h' | ⟨g,cap,h1,h2,h3⟩
 ·exact Or.inl h'
 ·exact Or.inr ⟨g,cap,h1,by omega,h3⟩
theorem LexPost.drew {ts:List Tok} {bad:Int×Int} {w w':World} {e:Ending} (h:LexPost ts bad w e w'):LexPost ts bad w e w'.drew:=by
 obtain⟨v,h1,h2,h3,h4⟩:=h
 exact⟨v,h1,⟨h2.os,h2.tape,h2.output,h2.size,h2.block⟩,h3,h4⟩
theorem bcw {w W:World} {out:Value} {ts:List Tok} {e p:Int} (ha:Add w W) (ho:W.ownsRow (w.heap.size+1) 75 5 out ts.length (ts.flatMap aao)) (hl:ts.length≤3002) (a b:Value):LexPost ts (e,p) w (.returned (.tuple #[out,.agg #[.int .i64 e,.int .i64 p]])) ((W.setCell ⟨w.heap.size,0,none⟩ a).setCell ⟨w.heap.size,1,none⟩ b):=by
 have hk:∀k,k≠w.heap.size→((W.setCell ⟨w.heap.size,0,none⟩ a).setCell ⟨w.heap.size,1,none⟩ b).heap[k]?=W.heap[k]?:=fun k hk=>(aaf _ hk).trans (aaf _ hk)
 refine⟨out,rfl,⟨ha.os,ha.tape,ha.output,by simpa [World.setCell] using ha.size,fun k hk'=>(hk k (by omega)).trans (ha.block k hk')⟩,?_,hl⟩
 have ho':((W.setCell ⟨w.heap.size,0,none⟩ a).setCell ⟨w.heap.size,1,none⟩ b).ownsRow (w.heap.size+1) 75 5 out ts.length (ts.flatMap aao):=by
  refine⟨ho.1,?_⟩
  rcases ho.2 with h' | ⟨g,cap,cur,rfl,h2,h3,h4⟩
  ·exact Or.inl h'
  ·exact Or.inr ⟨g,cap,cur,rfl,h2,(hk g (by omega)).trans h3,h4⟩
 rcases TokRow.of ho' with h' | ⟨g,cap,h1,h2,h3⟩
 ·exact Or.inl h'
 ·exact Or.inr ⟨g,cap,h1,by omega,h3⟩
theorem lex_end {f:Nat} {s:ByteArray} {v:Value} {l:Nat} {acc:List Tok} {Q:List Tok×(Int×Int)} (hq:(acc++(abq (f+1) (atS s v s.size l)).1,(abq (f+1) (atS s v s.size l)).2)=Q):Q=(acc++[⟨101,⟨#[]⟩,0,s.size,l⟩],(0,-1)):=by
 rw[aml (adv_end (by omega)) rfl] at hq
 exact hq.symm
end Go.Proofs.YtndgajlidckcdaaGreatDoor
