/- A part. -/
import Derived.Test.YtndgajlidckcdaaGreatDoorM09
open Go.Proofs.Tryz
namespace Go.Proofs.YtndgajlidckcdaaGreatDoor
open Go.RowKit
set_option linter.unusedVariables false
set_option linter.unusedSimpArgs false
set_option maxRecDepth 100000
set_option maxHeartbeats 8000000
def LS.sj (v:Value) (S:LS):LS:={ S with jn:=v }
def aj (v:Value):(Int×Nat) ⊕ LS→(Int×Nat) ⊕ LS
 | .inl f=>.inl f
 | .inr T=>.inr (T.sj v)
def mj {α:Type} (v:Value):Res α→Res α
 | .inl f=>.inl f
 | .inr x=>.inr (x.1,x.2.sj v)
theorem bbb (v:Value) (S:LS):abe (S.sj v)=aj v (abe S):=by
 unfold abe
 cases h1:Lib.parseUintB 64 (aee S).data.toList <;> cases h2:aec S.src (S.pl+1) []
 all_goals
  have h1':Lib.parseUintB 64 (aee (S.sj v)).data.toList=_:=h1
  have h2':aec (S.sj v).src ((S.sj v).pl+1) []=_:=h2
  rw[h1',h2']
  simp only[apply_ite (aj v)]
  rfl
def JP {α:Type} (v:Value) (P:LS→Res α):Prop:=∀S,P (S.sj v)=mj v (P S)
section
variable {α β:Type} {v:Value}
theorem jb {t t':Res α} {k k':α→LS→Res β} (h:t'=mj v t) (hk:∀a S,k' a (S.sj v)=mj v (k a S)):bnd t' k'=mj v (bnd t k):=by
 rw[h]
 cases t with
 | inl f=>rfl
 | inr x=>exact hk x.1 x.2
theorem jf {c:Prop} [Decidable c] {a a' b b':Res α} (ha:a'=mj v a) (hb:b'=mj v b):(if c then a' else b')=mj v (if c then a else b):=by
 split
 ·exact ha
 ·exact hb
end
section
variable {v:Value}
theorem adv:JP v zi:=fun S=>by
 have e:abv (S.sj v)=aj v (abv S):=bbb v (S.fresh _ _)
 unfold zi
 rw[e]
 cases abv S <;> rfl
theorem afi {m:ByteArray}:JP v (aab m):=fun S=>jf (jb (adv S) fun _ _=>rfl) rfl
theorem ad8 {m:ByteArray}:JP v (zj m):=fun S=>jf (adv S) rfl
theorem agt:JP v z6:=fun S=>jf (jb (adv S) fun _ _=>rfl) rfl
theorem av0 {n:Nat}:JP v (aco n):=fun S=>jf rfl rfl
structure LJ (x:Value) (L:Low):Prop where
 v:JP x L.V
 s:JP x L.S
 n:JP x L.N
theorem param_j:JP v ac1:=fun S=>jb (agt S) fun _ _=>rfl
theorem aoe {shut:ByteArray} {P:LS→Res Tree} (hP:JP v P):∀(f:Nat) (acc:List Tree),JP v (adx shut P f acc)
 | 0,_=>fun _=>rfl
 | f+1,acc=>fun S=>jb (av0 S) fun _ S=>jb (hP S) fun _ S=>jb (afi S) fun _ S=>jf rfl (jb (ad8 S) fun _ S=>aoe hP f _ S)
theorem amq {shut:ByteArray} {P:LS→Res Tree} (hP:JP v P):JP v (abp shut P):=fun S=>jb (afi S) fun _ S=>jf rfl (aoe hP _ _ S)
theorem bdw:JP v af0:=fun S=>jb (ad8 S) fun _ S=>jb (amq param_j S) fun _ _=>rfl
theorem ape {shut:ByteArray} {P:LS→Res Tree} (hP:JP v P):∀(f:Nat) (acc:List Tree),JP v (abz shut P f acc)
 | 0,_=>fun _=>rfl
 | f+1,acc=>fun S=>jb (afi S) fun _ S=>jf rfl (jb (hP S) fun _ S=>ape hP f _ S)
theorem aof {k:Nat}:JP v (ad5 k):=fun S=>jb (adv S) fun _ _=>rfl
theorem apf {P:LS→Res Tree} (hP:JP v P):JP v (adl P):=fun S=>jb (hP S) fun _ S=>jb (ad8 S) fun _ _=>rfl
theorem bbc {k:Nat} {P:LS→Res Tree} (hP:JP v P):JP v (ah1 k P):=fun S=>jb (adv S) fun _ S=>jb (apf hP S) fun _ _=>rfl
theorem field_j {n:Nat}:JP v (ady n):=fun S=>jb (adv S) fun _ S=>jb (av0 S) fun _ S=>jb (agt S) fun _ S=>jb (ad8 S) fun _ _=>rfl
theorem at1:∀(f:Nat) (acc:List Tree),JP v (adf f acc)
 | 0,_=>fun _=>rfl
 | f+1,acc=>fun S=>jf (jb (field_j S) fun _ S=>at1 f _ S) rfl
theorem under_j:JP v ac8:=fun S=>jb (afi S) fun _ S=>jf (agt S) rfl
theorem aog {lev:Nat} {P:LS→Res Tree} (hP:JP v P):∀(f:Nat) (t:Tree),JP v (acl lev P f t)
 | 0,_=>fun _=>rfl
 | f+1,t=>fun S=>jf rfl (jb (adv S) fun _ T=>jb (hP T) fun _ U=>aog hP f _ U)
theorem jo_j {P:LS→Res Tree} (hP:JP v P):∀n,JP v (jo P n)
 | 0=>hP
 | n+1=>fun S=>jb (jo_j hP n S) fun _ S=>aog (jo_j hP n) _ _ S
theorem at2 {P:LS→Res Tree} (hP:JP v P):JP v (abi P):=fun S=>jf rfl (jb (hP { S with dp:=S.dp+1 }) fun _ _=>rfl)
end
theorem ajo {v:Value} {L:Low} (h:LJ v L):JP v (aaj L):=fun S=>jb (ad8 S) fun _ S=>jb (ape h.s _ _ S) fun _ _=>rfl
theorem at3 {v:Value} {L:Low} (h:LJ v L):JP v (adn L):=fun S=>jb (bdw S) fun _ S=>jb (ajo h S) fun _ _=>rfl
theorem alj {v:Value} {L:Low} (h:LJ v L):JP v (aa7 L):=fun S=>jb (ad8 S) fun _ S=>jb (h.v S) fun _ S=>jb (ad8 S) fun _ _=>rfl
theorem at4 {v:Value} {L:Low} (h:LJ v L):JP v (aek L):=fun S=>amq h.v S
theorem bdy {v:Value} {L:Low} (h:LJ v L):JP v (aa9 L):=fun S=>jb (agt S) fun _ S=>jb (at3 h S) fun _ _=>rfl
theorem fn_j {v:Value} {L:Low} (h:LJ v L):JP v (fnP L):=fun S=>jb (adv S) fun _ S=>jb (agt S) fun _ S=>jb (at3 h S) fun _ _=>rfl
theorem bdz {v:Value} {L:Low} (h:LJ v L):JP v (age L):=fun S=>jb (adv S) fun _ S=>jb (at3 h S) fun _ _=>rfl
theorem class_j {v:Value} {L:Low} (h:LJ v L):JP v (ace L):=fun S=>jb (adv S) fun _ S=>jb (agt S) fun _ S=>jb (under_j S) fun _ S=>jb (ad8 S) fun _ S=>jb (at1 _ _ S) fun _ S=>jb (ape (bdy h) _ _ S) fun _ _=>rfl
theorem au9 {v:Value} {L:Low} (h:LJ v L):JP v (aak L):=fun S=>jf (class_j h S) (jf (fn_j h S) (h.s S))
theorem bbd {v:Value} {L:Low} (h:LJ v L):∀(f:Nat) (acc:List Tree),JP v (aeg L f acc)
 | 0,_=>fun _=>rfl
 | f+1,acc=>fun S=>jf rfl (jb (au9 h S) fun _ S=>bbd h f _ S)
theorem bbe {v:Value} {L:Low} (h:LJ v L):JP v (afg L):=fun S=>jb (bbd h _ _ S) fun _ _=>rfl
theorem ayb {v:Value} {L:Low} (h:LJ v L):JP v (afb L):=fun S=>jb (adv S) fun _ S=>jb (agt S) fun _ S=>jb (ad8 S) fun _ S=>jb (apf h.v S) fun _ _=>rfl
theorem aqf {v:Value} {L:Low} (h:LJ v L) {k:Nat}:JP v (abx L k):=fun S=>jb (adv S) fun _ S=>jb (alj h S) fun _ S=>jb (ajo h S) fun _ _=>rfl
theorem bd0 {v:Value} {L:Low} (h:LJ v L):JP v (ad9 L):=fun S=>jb (aqf h S) fun _ S=>jb (afi S) fun _ S=>jf (jb (ajo h S) fun _ _=>rfl) rfl
theorem ayc {v:Value} {L:Low} (h:LJ v L):JP v (ado L):=fun S=>jb (adv S) fun _ S=>jb (afi S) fun _ S=>jf rfl (jb (apf h.v S) fun _ _=>rfl)
theorem catch_j {v:Value} {L:Low} (h:LJ v L):JP v (ae7 L):=fun S=>jb (ad8 S) fun _ S=>jb (ad8 S) fun _ S=>jb (agt S) fun _ S=>jb (ad8 S) fun _ S=>jb (ajo h S) fun _ _=>rfl
theorem try_j {v:Value} {L:Low} (h:LJ v L):JP v (ajx L):=fun S=>jb (adv S) fun _ S=>jb (ajo h S) fun _ S=>jb (catch_j h S) fun _ _=>rfl
theorem bareS_j {v:Value} {L:Low} (h:LJ v L):JP v (ae1 L):=fun S=>jb (h.v S) fun _ S=>jf (jf (jb (adv S) fun _ S=>jb (h.v S) fun _ S=>jb (ad8 S) fun _ _=>rfl) rfl) (jb (ad8 S) fun _ _=>rfl)
theorem any_j {v:Value} {L:Low} (h:LJ v L):JP v (aal L):=fun S=>jf (ayb h S) (jf (bd0 h S) (jf (aqf h S) (jf (ayc h S) (jf (bbc h.v S) (jf (bbc (alj h) S) (jf (try_j h S) (bareS_j h S)))))))
theorem bd1 {v:Value} {L:Low} (h:LJ v L) {t:Tree}:JP v (adk L t):=fun S=>jb (agt S) fun _ S=>jb (afi S) fun _ S=>jf (jb (at4 h S) fun _ _=>rfl) rfl
theorem aq8 {v:Value} {L:Low} (h:LJ v L):∀(f:Nat) (t:Tree),JP v (abd L f t)
 | 0,_=>fun _=>rfl
 | f+1,t=>fun S=>jb (afi S) fun _ S=>jf (jb (bd1 h S) fun _ S=>aq8 h f _ S) (jb (afi S) fun _ S=>jf (jb (h.v S) fun _ S=>jb (ad8 S) fun _ S=>aq8 h f _ S) (jb (afi S) fun _ S=>jf (jb (at4 h S) fun _ S=>aq8 h f _ S) rfl))
theorem av1 {v:Value} {L:Low} (h:LJ v L) {k ln:Nat}:JP v (adh L k ln):=fun S=>jb (agt S) fun _ S=>jb (ad8 S) fun _ S=>jb (at4 h S) fun _ _=>rfl
theorem bd2 {v:Value} {L:Low} (h:LJ v L):JP v (abm L):=fun S=>jf (alj h S) (jf (jb (adv S) fun _ S=>jb (amq h.v S) fun _ _=>rfl) (jf (bdz h S) (jf (jb (adv S) fun _ S=>av1 h S) (jf (jb (adv S) fun _ S=>jb (ad8 S) fun _ S=>av1 h S) (jf (jb (adv S) fun _ S=>jb (ad8 S) fun _ S=>jb (ad8 S) fun _ _=>rfl) (jf (jb (adv S) fun _ S=>jb (alj h S) fun _ _=>rfl) rfl))))))
theorem bd3 {v:Value} {L:Low} (h:LJ v L):JP v (zr L):=fun S=>jf (aof S) (jf (aof S) (jf (aof S) (jf (bd2 h S) (aof S))))
theorem ayd {v:Value} {L:Low} (h:LJ v L):JP v (ab5 L):=fun S=>jb (bd3 h S) fun _ S=>aq8 h _ _ S
theorem at5 {v:Value} {L:Low} (h:LJ v L) {k:Nat}:JP v (aea L k):=fun S=>jb (adv S) fun _ S=>jb (h.n S) fun _ _=>rfl
theorem aoh {v:Value} {L:Low} (h:LJ v L):JP v (aae L):=fun S=>jf (at5 h S) (jf (at5 h S) (ayd h S))
theorem alk (v:Value):∀d,LJ v (abr d)
 | 0=>⟨fun _=>rfl,fun _=>rfl,fun _=>rfl⟩
 | d+1=>⟨at2 (jo_j (aoh (alk v d)) 6),at2 (any_j (alk v d)),at2 (aoh (alk v d))⟩
theorem ajp {s:ByteArray} (v v':Value):(∃f,adb s v=.inl f∧adb s v'=.inl f)∨∃t S S',adb s v=.inr (t,S)∧adb s v'=.inr (t,S'):=by
 have h:adb s v'=mj v' (adb s v):=by
  have e:abv (acf s v')=aj v' (abv (acf s v)):=bbb v' ((acf s v).fresh _ _)
  unfold adb
  rw[e]
  cases abv (acf s v) with
  | inl f=>rfl
  | inr S=>exact bbe (alk v' 26) S
 cases h1:adb s v with
 | inl f=>exact Or.inl ⟨f,rfl,by rw[h,h1];rfl⟩
 | inr x=>exact Or.inr ⟨x.1,x.2,x.2.sj v',rfl,by rw[h,h1];rfl⟩
end Go.Proofs.YtndgajlidckcdaaGreatDoor
