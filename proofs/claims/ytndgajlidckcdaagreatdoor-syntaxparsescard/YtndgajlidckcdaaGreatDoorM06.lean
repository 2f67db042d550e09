/- A part. -/
import Derived.Test.YtndgajlidckcdaaGreatDoorM05
open Go.Proofs.Tryz
namespace Go.Proofs.YtndgajlidckcdaaGreatDoor
open Go.RowKit
set_option linter.unusedVariables false
set_option linter.unusedSimpArgs false
set_option maxRecDepth 100000
set_option maxHeartbeats 8000000
def tk (l:List UInt8):ByteArray:=⟨l.toArray⟩
def ae5:ByteArray:=⟨#[99,108,97,115,115]⟩
def ae6:ByteArray:=⟨#[102,105,101,108,100]⟩
def wFn:ByteArray:=⟨#[102,110]⟩
def abt:ByteArray:=⟨#[118,97,114]⟩
def wIf:ByteArray:=⟨#[105,102]⟩
def ag8:ByteArray:=⟨#[101,108,115,101]⟩
def abb:ByteArray:=⟨#[119,104,105,108,101]⟩
def abk:ByteArray:=⟨#[114,101,116,117,114,110]⟩
def ach:ByteArray:=⟨#[116,104,114,111,119]⟩
def ad4:ByteArray:=⟨#[116,114,121]⟩
def aez:ByteArray:=⟨#[99,97,116,99,104]⟩
def ac7:ByteArray:=⟨#[112,114,105,110,116]⟩
def aaw:ByteArray:=⟨#[116,114,117,101]⟩
def aar:ByteArray:=⟨#[102,97,108,115,101]⟩
def ab6:ByteArray:=⟨#[110,105,108]⟩
def abn:ByteArray:=⟨#[116,104,105,115]⟩
def ab7:ByteArray:=⟨#[110,101,119]⟩
def aa8:ByteArray:=⟨#[115,117,112,101,114]⟩
def aca:ByteArray:=⟨#[105,110,112,117,116]⟩
def aed:ByteArray:=⟨#[108,101,110]⟩
def nd (k ln:Nat) (ks:List Tree):Tree:=⟨k,zc,zc,0,ln,ks⟩
def ndT (k:Nat) (s:ByteArray) (ln:Nat) (ks:List Tree):Tree:=⟨k,s,zc,0,ln,ks⟩
def adl (P:LS→Res Tree) (S:LS):Res Tree:=bnd (P S) fun t S1=>bnd (zj acg S1) fun _ S2=>.inr (t,S2)
theorem ai7 {P:LS→Res Tree} (hP:Good P):Good (adl P):=fun S a S' ok h=>by
 obtain⟨t,S1,h1,h⟩:=ze h
 obtain⟨_,S2,h2,h⟩:=ze h
 cases h
 have o1:=hP _ _ _ ok h1
 exact o1.trans (aau o1.ok h2)
def aa9 (L:Low) (S:LS):Res Tree:=bnd (z6 S) fun s S2=>bnd (adn L S2) fun pb S3=>.inr (ndT 4 s S.tl [pb.1,pb.2],S3)
theorem ag9 {L:Low} (hL:LowGood L):Good (aa9 L):=fun S a S' ok h=>by
 obtain⟨s,S1,h1,h⟩:=ze h
 obtain⟨pb,S2,h2,h⟩:=ze h
 cases h
 have o1:=acn ok h1
 exact o1.trans (ajv hL _ _ _ o1.ok h2)
def fnP (L:Low) (S:LS):Res Tree:=bnd (zi S) fun _ S1=>bnd (z6 S1) fun s S2=>bnd (adn L S2) fun pb S3=>.inr (ndT 5 s S.tl [pb.1,pb.2],S3)
theorem fnP_on {L:Low} (hL:LowGood L) {S S':LS} {a:Tree} (ok:Ok S) (hk:S.kd≠0) (h:fnP L S=.inr (a,S')):On S S':=by
 obtain⟨_,S1,h1,h⟩:=ze h
 obtain⟨s,S2,h2,h⟩:=ze h
 obtain⟨pb,S3,h3,h⟩:=ze h
 cases h
 have o1:=aan ok hk h1
 have o2:=acn o1.ok h2
 exact(o1.trans o2).trans (ajv hL _ _ _ o2.ok h3)
def age (L:Low) (S:LS):Res Tree:=bnd (zi S) fun _ S1=>bnd (adn L S1) fun pb S2=>.inr (nd 28 S.tl [pb.1,pb.2],S2)
theorem av9 {L:Low} (hL:LowGood L) {S S':LS} {a:Tree} (ok:Ok S) (hk:S.kd≠0) (h:age L S=.inr (a,S')):On S S':=by
 obtain⟨_,S1,h1,h⟩:=ze h
 obtain⟨pb,S2,h2,h⟩:=ze h
 cases h
 have o1:=aan ok hk h1
 exact o1.trans (ajv hL _ _ _ o1.ok h2)
def ady (n:Nat) (S:LS):Res Tree:=bnd (zi S) fun _ S1=>bnd (aco n S1) fun _ S2=>bnd (z6 S2) fun s S3=>bnd (zj acg S3) fun _ S4=>.inr (ndT 3 s S.tl [],S4)
theorem aiu {n:Nat} {S S':LS} {a:Tree} (ok:Ok S) (hk:S.kd≠0) (h:ady n S=.inr (a,S')):On S S'∧n≠8:=by
 obtain⟨_,S1,h1,h'⟩:=ze h
 clear h
 obtain⟨_,S2,h2,h⟩:=ze h'
 clear h'
 have hn:n≠8:=fun e=>by rw[aco,if_pos e] at h2;cases h2
 obtain rfl:=ahh h2
 obtain⟨s,S3,h3,h'⟩:=ze h
 obtain⟨_,S4,h4,h''⟩:=ze h'
 cases h''
 have o1:=aan ok hk h1
 have o3:=acn o1.ok h3
 exact⟨(o1.trans o3).trans (aau o3.ok h4),hn⟩
def adf:Nat→List Tree→LS→Res (List Tree)
 | 0,_,S=>.inl (0,S.tp)
 | f+1,acc,S=>if S.is ae6=true then bnd (ady acc.length S) fun t S1=>adf f (acc++[t]) S1 else .inr (acc,S)
theorem amx:∀(f:Nat) (acc l:List Tree) (S S':LS),Ok S→adf f acc S=.inr (l,S')→On0 S S'
 | 0,acc,l,S,S',ok,h=>by cases h
 | f+1,acc,l,S,S',ok,h=>by
  rw[adf] at h
  split at h
  ·rename_i hi
   obtain⟨t,S1,h1,h⟩:=ze h
   have o1:=(aiu ok (aai hi) h1).1
   exact o1.weak.trans (amx f _ l S1 S' o1.ok h)
  ·cases h
   exact On0.refl ok
def ac8 (S:LS):Res ByteArray:=bnd (aab ah5 S) fun b S1=>if b=true then z6 S1 else .inr (zc,S1)
theorem app {S S':LS} {a:ByteArray} (ok:Ok S) (h:ac8 S=.inr (a,S')):On0 S S':=by
 obtain⟨b,S1,h1,h⟩:=ze h
 have o1:=(ab4 ok h1).1
 split at h
 ·exact o1.trans (acn o1.ok h).weak
 ·cases h;exact o1
def ace (L:Low) (S:LS):Res Tree:=bnd (zi S) fun _ S1=>bnd (z6 S1) fun s S2=>bnd (ac8 S2) fun u S3=>bnd (zj ad3 S3) fun _ S4=>bnd (adf 10 [] S4) fun fs S5 =>
 bnd (abz aa2 (aa9 L) 3002 fs S5) fun ks S6=>.inr (⟨2,s,u,0,S.tl,ks⟩,S6)
theorem ays {L:Low} (hL:LowGood L) {S S':LS} {a:Tree} (ok:Ok S) (hk:S.kd≠0) (h:ace L S=.inr (a,S')):On S S':=by
 obtain⟨_,S1,h1,h⟩:=ze h
 obtain⟨s,S2,h2,h⟩:=ze h
 obtain⟨u,S3,h3,h⟩:=ze h
 obtain⟨_,S4,h4,h⟩:=ze h
 obtain⟨fs,S5,h5,h⟩:=ze h
 obtain⟨ks,S6,h6,h⟩:=ze h
 cases h
 have o1:=aan ok hk h1
 have o2:=acn o1.ok h2
 have o3:=app o2.ok h3
 have o4:=aau o3.ok h4
 have o5:=amx _ _ _ _ _ o4.ok h5
 exact((((o1.trans o2).trans0 o3).trans o4).trans0 o5).trans (aki (ag9 hL) _ _ _ _ _ o5.ok h6)
def aak (L:Low) (S:LS):Res Tree:=if S.is ae5=true then ace L S else if S.is wFn=true then fnP L S else L.S S
theorem aiv {L:Low} (hL:LowGood L):Good (aak L):=fun S a S' ok h=>by
 unfold aak at h
 split at h
 ·rename_i hi;exact ays hL ok (aai hi) h
 ·split at h
  ·rename_i hi;exact fnP_on hL ok (aai hi) h
  ·exact hL.s _ _ _ ok h
def aeg (L:Low):Nat→List Tree→LS→Res (List Tree)
 | 0,_,S=>.inl (0,S.tp)
 | f+1,acc,S=>if S.kd=0 then .inr (acc,S) else bnd (aak L S) fun t S1=>aeg L f (acc++[t]) S1
def afg (L:Low) (S:LS):Res Tree:=bnd (aeg L 3002 [] S) fun ks S1=>.inr (nd 1 S.tl ks,S1)
def afb (L:Low) (S:LS):Res Tree:=bnd (zi S) fun _ S1=>bnd (z6 S1) fun s S2=>bnd (zj acz S2) fun _ S3=>bnd (adl L.V S3) fun t S4=>.inr (ndT 8 s S.tl [t],S4)
theorem arh {L:Low} (hL:LowGood L) {S S':LS} {a:Tree} (ok:Ok S) (hk:S.kd≠0) (h:afb L S=.inr (a,S')):On S S':=by
 obtain⟨_,S1,h1,h⟩:=ze h
 obtain⟨s,S2,h2,h⟩:=ze h
 obtain⟨_,S3,h3,h⟩:=ze h
 obtain⟨t,S4,h4,h⟩:=ze h
 cases h
 have o1:=aan ok hk h1
 have o2:=acn o1.ok h2
 have o3:=aau o2.ok h3
 exact((o1.trans o2).trans o3).trans (ai7 hL.v _ _ _ o3.ok h4)
def abx (L:Low) (k:Nat) (S:LS):Res Tree:=bnd (zi S) fun _ S1=>bnd (aa7 L S1) fun c S2=>bnd (aaj L S2) fun b S3=>.inr (nd k S.tl [c,b],S3)
theorem ai8 {L:Low} (hL:LowGood L) {k:Nat} {S S':LS} {a:Tree} (ok:Ok S) (hk:S.kd≠0) (h:abx L k S=.inr (a,S')):On S S':=by
 obtain⟨_,S1,h1,h⟩:=ze h
 obtain⟨c,S2,h2,h⟩:=ze h
 obtain⟨b,S3,h3,h⟩:=ze h
 cases h
 have o1:=aan ok hk h1
 have o2:=aej hL _ _ _ o1.ok h2
 exact(o1.trans o2).trans (adj hL _ _ _ o2.ok h3)
def ad9 (L:Low) (S:LS):Res Tree:=bnd (abx L 10 S) fun t S1=>bnd (aab ag8 S1) fun b S2=>if b=true then bnd (aaj L S2) fun u S3=>.inr ({ t with kids:=t.kids++[u] },S3) else .inr (t,S2)
theorem awa {L:Low} (hL:LowGood L) {S S':LS} {a:Tree} (ok:Ok S) (hk:S.kd≠0) (h:ad9 L S=.inr (a,S')):On S S':=by
 obtain⟨t,S1,h1,h⟩:=ze h
 obtain⟨b,S2,h2,h⟩:=ze h
 have o1:=ai8 hL ok hk h1
 have o2:=(ab4 o1.ok h2).1
 split at h
 ·obtain⟨u,S3,h3,h⟩:=ze h
  cases h
  exact(o1.trans0 o2).trans (adj hL _ _ _ o2.ok h3)
 ·cases h;exact o1.trans0 o2
def ado (L:Low) (S:LS):Res Tree:=bnd (zi S) fun _ S1=>bnd (aab acg S1) fun b S2=>if b=true then .inr (nd 12 S.tl [],S2) else bnd (adl L.V S2) fun t S3=>.inr (nd 12 S.tl [t],S3)
theorem ari {L:Low} (hL:LowGood L) {S S':LS} {a:Tree} (ok:Ok S) (hk:S.kd≠0) (h:ado L S=.inr (a,S')):On S S':=by
 obtain⟨_,S1,h1,h⟩:=ze h
 obtain⟨b,S2,h2,h⟩:=ze h
 have o1:=aan ok hk h1
 have o2:=(ab4 o1.ok h2).1
 split at h
 ·cases h;exact o1.trans0 o2
 ·obtain⟨t,S3,h3,h⟩:=ze h
  cases h
  exact(o1.trans0 o2).trans (ai7 hL.v _ _ _ o2.ok h3)
def ah1 (k:Nat) (P:LS→Res Tree) (S:LS):Res Tree:=bnd (zi S) fun _ S1=>bnd (adl P S1) fun t S2=>.inr (nd k S.tl [t],S2)
theorem avh {k:Nat} {P:LS→Res Tree} (hP:Good P) {S S':LS} {a:Tree} (ok:Ok S) (hk:S.kd≠0) (h:ah1 k P S=.inr (a,S')):On S S':=by
 obtain⟨_,S1,h1,h⟩:=ze h
 obtain⟨t,S2,h2,h⟩:=ze h
 cases h
 have o1:=aan ok hk h1
 exact o1.trans (ai7 hP _ _ _ o1.ok h2)
def ae7 (L:Low) (S:LS):Res Tree:=bnd (zj aez S) fun _ S1=>bnd (zj zt S1) fun _ S2=>bnd (z6 S2) fun s S3=>bnd (zj abj S3) fun _ S4=>bnd (aaj L S4) fun b S5=>.inr (ndT 15 s S.tl [b],S5)
theorem alu {L:Low} (hL:LowGood L):Good (ae7 L):=fun S a S' ok h=>by
 obtain⟨_,S1,h1,h⟩:=ze h
 obtain⟨_,S2,h2,h⟩:=ze h
 obtain⟨s,S3,h3,h⟩:=ze h
 obtain⟨_,S4,h4,h⟩:=ze h
 obtain⟨b,S5,h5,h⟩:=ze h
 cases h
 have o1:=aau ok h1
 have o2:=aau o1.ok h2
 have o3:=acn o2.ok h3
 have o4:=aau o3.ok h4
 exact(((o1.trans o2).trans o3).trans o4).trans (adj hL _ _ _ o4.ok h5)
def ajx (L:Low) (S:LS):Res Tree:=bnd (zi S) fun _ S1=>bnd (aaj L S1) fun b S2=>bnd (ae7 L S2) fun c S3=>.inr (nd 14 S.tl [b,c],S3)
theorem tryP_on {L:Low} (hL:LowGood L) {S S':LS} {a:Tree} (ok:Ok S) (hk:S.kd≠0) (h:ajx L S=.inr (a,S')):On S S':=by
 obtain⟨_,S1,h1,h⟩:=ze h
 obtain⟨b,S2,h2,h⟩:=ze h
 obtain⟨c,S3,h3,h⟩:=ze h
 cases h
 have o1:=aan ok hk h1
 have o2:=adj hL _ _ _ o1.ok h2
 exact(o1.trans o2).trans (alu hL _ _ _ o2.ok h3)
def adm (k:Nat):Bool:=k==24||k==42||k==44
def ae1 (L:Low) (S:LS):Res Tree:=bnd (L.V S) fun t S1 =>
 if S1.is acz=true then (if adm t.kind=true then bnd (zi S1) fun _ S2=>bnd (L.V S2) fun u S3=>bnd (zj acg S3) fun _ S4=>.inr (nd 9 S.tl [t,u],S4) else .inl (1,S.tp))
 else bnd (zj acg S1) fun _ S2=>.inr (nd 17 S.tl [t],S2)
theorem awb {L:Low} (hL:LowGood L):Good (ae1 L):=fun S a S' ok h=>by
 obtain⟨t,S1,h1,h⟩:=ze h
 have o1:=hL.v _ _ _ ok h1
 split at h
 ·rename_i hi
  split at h
  ·obtain⟨_,S2,h2,h⟩:=ze h
   obtain⟨u,S3,h3,h⟩:=ze h
   obtain⟨_,S4,h4,h⟩:=ze h
   cases h
   have o2:=aan o1.ok (aai hi) h2
   have o3:=hL.v _ _ _ o2.ok h3
   exact((o1.trans o2).trans o3).trans (aau o3.ok h4)
  ·cases h
 ·obtain⟨_,S2,h2,h⟩:=ze h
  cases h
  exact o1.trans (aau o1.ok h2)
def aal (L:Low) (S:LS):Res Tree :=
 if S.is abt=true then afb L S else if S.is wIf=true then ad9 L S else if S.is abb=true then abx L 11 S else if S.is abk=true then ado L S
 else if S.is ach=true then ah1 13 L.V S else if S.is ac7=true then ah1 16 (aa7 L) S else if S.is ad4=true then ajx L S else ae1 L S
theorem apq {L:Low} (hL:LowGood L):Good (aal L):=fun S a S' ok h=>by
 unfold aal at h
 split at h
 ·rename_i hi;exact arh hL ok (aai hi) h
 ·split at h
  ·rename_i hi;exact awa hL ok (aai hi) h
  ·split at h
   ·rename_i hi;exact ai8 hL ok (aai hi) h
   ·split at h
    ·rename_i hi;exact ari hL ok (aai hi) h
    ·split at h
     ·rename_i hi;exact avh hL.v ok (aai hi) h
     ·split at h
      ·rename_i hi;exact avh (aej hL) ok (aai hi) h
      ·split at h
       ·rename_i hi;exact tryP_on hL ok (aai hi) h
       ·exact awb hL _ _ _ ok h
def ac9 (k:Nat) (t:Tree) (ts:List Tree):Tree:=nd k t.line (t :: ts)
def abc (lev:Nat) (S:LS):Nat:=match ab9.find? (fun s=>s.2.2==lev&&S.is s.1) with
 | some s=>s.2.1
 | none=>0
theorem af5 {lev:Nat} {S:LS} (h:abc lev S≠0):S.kd≠0:=by
 unfold abc at h
 split at h
 ·rename_i s hs
  have:=List.find?_some hs
  simp only[Bool.and_eq_true] at this
  exact aai this.2
 ·exact absurd rfl h
def acl (lev:Nat) (P:LS→Res Tree):Nat→Tree→LS→Res Tree
 | 0,_,S=>.inl (0,S.tp)
 | f+1,t,S=>if abc lev S=0 then .inr (t,S) else bnd (zi S) fun _ S1=>bnd (P S1) fun u S2=>acl lev P f (ac9 (abc lev S) t [u]) S2
theorem alv {lev:Nat} {P:LS→Res Tree} (hP:Good P):∀(f:Nat) (t a:Tree) (S S':LS),Ok S→acl lev P f t S=.inr (a,S')→On0 S S'
 | 0,t,a,S,S',ok,h=>by cases h
 | f+1,t,a,S,S',ok,h=>by
  rw[acl] at h
  split at h
  ·cases h;exact On0.refl ok
  ·rename_i hi
   obtain⟨_,S1,h1,h⟩:=ze h
   obtain⟨u,S2,h2,h⟩:=ze h
   have o1:=aan ok (af5 hi) h1
   have o2:=hP _ _ _ o1.ok h2
   exact(o1.trans o2).weak.trans (alv hP f _ a S2 S' o2.ok h)
def afj (lev:Nat) (P:LS→Res Tree) (S:LS):Res Tree:=bnd (P S) fun t S1=>acl lev P 3002 t S1
theorem awc {lev:Nat} {P:LS→Res Tree} (hP:Good P):Good (afj lev P):=fun S a S' ok h=>by
 obtain⟨t,S1,h1,h⟩:=ze h
 have o1:=hP _ _ _ ok h1
 exact o1.trans0 (alv hP _ _ _ _ _ o1.ok h)
def jo (P:LS→Res Tree):Nat→LS→Res Tree
 | 0=>P
 | n+1=>afj (6-n) (jo P n)
theorem aji {P:LS→Res Tree} (hP:Good P):∀n,Good (jo P n)
 | 0=>hP
 | n+1=>awc (aji hP n)
def adk (L:Low) (t:Tree) (S:LS):Res Tree:=bnd (z6 S) fun s S1=>bnd (aab zt S1) fun b S2=>if b=true then bnd (aek L S2) fun us S3=>.inr (ndT 43 s t.line (t :: us),S3) else .inr (ndT 42 s t.line [t],S2)
theorem amy {L:Low} (hL:LowGood L) {t a:Tree} {S S':LS} (ok:Ok S) (h:adk L t S=.inr (a,S')):On S S':=by
 obtain⟨s,S1,h1,h⟩:=ze h
 obtain⟨b,S2,h2,h⟩:=ze h
 have o1:=acn ok h1
 have o2:=(ab4 o1.ok h2).1
 split at h
 ·obtain⟨us,S3,h3,h⟩:=ze h
  cases h
  exact(o1.trans0 o2).trans (adr hL.v _ _ _ o2.ok h3)
 ·cases h;exact o1.trans0 o2
def abd (L:Low):Nat→Tree→LS→Res Tree
 | 0,_,S=>.inl (0,S.tp)
 | f+1,t,S=>bnd (aab ad6 S) fun b S1=>if b=true then bnd (adk L t S1) fun u S2=>abd L f u S2
  else bnd (aab z8 S1) fun b S2=>if b=true then bnd (L.V S2) fun u S3=>bnd (zj ack S3) fun _ S4=>abd L f (ac9 44 t [u]) S4
  else bnd (aab zt S2) fun b S3=>if b=true then bnd (aek L S3) fun us S4=>abd L f (ac9 45 t us) S4 else .inr (t,S3)
theorem ah7 {L:Low} (hL:LowGood L):∀(f:Nat) (t a:Tree) (S S':LS),Ok S→abd L f t S=.inr (a,S')→On0 S S'
 | 0,t,a,S,S',ok,h=>by cases h
 | f+1,t,a,S,S',ok,h=>by
  rw[abd] at h
  obtain⟨b1,S1,h1,h⟩:=ze h
  have o1:=(ab4 ok h1).1
  split at h
  ·obtain⟨u,S2,h2,h⟩:=ze h
   have o2:=amy hL o1.ok h2
   exact(o1.trans o2.weak).trans (ah7 hL f _ a S2 S' o2.ok h)
  ·obtain⟨b2,S2,h2,h⟩:=ze h
   have o2:=(ab4 o1.ok h2).1
   split at h
   ·obtain⟨u,S3,h3,h⟩:=ze h
    obtain⟨_,S4,h4,h⟩:=ze h
    have o3:=hL.v _ _ _ o2.ok h3
    have o4:=aau o3.ok h4
    exact(((o1.trans o2).trans o3.weak).trans o4.weak).trans (ah7 hL f _ a S4 S' o4.ok h)
   ·obtain⟨b3,S3,h3,h⟩:=ze h
    have o3:=(ab4 o2.ok h3).1
    split at h
    ·obtain⟨us,S4,h4,h⟩:=ze h
     have o4:=adr hL.v _ _ _ o3.ok h4
     exact(((o1.trans o2).trans o3).trans o4.weak).trans (ah7 hL f _ a S4 S' o4.ok h)
    ·cases h;exact(o1.trans o2).trans o3
def aas (S:LS):Nat:=if S.is aaw=true then 20 else if S.is aar=true then 21 else if S.is ab6=true then 22 else if S.is abn=true then 23 else 0
theorem amb {S:LS} (h:aas S≠0):S.kd≠0:=by
 unfold aas at h
 split at h
 ·rename_i hi;exact aai hi
 ·split at h
  ·rename_i hi;exact aai hi
  ·split at h
   ·rename_i hi;exact aai hi
   ·split at h
    ·rename_i hi;exact aai hi
    ·exact absurd rfl h
def adh (L:Low) (k ln:Nat) (S:LS):Res Tree:=bnd (z6 S) fun s S1=>bnd (zj zt S1) fun _ S2=>bnd (aek L S2) fun us S3=>.inr (ndT k s ln us,S3)
theorem apr {L:Low} (hL:LowGood L) {k ln:Nat} {S S':LS} {a:Tree} (ok:Ok S) (h:adh L k ln S=.inr (a,S')):On S S':=by
 obtain⟨s,S1,h1,h⟩:=ze h
 obtain⟨_,S2,h2,h⟩:=ze h
 obtain⟨us,S3,h3,h⟩:=ze h
 cases h
 have o1:=acn ok h1
 have o2:=aau o1.ok h2
 exact(o1.trans o2).trans (adr hL.v _ _ _ o2.ok h3)
def abm (L:Low) (S:LS):Res Tree :=
 if S.is zt=true then aa7 L S
 else if S.is z8=true then bnd (zi S) fun _ S1=>bnd (abp ack L.V S1) fun us S2=>.inr (nd 27 S.tl us,S2)
 else if S.is wFn=true then age L S
 else if S.is ab7=true then bnd (zi S) fun _ S1=>adh L 25 S.tl S1
 else if S.is aa8=true then bnd (zi S) fun _ S1=>bnd (zj ad6 S1) fun _ S2=>adh L 26 S.tl S2
 else if S.is aca=true then bnd (zi S) fun _ S1=>bnd (zj zt S1) fun _ S2=>bnd (zj abj S2) fun _ S3=>.inr (nd 29 S.tl [],S3)
 else if S.is aed=true then bnd (zi S) fun _ S1=>bnd (aa7 L S1) fun t S2=>.inr (nd 30 S.tl [t],S2)
 else .inl (3,S.tp)
theorem arj {L:Low} (hL:LowGood L):Good (abm L):=fun S a S' ok h=>by
 unfold abm at h
 split at h
 ·exact aej hL _ _ _ ok h
 ·split at h
  ·rename_i hi
   obtain⟨_,S1,h1,h⟩:=ze h
   obtain⟨us,S2,h2,h⟩:=ze h
   cases h
   have o1:=aan ok (aai hi) h1
   exact o1.trans (adr hL.v _ _ _ o1.ok h2)
  ·split at h
   ·rename_i hi;exact av9 hL ok (aai hi) h
   ·split at h
    ·rename_i hi
     obtain⟨_,S1,h1,h⟩:=ze h
     have o1:=aan ok (aai hi) h1
     exact o1.trans (apr hL o1.ok h)
    ·split at h
     ·rename_i hi
      obtain⟨_,S1,h1,h⟩:=ze h
      obtain⟨_,S2,h2,h⟩:=ze h
      have o1:=aan ok (aai hi) h1
      have o2:=aau o1.ok h2
      exact(o1.trans o2).trans (apr hL o2.ok h)
     ·split at h
      ·rename_i hi
       obtain⟨_,S1,h1,h⟩:=ze h
       obtain⟨_,S2,h2,h⟩:=ze h
       obtain⟨_,S3,h3,h⟩:=ze h
       cases h
       have o1:=aan ok (aai hi) h1
       have o2:=aau o1.ok h2
       exact(o1.trans o2).trans (aau o2.ok h3)
      ·split at h
       ·rename_i hi
        obtain⟨_,S1,h1,h⟩:=ze h
        obtain⟨t,S2,h2,h⟩:=ze h
        cases h
        have o1:=aan ok (aai hi) h1
        exact o1.trans (aej hL _ _ _ o1.ok h2)
       ·cases h
def zr (L:Low) (S:LS):Res Tree:=if S.kd=2 then ad5 24 S else if S.kd=3 then ad5 18 S else if S.kd=4 then ad5 19 S else if aas S=0 then abm L S else ad5 (aas S) S
theorem ajy {k:Nat} {S S':LS} {a:Tree} (ok:Ok S) (hk:S.kd≠0) (h:ad5 k S=.inr (a,S')):On S S':=by
 obtain⟨_,S1,h1,h⟩:=ze h
 cases h
 exact aan ok hk h1
theorem aih {L:Low} (hL:LowGood L):Good (zr L):=fun S a S' ok h=>by
 unfold zr at h
 split at h
 ·exact ajy ok (by omega) h
 ·split at h
  ·exact ajy ok (by omega) h
  ·split at h
   ·exact ajy ok (by omega) h
   ·split at h
    ·exact arj hL _ _ _ ok h
    ·rename_i hc;exact ajy ok (amb hc) h
def ab5 (L:Low) (S:LS):Res Tree:=bnd (zr L S) fun t S1=>abd L 3002 t S1
theorem aoo {L:Low} (hL:LowGood L):Good (ab5 L):=fun S a S' ok h=>by
 obtain⟨t,S1,h1,h⟩:=ze h
 have o1:=aih hL _ _ _ ok h1
 exact o1.trans0 (ah7 hL _ _ _ _ _ o1.ok h)
def aea (L:Low) (k:Nat) (S:LS):Res Tree:=bnd (zi S) fun _ S1=>bnd (L.N S1) fun t S2=>.inr (nd k S.tl [t],S2)
theorem amz {L:Low} (hL:LowGood L) {k:Nat} {S S':LS} {a:Tree} (ok:Ok S) (hk:S.kd≠0) (h:aea L k S=.inr (a,S')):On S S':=by
 obtain⟨_,S1,h1,h⟩:=ze h
 obtain⟨t,S2,h2,h⟩:=ze h
 cases h
 have o1:=aan ok hk h1
 exact o1.trans (hL.n _ _ _ o1.ok h2)
def aae (L:Low) (S:LS):Res Tree:=if S.is aff=true then aea L 41 S else if S.is aen=true then aea L 40 S else ab5 L S
theorem adz {L:Low} (hL:LowGood L):Good (aae L):=fun S a S' ok h=>by
 unfold aae at h
 split at h
 ·rename_i hi;exact amz hL ok (aai hi) h
 ·split at h
  ·rename_i hi;exact amz hL ok (aai hi) h
  ·exact aoo hL _ _ _ ok h
def abi (P:LS→Res Tree) (S:LS):Res Tree:=if S.dp=25 then .inl (4,S.tp) else bnd (P { S with dp:=S.dp+1 }) fun t S1=>.inr (t,{ S1 with dp:=S1.dp-1 })
theorem ajz {P:LS→Res Tree} (hP:Good P):Good (abi P):=fun S a S' ok h=>by
 unfold abi at h
 split at h
 ·cases h
 ·obtain⟨t,S1,h1,h⟩:=ze h
  cases h
  have o1:=hP _ _ _ (show Ok { S with dp:=S.dp+1 } from ⟨⟨ok.fit.size,ok.fit.pl,ok.fit.ln⟩,ok.tp,ok.tl,ok.now⟩) h1
  refine⟨⟨⟨o1.ok.fit.size,o1.ok.fit.pl,o1.ok.fit.ln⟩,o1.ok.tp,o1.ok.tl,o1.ok.now⟩,⟨o1.same.src,?_,o1.same.jn⟩,o1.tp⟩
  show S1.dp-1=S.dp
  have:=o1.same.dp
  have h2:S1.dp=S.dp+1:=this
  omega
def abr:Nat→Low
 | 0=>⟨fun S=>.inl (4,S.tp),fun S=>.inl (4,S.tp),fun S=>.inl (4,S.tp)⟩
 | d+1=>⟨abi (jo (aae (abr d)) 6),abi (aal (abr d)),abi (aae (abr d))⟩
theorem afc:∀d,LowGood (abr d)
 | 0=>⟨fun _ _ _ _ h=>(by cases h),fun _ _ _ _ h=>(by cases h),fun _ _ _ _ h=>(by cases h)⟩
 | d+1=>⟨ajz (aji (adz (afc d)) 6),ajz (apq (afc d)),ajz (adz (afc d))⟩
section
attribute [local go_sem ↓] Go.wp_at_zero Go.wp_at_succ
theorem am0 {w:World} {r D:Nat} {S:LS} (cx:Cx w r S) (hD:S.dp=D) {L:Low} (hL:LowC r D L) :
  Calls prog 185 #[.pointer (some ⟨r,0,none⟩)] w fun e w'=>Ret (aa9 L S) r (aaa w.heap.size) e w'∧Ext r w w':=by
 obtain⟨i0,hi,hz0,hz1,hz2⟩:=info_parts zz
 have hr0:=cx.jc.lt
 have HL:=zb hL
 clear hL
 have HX0:Hid (Ext r w w):=Ext.refl r w
 have hd0:=hD
 have HC0:=zb cx
 clear cx
 go_enter func185,ntmps185
 go_wp2_with fail
 refine(aei (za HC0) 4).mono ?_
 rintro e w1 ⟨v,rfl,⟨rfl,hu⟩,cx1,hx⟩
 have HU1:=zb hu
 have HX1:=zb ((za HX0).trans hx)
 have HC1:=zb cx1
 have hd1:=hd0
 clear hu hx cx1 HC0 HX0
 go_wp2_with fail
 refine Ret.call (afe (za HC1)) ?_ ?_
 ·intro f wz hf hx
  exact⟨rfl,Ret.inl (zl hf),(za HX1).trans hx⟩
 intro s2 S2 v w2 hf hv cx2 hx
 obtain rfl:v=.string s2:=hv
 have hon2:=acn (za HC1).ok hf
 have hd2:S2.dp=D:=hon2.same.dp.trans hd1
 have HP2:=zb (show (aa9 L S)=_ from zn hf)
 have HU2:=zb ((za HU1).ext hx fun j hj=>by omega)
 have HX2:=zb ((za HX1).trans hx)
 have HC2:=zb cx2
 clear hf hx cx2 HC1 HX1 hd1 HU1
 obtain⟨t0,hb⟩:=(za HU2).cells
 have dq:w2.cell? ⟨w.heap.size,1,none⟩=some (.string zc):=zd hb 1
 have gq:=zp hb 1
 clear hb
 have HU3:=zb ((za HU2).put 1 (.string s2) (tx':=s2) rfl)
 have HX3:=zb ((za HX2).setNew ⟨w.heap.size,1,none⟩ (Nat.le_refl _) (.string s2))
 have HC3:=zb ((za HC2).setCell hr0 1 (.string s2))
 have hd3:=hd2
 clear HU2 HX2 HC2
 go_wp2_with fail
 refine Ret.callX (X:=Ext r w) (aig (za HC3) hd3 (za HL) (za HX3) hr0 (za HU3) (by simp)) ?_ ?_
 ·intro f wz hf hx
  exact⟨rfl,Ret.inl ((za HP2).trans (zl hf)),hx⟩
 intro pb S9 v w9 hf hv cx9 hx9
 obtain⟨rfl,ks,vs,hu9⟩:=hv
 have HP9:=zb ((za HP2).trans (zn hf))
 clear hf
 go_wp2_with fail
 go_ret
 exact⟨Ret.inr (za HP9) hu9.node cx9,hx9⟩
theorem fn_any {w:World} {r D:Nat} {S:LS} (cx:Cx w r S) (hD:S.dp=D) {L:Low} (hL:LowC r D L) (hk:S.kd≠0) :
  Calls prog 124 #[.pointer (some ⟨r,0,none⟩)] w fun e w'=>Ret (fnP L S) r (aaa w.heap.size) e w'∧Ext r w w':=by
 obtain⟨i0,hi,hz0,hz1,hz2⟩:=info_parts zz
 have hr0:=cx.jc.lt
 have HL:=zb hL
 clear hL
 have HX0:Hid (Ext r w w):=Ext.refl r w
 have hd0:=hD
 have HC0:=zb cx
 clear cx
 go_enter func124,ntmps124
 go_wp2_with fail
 refine Ret.call (act (za HC0) 5) ?_ ?_
 ·intro f wz hf hx
  exact⟨rfl,Ret.inl (zl hf),(za HX0).trans hx⟩
 intro a1 S1 v w1 hf hv cx1 hx
 obtain⟨rfl,hu⟩:=hv
 have HU1:=zb hu
 have hon1:=aan (za HC0).ok hk hf
 have hd1:S1.dp=D:=hon1.same.dp.trans hd0
 have HP1:=zb (show (fnP L S)=_ from zn hf)
 have HX1:=zb ((za HX0).trans hx)
 have HC1:=zb cx1
 clear hf hx cx1 HC0 HX0 hd0 hu
 go_wp2_with fail
 refine Ret.call (afe (za HC1)) ?_ ?_
 ·intro f wz hf hx
  exact⟨rfl,Ret.inl ((za HP1).trans (zl hf)),(za HX1).trans hx⟩
 intro s2 S2 v w2 hf hv cx2 hx
 obtain rfl:v=.string s2:=hv
 have hon2:=acn (za HC1).ok hf
 have hd2:S2.dp=D:=hon2.same.dp.trans hd1
 have HP2:=zb ((za HP1).trans (zn hf))
 have HU2:=zb ((za HU1).ext hx fun j hj=>by omega)
 have HX2:=zb ((za HX1).trans hx)
 have HC2:=zb cx2
 clear hf hx cx2 HC1 HX1 hd1 HP1 HU1
 obtain⟨t0,hb⟩:=(za HU2).cells
 have dq:w2.cell? ⟨w.heap.size,1,none⟩=some (.string zc):=zd hb 1
 have gq:=zp hb 1
 clear hb
 have HU3:=zb ((za HU2).put 1 (.string s2) (tx':=s2) rfl)
 have HX3:=zb ((za HX2).setNew ⟨w.heap.size,1,none⟩ (Nat.le_refl _) (.string s2))
 have HC3:=zb ((za HC2).setCell hr0 1 (.string s2))
 have hd3:=hd2
 clear HU2 HX2 HC2
 go_wp2_with fail
 refine Ret.callX (X:=Ext r w) (aig (za HC3) hd3 (za HL) (za HX3) hr0 (za HU3) (by simp)) ?_ ?_
 ·intro f wz hf hx
  exact⟨rfl,Ret.inl ((za HP2).trans (zl hf)),hx⟩
 intro pb S9 v w9 hf hv cx9 hx9
 obtain⟨rfl,ks,vs,hu9⟩:=hv
 have HP9:=zb ((za HP2).trans (zn hf))
 clear hf
 go_wp2_with fail
 go_ret
 exact⟨Ret.inr (za HP9) hu9.node cx9,hx9⟩
theorem awd {w:World} {r D:Nat} {S:LS} (cx:Cx w r S) (hD:S.dp=D) {L:Low} (hL:LowC r D L) (hk:S.kd≠0) :
  Calls prog 240 #[.pointer (some ⟨r,0,none⟩)] w fun e w'=>Ret (age L S) r (aaa w.heap.size) e w'∧Ext r w w':=by
 obtain⟨i0,hi,hz0,hz1,hz2⟩:=info_parts zz
 have hr0:=cx.jc.lt
 have HL:=zb hL
 clear hL
 have HX0:Hid (Ext r w w):=Ext.refl r w
 have hd0:=hD
 have HC0:=zb cx
 clear cx
 go_enter func240,ntmps240
 go_wp2_with fail
 refine Ret.call (act (za HC0) 28) ?_ ?_
 ·intro f wz hf hx
  exact⟨rfl,Ret.inl (zl hf),(za HX0).trans hx⟩
 intro a1 S1 v w1 hf hv cx1 hx
 obtain⟨rfl,hu⟩:=hv
 have HU1:=zb hu
 have hon1:=aan (za HC0).ok hk hf
 have hd1:S1.dp=D:=hon1.same.dp.trans hd0
 have HP1:=zb (show (age L S)=_ from zn hf)
 have HX1:=zb ((za HX0).trans hx)
 have HC1:=zb cx1
 clear hf hx cx1 HC0 HX0 hd0 hu
 go_wp2_with fail
 refine Ret.callX (X:=Ext r w) (aig (za HC1) hd1 (za HL) (za HX1) hr0 (za HU1) (by simp)) ?_ ?_
 ·intro f wz hf hx
  exact⟨rfl,Ret.inl ((za HP1).trans (zl hf)),hx⟩
 intro pb S9 v w9 hf hv cx9 hx9
 obtain⟨rfl,ks,vs,hu9⟩:=hv
 have HP9:=zb ((za HP1).trans (zn hf))
 clear hf
 go_wp2_with fail
 go_ret
 exact⟨Ret.inr (za HP9) hu9.node cx9,hx9⟩
end
section
attribute [local go_sem ↓] Go.wp_at_zero Go.wp_at_succ
theorem ayt {S S':LS} {n:Nat} {a:Unit} (ok:Ok S) (h:aco n S=.inr (a,S')):On0 S S':=by
 rw[ahh h];exact On0.refl ok
theorem ai9 {r D:Nat} {L:Low} (hL:LowC r D L) {S:LS} (hd:S.dp=D):aq1 r 172 #[.pointer (some ⟨r,0,none⟩)] L.V S:=fun w cx=>hL.v w S cx hd
theorem aps {w:World} {r D:Nat} {S:LS} (cx:Cx w r S) (hD:S.dp=D) (n:Nat) (hk:S.kd≠0) :
  Calls prog 184 #[.pointer (some ⟨r,0,none⟩),.int .i64 n] w fun e w'=>Ret (ady n S) r (aaa w.heap.size) e w'∧Ext r w w':=by
 obtain⟨i0,hi,hz0,hz1,hz2⟩:=info_parts zz
 have hr0:=cx.jc.lt
 have HX0:Hid (Ext r w w):=Ext.refl r w
 have hd0:=hD
 have HC0:=zb cx
 clear cx
 go_enter func184,ntmps184
 go_wp2_with fail
 refine Ret.call (act (za HC0) 3) ?_ ?_
 ·intro f wz hf hx
  exact⟨rfl,Ret.inl (zl hf),(za HX0).trans hx⟩
 intro a1 S1 v w1 hf hv cx1 hx
 obtain⟨rfl,hu⟩:=hv
 have HU1:=zb hu
 have hon1:=aan (za HC0).ok hk hf
 have hd1:S1.dp=D:=hon1.same.dp.trans hd0
 have HP1:=zb (show ady n S=_ from zn hf)
 have HX1:=zb ((za HX0).trans hx)
 have HC1:=zb cx1
 clear hf hx cx1 HC0 HX0 hd0 hu
 go_wp2_with fail
 refine Ret.call (alt (za HC1) n) ?_ ?_
 ·intro f wz hf hx
  exact⟨rfl,Ret.inl ((za HP1).trans (zl hf)),(za HX1).trans hx⟩
 intro a2 S2 v w2 hf hv cx2 hx
 obtain rfl:v=.tuple #[]:=hv
 have hon2:=ayt (za HC1).ok hf
 have hd2:S2.dp=D:=hon2.same.dp.trans hd1
 have HP2:=zb ((za HP1).trans (zn hf))
 have HU2:=zb ((za HU1).ext hx fun j hj=>by omega)
 have HX2:=zb ((za HX1).trans hx)
 have HC2:=zb cx2
 clear hf hx cx2 HC1 HX1 hd1 HP1 HU1
 go_wp2_with fail
 refine Ret.call (afe (za HC2)) ?_ ?_
 ·intro f wz hf hx
  exact⟨rfl,Ret.inl ((za HP2).trans (zl hf)),(za HX2).trans hx⟩
 intro s3 S3 v w3 hf hv cx3 hx
 obtain rfl:v=.string s3:=hv
 have hon3:=acn (za HC2).ok hf
 have hd3:S3.dp=D:=hon3.same.dp.trans hd2
 have HP3:=zb ((za HP2).trans (zn hf))
 have HU3:=zb ((za HU2).ext hx fun j hj=>by omega)
 have HX3:=zb ((za HX2).trans hx)
 have HC3:=zb cx3
 clear hf hx cx3 HC2 HX2 hd2 HP2 HU2
 obtain⟨t0,hb⟩:=(za HU3).cells
 have dq:w3.cell? ⟨w.heap.size,1,none⟩=some (.string zc):=zd hb 1
 have gq:=zp hb 1
 clear hb
 have HU4:=zb ((za HU3).put 1 (.string s3) (tx':=s3) rfl)
 have HX4:=zb ((za HX3).setNew ⟨w.heap.size,1,none⟩ (Nat.le_refl _) (.string s3))
 have HC4:=zb ((za HC3).setCell hr0 1 (.string s3))
 have hd4:=hd3
 clear HU3 HX3 HC3
 go_wp2_with fail
 refine Ret.call (acv (za HC4) acg) ?_ ?_
 ·intro f wz hf hx
  exact⟨rfl,Ret.inl ((za HP3).trans (zl hf)),(za HX4).trans hx⟩
 intro a5 S5 v w5 hf hv cx5 hx
 obtain rfl:v=.tuple #[]:=hv
 have hon5:=aau (za HC4).ok hf
 have hd5:S5.dp=D:=hon5.same.dp.trans hd4
 have HP5:=zb ((za HP3).trans (zn hf))
 have HU5:=zb ((za HU4).ext hx fun j hj=>by omega)
 have HX5:=zb ((za HX4).trans hx)
 have HC5:=zb cx5
 clear hf hx cx5 HC4 HX4 hd4 HP3 HU4
 go_wp2_with fail
 go_ret
 exact⟨Ret.inr (za HP5) ((za HU5).node) (za HC5),za HX5⟩
theorem ark {w:World} {r D:Nat} {S:LS} (cx:Cx w r S) (hD:S.dp=D) {L:Low} (hL:LowC r D L) (hk:S.kd≠0) :
  Calls prog 217 #[.pointer (some ⟨r,0,none⟩)] w fun e w'=>Ret (afb L S) r (aaa w.heap.size) e w'∧Ext r w w':=by
 obtain⟨i0,hi,hz0,hz1,hz2⟩:=info_parts zz
 have hr0:=cx.jc.lt
 have HL:=zb hL
 clear hL
 have HX0:Hid (Ext r w w):=Ext.refl r w
 have hd0:=hD
 have HC0:=zb cx
 clear cx
 go_enter func217,ntmps217
 go_wp2_with fail
 refine Ret.call (act (za HC0) 8) ?_ ?_
 ·intro f wz hf hx
  exact⟨rfl,Ret.inl (zl hf),(za HX0).trans hx⟩
 intro a1 S1 v w1 hf hv cx1 hx
 obtain⟨rfl,hu⟩:=hv
 have HU1:=zb hu
 have hon1:=aan (za HC0).ok hk hf
 have hd1:S1.dp=D:=hon1.same.dp.trans hd0
 have HP1:=zb (show afb L S=_ from zn hf)
 have HX1:=zb ((za HX0).trans hx)
 have HC1:=zb cx1
 clear hf hx cx1 HC0 HX0 hd0 hu
 go_wp2_with fail
 refine Ret.call (afe (za HC1)) ?_ ?_
 ·intro f wz hf hx
  exact⟨rfl,Ret.inl ((za HP1).trans (zl hf)),(za HX1).trans hx⟩
 intro s2 S2 v w2 hf hv cx2 hx
 obtain rfl:v=.string s2:=hv
 have hon2:=acn (za HC1).ok hf
 have hd2:S2.dp=D:=hon2.same.dp.trans hd1
 have HP2:=zb ((za HP1).trans (zn hf))
 have HU2:=zb ((za HU1).ext hx fun j hj=>by omega)
 have HX2:=zb ((za HX1).trans hx)
 have HC2:=zb cx2
 clear hf hx cx2 HC1 HX1 hd1 HP1 HU1
 obtain⟨t0,hb⟩:=(za HU2).cells
 have dq:w2.cell? ⟨w.heap.size,1,none⟩=some (.string zc):=zd hb 1
 have gq:=zp hb 1
 clear hb
 have HU3:=zb ((za HU2).put 1 (.string s2) (tx':=s2) rfl)
 have HX3:=zb ((za HX2).setNew ⟨w.heap.size,1,none⟩ (Nat.le_refl _) (.string s2))
 have HC3:=zb ((za HC2).setCell hr0 1 (.string s2))
 have hd3:=hd2
 clear HU2 HX2 HC2
 go_wp2_with fail
 refine Ret.call (acv (za HC3) acz) ?_ ?_
 ·intro f wz hf hx
  exact⟨rfl,Ret.inl ((za HP2).trans (zl hf)),(za HX3).trans hx⟩
 intro a4 S4 v w4 hf hv cx4 hx
 obtain rfl:v=.tuple #[]:=hv
 have hon4:=aau (za HC3).ok hf
 have hd4:S4.dp=D:=hon4.same.dp.trans hd3
 have HP4:=zb ((za HP2).trans (zn hf))
 have HU4:=zb ((za HU3).ext hx fun j hj=>by omega)
 have HX4:=zb ((za HX3).trans hx)
 have HC4:=zb cx4
 clear hf hx cx4 HC3 HX3 hd3 HP2 HU3
 go_wp2_with fail
 refine Ret.callX (X:=Ext r w) (ah6 (za HC4) (za HX4) hr0 (za HU4) (by simp) _ _ _ (ai9 (za HL) hd4) ((ag7 (za HL)).ent)) ?_ ?_
 ·intro f wz hf hx
  exact⟨rfl,Ret.inl ((za HP4).trans (zl hf)),hx⟩
 intro t9 S9 v w9 hf hv cx9 hx9
 obtain⟨rfl,ks,vs,hu9⟩:=hv
 have HP9:=zb ((za HP4).trans (zn hf))
 clear hf
 go_wp2_with fail
 go_ret
 exact⟨Ret.inr (za HP9) hu9.node cx9,hx9⟩
theorem ag3 {w:World} {r D:Nat} {S:LS} (cx:Cx w r S) (hD:S.dp=D) {L:Low} (hL:LowC r D L) :
  Calls prog 222 #[.pointer (some ⟨r,0,none⟩)] w fun e w'=>Ret (aa7 L S) r (aaa w.heap.size) e w'∧Ext r w w':=by
 obtain⟨i0,hi,hz0,hz1,hz2⟩:=info_parts zz
 have hr0:=cx.jc.lt
 have HL:=zb hL
 clear hL
 have HX0:Hid (Ext r w w):=Ext.refl r w
 have hd0:=hD
 have HC0:=zb cx
 clear cx
 go_enter func222,ntmps222
 go_wp2_with fail
 refine Ret.call (acv (za HC0) zt) ?_ ?_
 ·intro f wz hf hx
  exact⟨rfl,Ret.inl (zl hf),(za HX0).trans hx⟩
 intro a1 S1 v w1 hf hv cx1 hx
 obtain rfl:v=.tuple #[]:=hv
 have hon1:=aau (za HC0).ok hf
 have hd1:S1.dp=D:=hon1.same.dp.trans hd0
 have HP1:=zb (show aa7 L S=_ from zn hf)
 have HX1:=zb ((za HX0).trans hx)
 have HC1:=zb cx1
 clear hf hx cx1 HC0 HX0 hd0
 go_wp2_with fail
 refine Ret.call ((za HL).v _ _ (za HC1) hd1) ?_ ?_
 ·intro f wz hf hx
  exact⟨rfl,Ret.inl ((za HP1).trans (zl hf)),(za HX1).trans hx⟩
 intro t2 S2 v w2 hf hv cx2 hx
 obtain⟨kb,rfl⟩:=z7 hv
 have HV2:=zb hv
 have hsz2:=(za HX1).size
 have hon2:=(za HL).good.v _ _ _ (za HC1).ok hf
 have hd2:S2.dp=D:=hon2.same.dp.trans hd1
 have HP2:=zb ((za HP1).trans (zn hf))
 have HX2:=zb ((za HX1).trans hx)
 have HC2:=zb cx2
 clear hf hx cx2 HC1 HX1 hd1 HP1 hv
 go_wp2_with fail
 refine Ret.call (acv (za HC2) abj) ?_ ?_
 ·intro f wz hf hx
  exact⟨rfl,Ret.inl ((za HP2).trans (zl hf)),(za HX2).trans hx⟩
 intro a3 S3 v w3 hf hv cx3 hx
 obtain rfl:v=.tuple #[]:=hv
 have hon3:=aau (za HC2).ok hf
 have hd3:S3.dp=D:=hon3.same.dp.trans hd2
 have HP3:=zb ((za HP2).trans (zn hf))
 have HVV:Hid (aaa w.heap.size t2 _ w3):=NodeAt.mono (NodeAt.ext (za HV2) hx fun j hj=>by omega) fun j hj=>by omega
 have HX3:=zb ((za HX2).trans hx)
 have HC3:=zb cx3
 clear hf hx cx3 HC2 HX2 hd2 HP2
 go_wp2_with fail
 go_ret
 exact⟨Ret.inr (za HP3) (za HVV) (za HC3),za HX3⟩
theorem arl {w:World} {r D:Nat} {S:LS} (cx:Cx w r S) (hD:S.dp=D) {L:Low} (hL:LowC r D L) (hk:S.kd≠0) :
  Calls prog 220 #[.pointer (some ⟨r,0,none⟩)] w fun e w'=>Ret (ado L S) r (aaa w.heap.size) e w'∧Ext r w w':=by
 obtain⟨i0,hi,hz0,hz1,hz2⟩:=info_parts zz
 have hr0:=cx.jc.lt
 have HL:=zb hL
 clear hL
 have HX0:Hid (Ext r w w):=Ext.refl r w
 have hd0:=hD
 have HC0:=zb cx
 clear cx
 go_enter func220,ntmps220
 go_wp2_with fail
 refine Ret.call (act (za HC0) 12) ?_ ?_
 ·intro f wz hf hx
  exact⟨rfl,Ret.inl (zl hf),(za HX0).trans hx⟩
 intro a1 S1 v w1 hf hv cx1 hx
 obtain⟨rfl,hu⟩:=hv
 have HU1:=zb hu
 have hon1:=aan (za HC0).ok hk hf
 have hd1:S1.dp=D:=hon1.same.dp.trans hd0
 have HP1:=zb (show ado L S=_ from zn hf)
 have HX1:=zb ((za HX0).trans hx)
 have HC1:=zb cx1
 clear hf hx cx1 HC0 HX0 hd0 hu
 go_wp2_with fail
 refine Ret.call (ac6 (za HC1) acg) ?_ ?_
 ·intro f wz hf hx
  exact⟨rfl,Ret.inl ((za HP1).trans (zl hf)),(za HX1).trans hx⟩
 intro b2 S2 v w2 hf hv cx2 hx
 obtain rfl:v=.bool b2:=hv
 have hon2:=(ab4 (za HC1).ok hf).1
 have hd2:S2.dp=D:=hon2.same.dp.trans hd1
 have HP2:=zb ((za HP1).trans (zn hf))
 have HU2:=zb ((za HU1).ext hx fun j hj=>by omega)
 have HX2:=zb ((za HX1).trans hx)
 have HC2:=zb cx2
 clear hf hx cx2 HC1 HX1 hd1 HP1 HU1
 cases b2 with
 | true =>
  have HPt:Hid (ado L S=.inr (nd 12 S.tl [],S2)):=za HP2
  clear HP2
  go_wp2_with fail
  go_ret
  exact⟨Ret.inr (za HPt) ((za HU2).node) (za HC2),za HX2⟩
 | false =>
  have HPf:Hid (ado L S=bnd (adl L.V S2) fun t S3=>.inr (nd 12 S.tl [t],S3)):=za HP2
  clear HP2
  go_wp2_with fail
  refine Ret.callX (X:=Ext r w) (ah6 (za HC2) (za HX2) hr0 (za HU2) (by simp) _ _ _ (ai9 (za HL) hd2) ((ag7 (za HL)).ent)) ?_ ?_
  ·intro f wz hf hx
   exact⟨rfl,Ret.inl ((za HPf).trans (zl hf)),hx⟩
  intro t9 S9 v w9 hf hv cx9 hx9
  obtain⟨rfl,ks,vs,hu9⟩:=hv
  have HP9:=zb ((za HPf).trans (zn hf))
  clear hf
  go_wp2_with fail
  go_ret
  exact⟨Ret.inr (za HP9) hu9.node cx9,hx9⟩
end
end Go.Proofs.YtndgajlidckcdaaGreatDoor
