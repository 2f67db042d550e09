/- A part. -/
import Derived.Test.YtndgajlidckcdaaGreatDoorM02
import Derived.Laws.IdiomStrings
import Derived.Lib.BufferRead
open Go.Proofs.Tryz
namespace Go.Proofs.YtndgajlidckcdaaGreatDoor
open Go.RowKit
set_option linter.unusedVariables false
set_option linter.unusedSimpArgs false
set_option maxRecDepth 100000
set_option maxHeartbeats 8000000
def twins:List ByteArray:=[⟨#[124,124]⟩,⟨#[38,38]⟩,⟨#[61,61]⟩]
def ah4:ByteArray:=⟨#[40,41,123,125,91,93,59,44,46,61,60,43,45,42,47,37,33]⟩
def aef (s:ByteArray) (p k:Nat):Bool:=Lib.hasPrefix (s.extract p s.size).data.toList (twins[k]?.getD ByteArray.empty).data.toList
def adw (s:ByteArray) (p:Nat):Nat :=
 if aef s p 0=true∨aef s p 1=true∨aef s p 2=true then 2
 else if h:p<s.size then (if 0≤(Lib.indexByte ah4.data.toList (s[p].toNat:Int).toNat.toUInt8:Int) then 1 else 0) else 0
theorem aiq {s:ByteArray} {p k:Nat} (hk:k<3) (h:aef s p k=true):adw s p=2:=by
 unfold adw
 rw[if_pos]
 match k,hk,h with
 | 0,_,h=>exact Or.inl h
 | 1,_,h=>exact Or.inr (Or.inl h)
 | 2,_,h=>exact Or.inr (Or.inr h)
theorem apj {s:ByteArray} {p:Nat} (h:∀k,k<3→aef s p k=false) (hp:p<s.size) (hi:0≤(Lib.indexByte ah4.data.toList (s[p].toNat:Int).toNat.toUInt8:Int)):adw s p=1:=by
 unfold adw
 rw[if_neg (by rw[h 0 (by omega),h 1 (by omega),h 2 (by omega)];simp),dif_pos hp,if_pos hi]
theorem apk {s:ByteArray} {p:Nat} (h:∀k,k<3→aef s p k=false) (hp:p<s.size) (hi:¬0≤(Lib.indexByte ah4.data.toList (s[p].toNat:Int).toNat.toUInt8:Int)):adw s p=0:=by
 unfold adw
 rw[if_neg (by rw[h 0 (by omega),h 1 (by omega),h 2 (by omega)];simp),dif_pos hp,if_neg hi]
theorem ag6 (s:ByteArray) (k p:Nat) (w:World) {b:Bool} (hb:aef s p k=b) :
  Calls prog 62 #[.string (s.extract p s.size),.string (twins[k]?.getD ByteArray.empty)] w fun e w'=>e=.returned (.bool b)∧w'=w:=by
 rw[←hb]
 exact Tryz.strings_HasPrefix _ _ w
theorem aho (c:Int) (v:Int) (w:World) (hv:Hid ((Lib.indexByte ah4.data.toList c.toNat.toUInt8:Int)=v)) :
  Calls prog 61 #[.string ah4,.int .u8 c] w fun e w'=>e=.returned (.int .i64 v)∧w'=w:=by
 rw[←za hv]
 exact Tryz.strings_IndexByte ah4 c w
def afs:Array Value:=(twins.map Value.string).toArray
theorem akd {w:World} {r:Nat} {S:LS} (h:Rd w r S) (fit:Fit S) (hlt:S.pl<S.src.size) (tt:TypeId) (fr:Nat×Nat) (hg:w.heap[10]?=some (.cells afs tt fr)) :
  Calls prog 182 #[.pointer (some ⟨r,0,none⟩)] w fun e w'=>e=.returned (.int .i64 (adw S.src S.pl))∧Rd w' r S∧Ext r w w':=by
 obtain⟨z1,z2,z3⟩:=fit
 have hsz:(prog.info? 242).map (·.size)=some afs.size:=by kernel_rfl
 have hidx:∀(k:Nat),k<3→∀w1:World,(Instr.index 242 (.agg afs) (.int .i64 k)).run prog w1=.ok (.string (twins[k]?.getD ByteArray.empty)) w1:=by
  intro k hk w1
  rcases(by omega:k=0∨k=1∨k=2) with rfl | rfl | rfl <;> kernel_rfl
 have hlen:∀(k:Nat),k<3→(twins[k]?.getD ByteArray.empty).size=2:=by
  intro k hk
  match k,hk with
  | 0,_=>rfl
  | 1,_=>rfl
  | 2,_=>rfl
 go_enter func182,ntmps182
 go_wp2_with (refine wpList_load_row rfl 242 _ rfl 10 rfl tt _ fr _ hg underlying242 rfl hsz ?_)
 clear hsz hg
 go_loopg [6] 3 (fun g i wr=>∃k:Nat,k≤3∧g=3-k∧i=.int .i64 k∧Hid (∀j,j<k→aef S.src S.pl j=false)∧Rd wr r S∧Ext r w wr)
 case atStart=>exact⟨0,by omega,rfl,rfl,fun j hj=>by omega,h,Ext.refl _ _⟩
 case round =>
  clear h
  obtain⟨k,hk,rfl,rfl,HN,h,HX⟩:=hrel
  have c0:=h.c0
  have c1:=h.c1
  have HR:=zb h
  clear h
  have hlt2:(S.pl:Int)<S.src.size:=by omega
  have hle2:(S.pl:Int)≤S.src.size:=by omega
  by_cases hk3:k<3
  ·have hi:=hidx k hk3
   have hl:=hlen k hk3
   clear hidx hlen
   cases hb:aef S.src S.pl k
   ·go_wp2
    go_quiet ((go_at_call 62;exact Calls.quiet_of_same (ag6 _ k _ _ hb)))
    go_wp2
    go_roundg (3-(k+1))
    case measure=>omega
    case rel=>exact⟨k+1,by omega,rfl,by go_num,fun j hj=>by
     by_cases e:j=k
     ·subst e;exact hb
     ·exact za HN j (by omega),(za HR).drewN _,HX.drewN _⟩
   ·have HS:=zb (aiq hk3 hb)
    go_wp2
    go_quiet ((go_at_call 62;exact Calls.quiet_of_same (ag6 _ k _ _ hb)))
    go_wp2
    go_ret
    rw[za HS]
    exact⟨by simp,(za HR).drewN _,HX.drewN _⟩
  ·have HN3:=zb (show ∀j,j<3→aef S.src S.pl j=false from fun j hj=>za HN j (by omega))
   clear HN hidx hlen
   have hk3':decide ((k:Int)<3)=false:=by simp;omega
   obtain⟨v,hv⟩:∃v:Int,(Lib.indexByte ah4.data.toList (S.src[S.pl].toNat:Int).toNat.toUInt8:Int)=v:=⟨_,rfl⟩
   by_cases hx:0≤v
   ·have HS:=zb (apj (za HN3) hlt (by rw[hv];exact hx))
    have HV:=zb hv
    clear hv
    have hx':decide (0≤v)=true:=by simp[hx]
    go_wp2
    go_quiet ((go_at_call 61;exact Calls.quiet_of_same (aho _ v _ HV)))
    go_wp2
    go_ret
    rw[za HS]
    exact⟨rfl,(za HR).drewN _,HX.drewN _⟩
   ·have HS:=zb (apk (za HN3) hlt (by rw[hv];exact hx))
    have HV:=zb hv
    clear hv
    have hx':decide (0≤v)=false:=by simpa using hx
    go_wp2
    go_quiet ((go_at_call 61;exact Calls.quiet_of_same (aho _ v _ HV)))
    go_wp2
    go_ret
    rw[za HS]
    exact⟨rfl,(za HR).drewN _,HX.drewN _⟩
theorem ave {s:ByteArray} {p:Nat} (hp:p<s.size):p+adw s p≤s.size:=by
 unfold adw
 have key:∀k,k<3→aef s p k=true→p+2≤s.size:=by
  intro k hk h
  unfold aef at h
  rw[Lib.extract_data] at h
  have h2:(twins[k]?.getD ByteArray.empty).data.toList.length=2:=by
   rcases(by omega:k=0∨k=1∨k=2) with rfl | rfl | rfl <;> rfl
  unfold Lib.hasPrefix at h
  have h3:=(List.isPrefixOf_iff_prefix.1 h).length_le
  rw[h2,List.length_take,List.length_drop,←Lib.size_eq] at h3
  omega
 split
 ·rename_i h
  rcases h with h | h | h
  ·exact key 0 (by omega) h
  ·exact key 1 (by omega) h
  ·exact key 2 (by omega) h
 ·(repeat' split) <;> omega
theorem at8 {w:World} {r:Nat} {S:LS} (h:Rd w r S) (fit:Fit S) (hlt:S.pl<S.src.size) (tt:TypeId) (fr:Nat×Nat) (hg:w.heap[10]?=some (.cells afs tt fr)) (hz:adw S.src S.pl=0) :
  Calls prog 122 #[.pointer (some ⟨r,0,none⟩)] w fun e w'=>e=.panicked (adq 3 S.tp)∧Ext r w w':=by
 have HS:=zb (akd h fit hlt tt fr hg)
 rw[hz] at HS
 clear h fit hg hz
 go_enter func122,ntmps122
 go_wp2_with fail
 refine(za HS).mono ?_
 rintro e w1 ⟨rfl,h1,hx⟩
 go_wp2_with fail
 refine(aes h1 _).mono ?_
 rintro e w2 ⟨rfl,rfl⟩
 exact⟨rfl,rfl,hx⟩
theorem at9 {w:World} {r:Nat} {S:LS} (h:Rd w r S) (fit:Fit S) (hlt:S.pl<S.src.size) (tt:TypeId) (fr:Nat×Nat) (hg:w.heap[10]?=some (.cells afs tt fr)) (n:Nat) (hn:adw S.src S.pl=n) (hz:0<n) :
  Calls prog 122 #[.pointer (some ⟨r,0,none⟩)] w fun e w'=>e=.returned (.tuple #[])∧Rd w' r { S with pl:=S.pl+n,kd:=1,mrk:=S.src.extract S.pl (S.pl+n) }∧Ext r w w':=by
 have HS:=zb (akd h fit hlt tt fr hg)
 have hle:=ave hlt
 rw[hn] at HS hle
 obtain⟨z1,z2,z3⟩:=fit
 clear h hg hn
 have b0:((n:Int)==0)=false:=by rw[beq_eq_false_iff_ne];omega
 have q0:(0:Int)≤(S.pl:Int):=by omega
 have q00:(0:Int)≤(S.pl:Int)+(n:Int):=by omega
 have qw:IntKind.i64.wrap ((S.pl:Int)+(n:Int))=(S.pl:Int)+(n:Int):=wrap_small _ (by omega) (by omega)
 have q1:(S.pl:Int)+(n:Int)≤S.src.size:=by omega
 have q2:(S.pl:Int)≤(S.pl:Int)+(n:Int):=by omega
 go_enter func122,ntmps122
 go_wp2_with fail
 refine(za HS).mono ?_
 rintro e w1 ⟨rfl,h1,hx⟩
 have c0:=h1.c0
 have c1:=h1.c1
 have c3:=h1.c3
 have c6:=h1.c6
 have f1:=h1.f1
 have f3:=h1.f3
 have f6:=h1.frozen 6
 have HR:=zb h1
 clear h1
 go_wp2_with fail
 go_region_held3 (fun w'=>w'.cell? ⟨r,0,none⟩=some (.string S.src)∧w'.cell? ⟨r,1,none⟩=some (.int .i64 S.pl)) ((refine⟨?_,?_⟩ <;> simp[World.cell?_setCell_other,c0,c1])) (fail)
 go_wp2_with fail
 go_end0
 exact⟨rfl,((((za HR).set3 1).set6 _).set1 (S.pl+n)).drew,(((hx.setCell 3 _).setCell 6 _).setCell 1 _).drew⟩
theorem air {r:Nat} {w w':World} (h:Below w.heap.size w w'):Ext r w w':=⟨h.os,h.tape,h.output,h.size,fun k hk _=>h.block k hk⟩
theorem ajq {r:Nat} {w w':World} {S:LS} (hr:Rd w r S) (h:Below w.heap.size w w'):Rd w' r S:=by
 have hl:=hr.lt
 obtain⟨t,hr⟩:=hr
 exact⟨t,(h.block r hl).trans hr⟩
def ais:List (List UInt8):=[[99,108,97,115,115],[102,105,101,108,100],[102,110],[118,97,114],[105,102],[101,108,115,101],[119,104,105,108,101],[114,101,116,117,114,110],[116,104,114,111,119],[116,114,121],[99,97,116,99,104],[112,114,105,110,116],[116,114,117,101],[102,97,108,115,101],[110,105,108],[116,104,105,115],[110,101,119],[115,117,112,101,114],[105,110,112,117,116],[108,101,110]]
def afa:List ByteArray:=ais.map fun l=>⟨l.toArray⟩
def isW (s:ByteArray):Bool:=ae9 afa s
def ae2:Array Value:=(afa.map Value.string).toArray
theorem ake (s:ByteArray) (w:World) (tt:TypeId) (fr:Nat×Nat) (hg:w.heap[9]?=some (.cells ae2 tt fr)) {b:Bool} (hb:isW s=b) :
  Calls prog 178 #[.string s] w fun e w'=>e=.returned (.bool b)∧w'=w:=by
 rw[←hb]
 exact bbo afa rfl s w tt fr hg
theorem aua (s:ByteArray) (w:World) (hs:s.size≤3000) :
  Calls prog 179 #[.string s] w fun e w'=>e=.returned (.string s)∧Below w.heap.size w w':=by
 go_enter func179,ntmps179
 go_wp2_with fail
 refine(Tryz.stringslite_Clone s w (by omega)).mono ?_
 rintro e w1 ⟨rfl,hb⟩
 go_wp2_with fail
 go_ret
 exact⟨rfl,hb⟩
def acd (S:LS):ByteArray:=S.src.extract S.pl (ab1 S.src nb (S.src.size-S.pl) S.pl)
def acu (S:LS):Nat:=ab1 S.src nb (S.src.size-S.pl) S.pl
theorem akf {w:World} {r:Nat} {S:LS} (h:Rd w r S) (fit:Fit S) :
  Calls prog 176 #[.pointer (some ⟨r,0,none⟩),.func (.func 177) #[] #[]] w fun e w'=>e=.returned (.string (acd S)) ∧
   S.pl≤acu S∧Rd w' r { S with pl:=acu S }∧Fit { S with pl:=acu S }∧Ext r w w':=bbp h fit
theorem alo (S:LS) (fit:Fit S):(acd S).size≤3000:=by
 have:=fit.size
 unfold acd
 rw[ByteArray.size_extract]
 omega
theorem aqh {w:World} {r:Nat} {S:LS} (h:Rd w r S) (fit:Fit S) (tt:TypeId) (fr:Nat×Nat) (hg:w.heap[9]?=some (.cells ae2 tt fr)) (hr:9≠r) (hw:isW (acd S)=true) :
  Calls prog 118 #[.pointer (some ⟨r,0,none⟩)] w fun e w'=>e=.returned (.tuple #[])∧Rd w' r { S with pl:=acu S,kd:=1,mrk:=acd S }∧Ext r w w':=by
 have HS:=zb (akf h fit)
 have hsz:=(gtE hg).1
 go_enter func118,ntmps118
 go_wp2_with fail
 refine(za HS).mono ?_
 rintro e w1 ⟨rfl,hle,h1,fit1,hx⟩
 have hg1:w1.heap[9]?=some (.cells ae2 tt fr):=(hx.block _ hsz hr).trans hg
 go_wp2_with fail
 refine(ake _ _ tt fr hg1 hw).mono ?_
 rintro e w2 ⟨rfl,rfl⟩
 have c3:=h1.c3
 have c6:=h1.c6
 have f3:=h1.f3
 have f6:=h1.frozen 6
 clear hg hg1 hw fit h
 go_wp2_with fail
 go_end0
 exact⟨rfl,(h1.set3 1).set6 _,(hx.setCell 3 _).setCell 6 _⟩
theorem aqi {w:World} {r:Nat} {S:LS} (h:Rd w r S) (fit:Fit S) (tt:TypeId) (fr:Nat×Nat) (hg:w.heap[9]?=some (.cells ae2 tt fr)) (hr:9≠r) (hw:isW (acd S)=false) (hl:16<(acd S).size) :
  Calls prog 118 #[.pointer (some ⟨r,0,none⟩)] w fun e w'=>e=.panicked (adq 4 S.tp)∧Ext r w w':=by
 have HS:=zb (akf h fit)
 have hsz:=(gtE hg).1
 have hs:=alo S fit
 have b0:decide (16<((acd S).size:Int))=true:=decide_eq_true (by omega)
 go_enter func118,ntmps118
 go_wp2_with fail
 refine(za HS).mono ?_
 rintro e w1 ⟨rfl,hle,h1,fit1,hx⟩
 have hg1:w1.heap[9]?=some (.cells ae2 tt fr):=(hx.block _ hsz hr).trans hg
 go_wp2_with fail
 refine(ake _ _ tt fr hg1 hw).mono ?_
 rintro e w2 ⟨rfl,rfl⟩
 clear hg hg1 hw fit h
 go_wp2_with fail
 refine(aes h1 _).mono ?_
 rintro e w2 ⟨rfl,rfl⟩
 exact⟨rfl,rfl,hx⟩
theorem aqj {w:World} {r:Nat} {S:LS} (h:Rd w r S) (fit:Fit S) (tt:TypeId) (fr:Nat×Nat) (hg:w.heap[9]?=some (.cells ae2 tt fr)) (hr:9≠r) (hw:isW (acd S)=false) (hl:(acd S).size≤16) :
  Calls prog 118 #[.pointer (some ⟨r,0,none⟩)] w fun e w'=>e=.returned (.tuple #[])∧Rd w' r { S with pl:=acu S,kd:=2,tx:=acd S }∧Ext r w w':=by
 have HS:=zb (akf h fit)
 have hsz:=(gtE hg).1
 have hs:=alo S fit
 have b0:decide (16<((acd S).size:Int))=false:=decide_eq_false (by omega)
 go_enter func118,ntmps118
 go_wp2_with fail
 refine(za HS).mono ?_
 rintro e w1 ⟨rfl,hle,h1,fit1,hx⟩
 have hg1:w1.heap[9]?=some (.cells ae2 tt fr):=(hx.block _ hsz hr).trans hg
 go_wp2_with fail
 refine(ake _ _ tt fr hg1 hw).mono ?_
 rintro e w2 ⟨rfl,rfl⟩
 clear hg hg1 hw fit h
 go_wp2_with fail
 refine(aua _ _ hs).mono ?_
 rintro e w2 ⟨rfl,hb⟩
 have h2:=ajq h1 hb
 have c3:=h2.c3
 have c7:=h2.c7
 have f3:=h2.f3
 have f7:=h2.frozen 7
 go_wp2_with fail
 go_end0
 exact⟨rfl,(h2.set3 2).set7 _,((hx.trans (air hb)).setCell 3 _).setCell 7 _⟩
theorem alp {w:World} {r:Nat} {S:LS} (h:Rd w r S) (fit:Fit S) (hlt:S.pl<S.src.size) (hn:S.src[S.pl].toNat≠10) :
  Calls prog 180 #[.pointer (some ⟨r,0,none⟩)] w fun e w'=>e=.returned (.int .u8 S.src[S.pl].toNat) ∧
   Rd w' r { S with pl:=S.pl+1 }∧Ext r w w':=by
 obtain⟨z1,z2,z3⟩:=fit
 have c0:=h.c0
 have c1:=h.c1
 have f1:=h.f1
 have HR:=zb h
 clear h
 have b0:((S.pl:Int)==S.src.size)=false:=by rw[beq_eq_false_iff_ne];omega
 have b1:((S.src[S.pl].toNat:Int)==10)=false:=by rw[beq_eq_false_iff_ne];omega
 have hlt2:(S.pl:Int)<S.src.size:=by omega
 clear hn
 go_enter func180,ntmps180
 go_wp2
 go_quiet (fail)
 go_wp2
 go_quiet (fail)
 go_wp2
 go_ret
 refine⟨?_,?_,?_⟩
 ·simp
 ·exact(((za HR).drewN _).set1 (S.pl+1)).drewN _
 ·exact(((Ext.refl r w).drewN _).setCell 1 _).drewN _
theorem aub {w:World} {r:Nat} {S:LS} (h:Rd w r S) (fit:Fit S) (hs:∀hlt:S.pl<S.src.size,S.src[S.pl].toNat=10) :
  Calls prog 180 #[.pointer (some ⟨r,0,none⟩)] w fun e w'=>e=.panicked (adq 3 S.pl)∧Ext r w w':=by
 obtain⟨z1,z2,z3⟩:=fit
 have c0:=h.c0
 have c1:=h.c1
 clear h
 by_cases hlt:S.pl<S.src.size
 ·have b0:((S.pl:Int)==S.src.size)=false:=by rw[beq_eq_false_iff_ne];omega
  have b1:((S.src[S.pl].toNat:Int)==10)=true:=by rw[beq_iff_eq];have:=hs hlt;omega
  have hlt2:(S.pl:Int)<S.src.size:=by omega
  clear hs
  go_enter func180,ntmps180
  go_wp2
  go_quiet (fail)
  go_wp2
  exact⟨rfl,rfl,(Ext.refl r w).drewN _⟩
 ·have b0:((S.pl:Int)==S.src.size)=true:=by rw[beq_iff_eq];omega
  clear hs
  go_enter func180,ntmps180
  go_wp2
  go_quiet (fail)
  go_wp2
  exact⟨rfl,rfl,(Ext.refl r w).drewN _⟩
def ahf (c:Nat):Option Nat:=if c=110 then some 10 else if c=34 then some 34 else if c=92 then some 92 else none
def escPost (o:Option Nat) (p:Nat) (e:Ending) (R:Prop):Prop:=match o with
 | some c=>e=.returned (.int .u8 c)∧R
 | none=>e=.panicked (adq 3 p)
theorem alq {w:World} {r:Nat} {S:LS} (h:Rd w r S) (fit:Fit S) (hlt:S.pl<S.src.size) (hn:S.src[S.pl].toNat≠10) :
  Calls prog 181 #[.pointer (some ⟨r,0,none⟩)] w fun e w' =>
   escPost (ahf S.src[S.pl].toNat) S.pl e (Rd w' r { S with pl:=S.pl+1 })∧Ext r w w':=by
 have HI:=zb (alp h fit hlt hn)
 obtain⟨z1,z2,z3⟩:=fit
 clear h hn
 obtain⟨c,hc⟩:∃c,S.src[S.pl].toNat=c:=⟨_,rfl⟩
 rw[hc] at HI
 rw[hc]
 clear hc
 have HS:=zb z3
 clear z3
 rcases(by omega:c=110∨c=34∨c=92∨(c≠110∧c≠34∧c≠92)) with rfl | rfl | rfl | ⟨h1,h2,h3⟩
 ·go_enter func181,ntmps181
  go_wp2_with fail
  refine(za HI).mono ?_
  rintro e w1 ⟨rfl,hr,hx⟩
  go_wp2_with fail
  go_ret
  exact⟨⟨rfl,hr⟩,hx⟩
 ·go_enter func181,ntmps181
  go_wp2_with fail
  refine(za HI).mono ?_
  rintro e w1 ⟨rfl,hr,hx⟩
  go_wp2_with fail
  go_ret
  exact⟨⟨rfl,hr⟩,hx⟩
 ·go_enter func181,ntmps181
  go_wp2_with fail
  refine(za HI).mono ?_
  rintro e w1 ⟨rfl,hr,hx⟩
  go_wp2_with fail
  go_ret
  exact⟨⟨rfl,hr⟩,hx⟩
 ·have b1:((c:Int)==110)=false:=by rw[beq_eq_false_iff_ne];omega
  have b2:((c:Int)==34)=false:=by rw[beq_eq_false_iff_ne];omega
  have b3:((c:Int)==92)=false:=by rw[beq_eq_false_iff_ne];omega
  have he:ahf c=none:=by simp[ahf,h1,h2,h3]
  have HE:=zb he
  clear he h1 h2 h3
  go_enter func181,ntmps181
  go_wp2_with fail
  refine(za HI).mono ?_
  rintro e w1 ⟨rfl,hr,hx⟩
  have c1:=hr.c1
  go_wp2_with fail
  refine⟨rfl,?_,hx⟩
  rw[za HE]
  exact rfl
def zo (s:ByteArray) (p:Nat):Nat:=if h:p<s.size then s[p].toNat else 0
theorem aa0 {s:ByteArray} {p:Nat} (h:p<s.size):s[p].toNat=zo s p:=by rw[zo,dif_pos h]
theorem ait (s:ByteArray) (p:Nat):zo s p<256:=by
 unfold zo
 split
 ·exact UInt8.toNat_lt _
 ·omega
def aci (s:ByteArray) (p:Nat):Prop:=p<s.size∧zo s p≠10
def afn (s:ByteArray):Nat→Nat→List UInt8→Nat ⊕ (List UInt8×Nat)
 | 0,p,_=>.inl p
 | f+1,p,acc =>
  if p<s.size∧zo s p≠10 then
   (if zo s p=34 then .inr (acc,p+1)
   else if zo s p=92 then
    (if p+1<s.size∧zo s (p+1)≠10 then
     (match ahf (zo s (p+1)) with
      | some c=>afn s f (p+2) (acc++[UInt8.ofNat c])
      | none=>.inl (p+1))
    else .inl (p+1))
   else afn s f (p+1) (acc++[UInt8.ofNat (zo s p)]))
  else .inl p
theorem ai5 (s:ByteArray):∀(f g p:Nat) (acc:List UInt8),s.size-p≤f→s.size-p≤g→afn s f p acc=afn s g p acc
 | 0,g,p,acc,h1,h2=>by
  cases g with
  | zero=>rfl
  | succ g=>rw[afn,afn,if_neg (by omega)]
 | f+1,0,p,acc,h1,h2=>by rw[afn,afn,if_neg (by omega)]
 | f+1,g+1,p,acc,h1,h2=>by
  rw[afn,afn]
  by_cases h:p<s.size∧zo s p≠10
  ·rw[if_pos h,if_pos h,ai5 s f g (p+1) _ (by omega) (by omega)]
   have e:∀c,afn s f (p+2) (acc++[UInt8.ofNat c])=afn s g (p+2) (acc++[UInt8.ofNat c]):=fun c=>ai5 s f g (p+2) _ (by omega) (by omega)
   simp only[e]
  ·rw[if_neg h,if_neg h]
def aec (s:ByteArray) (p:Nat) (acc:List UInt8):Nat ⊕ (List UInt8×Nat):=afn s (s.size-p) p acc
theorem ajh {s:ByteArray} {p:Nat} {acc:List UInt8} (h:¬aci s p):aec s p acc=.inl p:=by
 unfold aec aci at *
 cases hf:s.size-p with
 | zero=>rfl
 | succ f=>rw[afn,if_neg h]
theorem aht {s:ByteArray} {p:Nat} {acc:List UInt8} (h:aci s p):aec s p acc =
   (if zo s p=34 then .inr (acc,p+1)
   else if zo s p=92 then
    (if p+1<s.size∧zo s (p+1)≠10 then
     (match ahf (zo s (p+1)) with
      | some c=>aec s (p+2) (acc++[UInt8.ofNat c])
      | none=>.inl (p+1))
    else .inl (p+1))
   else aec s (p+1) (acc++[UInt8.ofNat (zo s p)])):=by
 unfold aec aci at *
 have h1:=h.1
 rw[show s.size-p=(s.size-(p+1))+1 by omega,afn,if_pos h]
 have e:∀c,afn s (s.size-(p+1)) (p+2) (acc++[UInt8.ofNat c])=afn s (s.size-(p+2)) (p+2) (acc++[UInt8.ofNat c]):=fun c=>ai5 s _ _ (p+2) _ (by omega) (by omega)
 simp only[e]
theorem amt {s:ByteArray} {p:Nat} {acc:List UInt8} (h:aci s p) (h1:zo s p=34):aec s p acc=.inr (acc,p+1):=by
 rw[aht h,if_pos h1]
theorem al6 {s:ByteArray} {p:Nat} {acc:List UInt8} (h:aci s p) (h1:zo s p=92) (h2:¬aci s (p+1)):aec s p acc=.inl (p+1):=by
 rw[aht h,if_neg (by omega),if_pos h1,if_neg (show ¬(p+1<s.size∧zo s (p+1)≠10) from h2)]
theorem apl {s:ByteArray} {p:Nat} {acc:List UInt8} (h:aci s p) (h1:zo s p=92) (h2:aci s (p+1)) (h3:ahf (zo s (p+1))=none):aec s p acc=.inl (p+1):=by
 rw[aht h,if_neg (by omega),if_pos h1,if_pos (show p+1<s.size∧zo s (p+1)≠10 from h2),h3]
theorem ajr {s:ByteArray} {p c:Nat} {acc:List UInt8} (h:aci s p) (h1:zo s p=92) (h2:aci s (p+1)) (h3:ahf (zo s (p+1))=some c):aec s p acc=aec s (p+2) (acc++[UInt8.ofNat c]):=by
 rw[aht h,if_neg (by omega),if_pos h1,if_pos (show p+1<s.size∧zo s (p+1)≠10 from h2),h3]
theorem amu {s:ByteArray} {p:Nat} {acc:List UInt8} (h:aci s p) (h1:zo s p≠34) (h2:zo s p≠92):aec s p acc=aec s (p+1) (acc++[UInt8.ofNat (zo s p)]):=by
 rw[aht h,if_neg h1,if_neg h2]
theorem aif {w:World} {r:Nat} {S:LS} (h:Rd w r S) (fit:Fit S) (hs:aci S.src S.pl) :
  Calls prog 180 #[.pointer (some ⟨r,0,none⟩)] w fun e w'=>e=.returned (.int .u8 (zo S.src S.pl))∧Rd w' r { S with pl:=S.pl+1 }∧Ext r w w':=by
 have:=alp h fit hs.1 (by rw[aa0 hs.1];exact hs.2)
 rw[aa0 hs.1] at this
 exact this
theorem agu {w:World} {r:Nat} {S:LS} (h:Rd w r S) (fit:Fit S) (hs:¬aci S.src S.pl) :
  Calls prog 180 #[.pointer (some ⟨r,0,none⟩)] w fun e w'=>e=.panicked (adq 3 S.pl)∧Ext r w w' :=
 aub h fit fun hlt=>by
  rw[aa0 hlt]
  unfold aci at hs
  omega
theorem auc {w:World} {r:Nat} {S:LS} (h:Rd w r S) (fit:Fit S) (hs:aci S.src S.pl) {c:Nat} (hc:ahf (zo S.src S.pl)=some c) :
  Calls prog 181 #[.pointer (some ⟨r,0,none⟩)] w fun e w'=>e=.returned (.int .u8 c)∧Rd w' r { S with pl:=S.pl+1 }∧Ext r w w':=by
 have:=alq h fit hs.1 (by rw[aa0 hs.1];exact hs.2)
 rw[aa0 hs.1,hc] at this
 exact this.mono fun e w' h=>⟨h.1.1,h.1.2,h.2⟩
theorem arb {w:World} {r:Nat} {S:LS} (h:Rd w r S) (fit:Fit S) (hs:aci S.src S.pl) (hc:ahf (zo S.src S.pl)=none) :
  Calls prog 181 #[.pointer (some ⟨r,0,none⟩)] w fun e w'=>e=.panicked (adq 3 S.pl)∧Ext r w w':=by
 have:=alq h fit hs.1 (by rw[aa0 hs.1];exact hs.2)
 rw[aa0 hs.1,hc] at this
 exact this.mono fun e w' h=>⟨h.1,h.2⟩
theorem arc {w:World} {r:Nat} {S:LS} (h:Rd w r S) (fit:Fit S) (hs:¬aci S.src S.pl) :
  Calls prog 181 #[.pointer (some ⟨r,0,none⟩)] w fun e w'=>e=.panicked (adq 3 S.pl)∧Ext r w w':=by
 have HI:=zb (agu h fit hs)
 clear h fit hs
 go_enter func181,ntmps181
 go_wp2_with fail
 refine(za HI).mono ?_
 rintro e w1 ⟨rfl,hx⟩
 exact⟨rfl,rfl,hx⟩
def akg (l:List UInt8):List Value:=l.map fun b=>.int .u8 b.toNat
theorem infoU8:(prog.info? 5).map (fun i=>(i.zero,i.size,i.bytes))=some (some (.int .u8 0),1,1):=by kernel_rfl
theorem ard {w w':World} {r:Nat} {S:LS} {row:Option Nat} (h:Rd w r S) (hg:w.grownBy w' row) (hr:some r≠row):Rd w' r S:=by
 have hl:=h.lt
 obtain⟨t,h⟩:=h
 exact⟨t,(hg.block r hl hr).trans h⟩
theorem ae3 {a w w':World} {r:Nat} {row:Option Nat} (h:Ext r a w) (hg:w.grownBy w' row) (hr:∀k,row=some k→a.heap.size≤k):Ext r a w' :=
 ⟨hg.os.trans h.os,hg.tape.trans h.tape,hg.output.trans h.output,Nat.le_trans h.size hg.size,fun k hk hkr=>(hg.block k (Nat.lt_of_lt_of_le hk h.size) (fun e=>by have:=hr k e.symm;omega)).trans (h.block k hk hkr)⟩
theorem al7 {w w':World} {r base:Nat} {e:TypeId} {size:Nat} {v:Value} {n:Nat} {xs:List Value} (h:w.ownsRow base e size v n xs) (hx:Ext r w w') (hr:r<base):w'.ownsRow base e size v n xs:=by
 obtain⟨h1,h2⟩:=h
 refine⟨h1,?_⟩
 rcases h2 with h2 | ⟨g,cap,cur,hv,hg,hh,hs⟩
 ·exact Or.inl h2
 ·exact Or.inr ⟨g,cap,cur,hv,hg,(hx.block g (gtE hh).1 (by omega)).trans hh,hs⟩
theorem ajs {w:World} {base:Nat} {e:TypeId} {size:Nat} {v:Value} {n:Nat} {xs:List Value} (h:w.ownsRow base e size v n xs):∀k,v.ownBlock=some k→base≤k:=fun k hk=>(h.lt k hk).1
def agz (t:Nat ⊕ (List UInt8×Nat)) (S:LS) (r:Nat) (e:Ending) (w':World):Prop:=match t with
 | .inl p=>e=.panicked (adq 3 p)
 | .inr (said,p)=>if 300<said.length then e=.panicked (adq 4 S.tp) else e=.returned (.tuple #[])∧Rd w' r { S with pl:=p,kd:=4,tx:=⟨said.toArray⟩ }
theorem bbq {said:List UInt8} {p:Nat} {S:LS} {r:Nat} {e:Ending} {w':World} (h:300<said.length) (he:e=.panicked (adq 4 S.tp)):agz (.inr (said,p)) S r e w':=by
 show if 300<said.length then _ else _
 rw[if_pos h]
 exact he
theorem ayj {said:List UInt8} {p:Nat} {S:LS} {r:Nat} {e:Ending} {w':World} (h:¬300<said.length) (he:e=.returned (.tuple #[])) (hr:Rd w' r { S with pl:=p,kd:=4,tx:=⟨said.toArray⟩ }):agz (.inr (said,p)) S r e w':=by
 show if 300<said.length then _ else _
 rw[if_neg h]
 exact⟨he,hr⟩
theorem apm {n:Nat} (h:n<256):(UInt8.ofNat n).toNat=n:=by simp;omega
theorem escP_lt {n c:Nat} (h:ahf n=some c):c<256:=by
 unfold ahf at h
 split at h
 ·cases h;omega
 ·split at h
  ·cases h;omega
  ·split at h
   ·cases h;omega
   ·cases h
theorem aoj {w:World} {r:Nat} {S:LS} (h:Rd w r S) (fit:Fit S) (hlt:S.pl<S.src.size) :
  Calls prog 121 #[.pointer (some ⟨r,0,none⟩)] w fun e w'=>agz (aec S.src (S.pl+1) []) S r e w'∧Ext r w w':=by
 obtain⟨i0,hi,hz0,hz1,hz2⟩:=info_parts infoU8
 obtain⟨z1,z2,z3⟩:=fit
 have hrw:=h.lt
 have c1:=h.c1
 have f1:=h.f1
 have H0:=zb h
 clear h
 go_enter func121,ntmps121
 go_wp2_with fail
 have h1:Rd (w.setCell ⟨r,1,none⟩ (.int .i64 ((S.pl:Int)+1))) r { S with pl:=S.pl+1 }:=(za H0).set1 (S.pl+1)
 have hx1:Ext r w (w.setCell ⟨r,1,none⟩ (.int .i64 ((S.pl:Int)+1))):=(Ext.refl r w).setCell 1 _
 clear c1 f1
 generalize w.setCell ⟨r,1,none⟩ (.int .i64 ((S.pl:Int)+1))=w1 at *
 by_cases hin:aci S.src (S.pl+1)
 ·refine(aif h1 ⟨z1,by show S.pl+1≤S.src.size;omega,by show S.ln≤S.pl+1+1;omega⟩ hin).mono ?_
  rintro e w2 ⟨rfl,h2,hx2⟩
  go_wp2_with fail
  go_loopg [2,3] (S.src.size-(S.pl+1)) (fun g v c wr=>∃(q:Nat) (acc:List UInt8),aci S.src q∧c=.int .u8 (zo S.src q)∧Rd wr r { S with pl:=q+1 }∧Hid (wr.ownsRow w.heap.size 5 1 v acc.length (akg acc)) ∧
   Hid (Ext r w wr)∧g=S.src.size-q∧Hid (aec S.src q acc=aec S.src (S.pl+1) [])∧acc.length≤q∧S.pl≤q)
  case atStart=>exact⟨S.pl+1,[],hin,rfl,h2,World.ownsRow_nil _ _ _ _,hx1.trans hx2,rfl,rfl,by simp,by omega⟩
  case round =>
   clear h1 hx1 h2 hx2 hin H0
   obtain⟨q,acc,hin,rfl,hR,HO,HX,rfl,HE,hacc,hq⟩:=hrel
   have HR:=zb hR
   clear hR
   have hbd:=ait S.src q
   have hqs:q<S.src.size:=hin.1
   rcases(by omega:zo S.src q=34∨zo S.src q=92∨(zo S.src q≠34∧zo S.src q≠92)) with hb | hb | ⟨hb1,hb2⟩
   ·have HE':=zb ((amt hin hb).symm.trans (za HE))
    have b1:((zo S.src q:Int) !=34)=false:=by rw[bne_eq_false_iff_eq];omega
    rcases(za HO).2 with ⟨rfl,hn⟩ | ⟨g,cap,cur,rfl,hg,hh,hncap,hcap,hcur,hxs⟩
    ·have hacc0:acc=[]:=List.eq_nil_of_length_eq_zero hn
     subst hacc0
     have hconv:=Lib.run_convert_nil_bytes (P:=prog) wr 136 9 5 0 underlying136 underlying5 underlying9
     have HR':=za HR
     have c3:=HR'.c3
     have c7:=HR'.c7
     have f3:=HR'.f3
     have f7:=HR'.frozen 7
     clear HR'
     go_wp2_with fail
     go_end0
     refine⟨?_,((za HX).setCell 3 _).setCell 7 _⟩
     rw[←za HE']
     exact⟨rfl,((za HR).set3 4).set7 _⟩
    ·have hown:wr.ownsRow w.heap.size 5 1 (.slice (some ⟨g,0,none⟩) acc.length cap) acc.length (akg acc):=za HO
     by_cases hlong:300<acc.length
     ·have b3:decide (300<(acc.length:Int))=true:=decide_eq_true (by omega)
      go_wp2_with fail
      refine(aes (za HR) _).mono ?_
      rintro e w3 ⟨rfl,rfl⟩
      refine⟨rfl,?_,za HX⟩
      rw[←za HE']
      exact bbq hlong rfl
     ·have b3:decide (300<(acc.length:Int))=false:=decide_eq_false (by omega)
      have hconv:=run_convert_bytes_back (P:=prog) wr 136 9 5 ⟨g,0,none⟩ cap acc underlying136 underlying5 underlying9 (fun j hj=>hown.cells rfl j _ (by simp[akg,hj]))
      have HR':=za HR
      have c3:=HR'.c3
      have c7:=HR'.c7
      have f3:=HR'.f3
      have f7:=HR'.frozen 7
      clear HR' hown hxs hh
      go_wp2_with fail
      go_end0
      refine⟨?_,((za HX).setCell 3 _).setCell 7 _⟩
      rw[←za HE']
      exact ayj hlong rfl (((za HR).set3 4).set7 _)
   ·have b1:((zo S.src q:Int) !=34)=true:=by rw[bne_iff_ne];omega
    have b2:((zo S.src q:Int)==92)=true:=by rw[beq_iff_eq];omega
    by_cases hin1:aci S.src (q+1)
    ·cases hesc:ahf (zo S.src (q+1)) with
     | none =>
      have HF:=zb ((apl (acc:=acc) hin hb hin1 hesc).symm.trans (za HE))
      go_wp2_with fail
      refine(arb (za HR) ⟨z1,by show q+1≤S.src.size;omega,by show S.ln≤q+1+1;omega⟩ hin1 hesc).mono ?_
      rintro e w3 ⟨rfl,hx3⟩
      refine⟨rfl,?_,(za HX).trans hx3⟩
      rw[←za HF]
      exact rfl
     | some c0 =>
      have HS1:=zb (ajr (acc:=acc) hin hb hin1 hesc)
      have hc0:=escP_lt hesc
      have hin1':q+1<S.src.size:=hin1.1
      go_wp2_with fail
      refine(auc (za HR) ⟨z1,by show q+1≤S.src.size;omega,by show S.ln≤q+1+1;omega⟩ hin1 hesc).mono ?_
      rintro e w1' ⟨rfl,hr1,hx1⟩
      have HR1:=zb hr1
      have HX1:=zb ((za HX).trans hx1)
      have HO1:=zb (al7 (za HO) hx1 hrw)
      clear HR HX HO hr1 hx1 hesc hb hin
      have hin:=hin1
      go_wp2_with (at_builtin;refine wpList_append_own _ rfl _ _ 136 rfl w.heap.size 5 i0 (.int .u8 0) 1 1 underlying136 hi hz0 hz1 hz2 rfl (by decide) _ _ _ rfl ((za HO1).alloc _) ⟨w1'.heap.size,0,none⟩ 1 1 [.int .u8 (c0:Int)] rfl rfl (cell_one_new _ _ _) ?c2 ?c3 ?c4 ?c5 ?_)
      case c2=>intro u hu;simp at hu;subst hu;rfl
      case c3=>unfold maxLen;omega
      case c4=>omega
      case c5=>have:=(za HX1).size;simp;omega
      intro v' w2 hown' hgrow _
      have hr2:Rd w2 r { S with pl:=q+2 }:=ard ((za HR1).alloc _) hgrow (fun e=>by have:=ajs (za HO1) _ e.symm;omega)
      have hx2:Ext r w w2:=ae3 ((za HX1).alloc _) hgrow (fun k hk=>ajs (za HO1) k hk)
      have ho2:=zb hown'
      have HX2:=zb hx2
      have HR2:=zb hr2
      clear hown' hgrow hr2 hx2
      go_wp2_with fail
      by_cases hin2:aci S.src (q+2)
      ·refine(aif (za HR2) ⟨z1,by unfold aci at hin2;show q+2≤S.src.size;omega,by show S.ln≤q+2+1;omega⟩ hin2).mono ?_
       rintro e w3 ⟨rfl,hr3,hx3⟩
       go_wp2_with fail
       go_roundg (S.src.size-(q+2))
       case measure=>unfold aci at hin2;omega
       case rel =>
        refine⟨q+2,acc++[UInt8.ofNat c0],hin2,rfl,hr3,?_,zb ((za HX2).trans hx3),rfl,zb ((za HS1).symm.trans (za HE)),by simp;omega,by omega⟩
        refine zb ?_
        have:=al7 (za ho2) hx3 hrw
        simpa [akg,apm hc0] using this
      ·have HF:=zb ((ajh (acc:=acc++[UInt8.ofNat c0]) hin2).symm.trans ((za HS1).symm.trans (za HE)))
       refine(agu (za HR2) ⟨z1,by show q+2≤S.src.size;unfold aci at hin;omega,by show S.ln≤q+2+1;omega⟩ hin2).mono ?_
       rintro e w3 ⟨rfl,hx3⟩
       refine⟨rfl,?_,(za HX2).trans hx3⟩
       rw[←za HF]
       exact rfl
    ·have HF:=zb ((al6 (acc:=acc) hin hb hin1).symm.trans (za HE))
     go_wp2_with fail
     refine(arc (za HR) ⟨z1,by show q+1≤S.src.size;omega,by show S.ln≤q+1+1;omega⟩ hin1).mono ?_
     rintro e w3 ⟨rfl,hx3⟩
     refine⟨rfl,?_,(za HX).trans hx3⟩
     rw[←za HF]
     exact rfl
   ·have b1:((zo S.src q:Int) !=34)=true:=by rw[bne_iff_ne];omega
    have b2:((zo S.src q:Int)==92)=false:=by rw[beq_eq_false_iff_ne];omega
    have HS1:=zb (amu (acc:=acc) hin hb1 hb2)
    have HR1:=HR
    have HX1:=HX
    have HO1:=HO
    clear HR HX HO hb1 hb2
    go_wp2_with (at_builtin;refine wpList_append_own _ rfl _ _ 136 rfl w.heap.size 5 i0 (.int .u8 0) 1 1 underlying136 hi hz0 hz1 hz2 rfl (by decide) _ _ _ rfl ((za HO1).alloc _) ⟨wr.heap.size,0,none⟩ 1 1 [.int .u8 (zo S.src q)] rfl rfl (cell_one_new _ _ _) ?c2 ?c3 ?c4 ?c5 ?_)
    case c2=>intro u hu;simp at hu;subst hu;rfl
    case c3=>unfold maxLen;omega
    case c4=>omega
    case c5=>have:=(za HX1).size;simp;omega
    intro v' w2 hown' hgrow _
    have hr2:Rd w2 r { S with pl:=q+1 }:=ard ((za HR1).alloc _) hgrow (fun e=>by have:=ajs (za HO1) _ e.symm;omega)
    have hx2:Ext r w w2:=ae3 ((za HX1).alloc _) hgrow (fun k hk=>ajs (za HO1) k hk)
    have ho2:=zb hown'
    have HX2:=zb hx2
    have HR2:=zb hr2
    clear hown' hgrow hr2 hx2
    go_wp2_with fail
    by_cases hin2:aci S.src (q+1)
    ·refine(aif (za HR2) ⟨z1,by unfold aci at hin2;show q+1≤S.src.size;omega,by show S.ln≤q+1+1;omega⟩ hin2).mono ?_
     rintro e w3 ⟨rfl,hr3,hx3⟩
     go_wp2_with fail
     go_roundg (S.src.size-(q+1))
     case measure=>unfold aci at hin2;omega
     case rel =>
      refine⟨q+1,acc++[UInt8.ofNat (zo S.src q)],hin2,rfl,hr3,?_,zb ((za HX2).trans hx3),rfl,zb ((za HS1).symm.trans (za HE)),by simp;omega,by omega⟩
      refine zb ?_
      have:=al7 (za ho2) hx3 hrw
      simpa [akg,apm hbd] using this
    ·have HF:=zb ((ajh (acc:=acc++[UInt8.ofNat (zo S.src q)]) hin2).symm.trans ((za HS1).symm.trans (za HE)))
     refine(agu (za HR2) ⟨z1,by show q+1≤S.src.size;unfold aci at hin;omega,by show S.ln≤q+1+1;omega⟩ hin2).mono ?_
     rintro e w3 ⟨rfl,hx3⟩
     refine⟨rfl,?_,(za HX2).trans hx3⟩
     rw[←za HF]
     exact rfl
 ·have HF:=zb (ajh (acc:=[]) hin)
  refine(agu h1 ⟨z1,by show S.pl+1≤S.src.size;omega,by show S.ln≤S.pl+1+1;omega⟩ hin).mono ?_
  rintro e w3 ⟨rfl,hx3⟩
  refine⟨rfl,?_,hx1.trans hx3⟩
  rw[za HF]
  exact rfl
def aee (S:LS):ByteArray:=S.src.extract S.pl (ab1 S.src dg (S.src.size-S.pl) S.pl)
def aew (S:LS):Nat:=ab1 S.src dg (S.src.size-S.pl) S.pl
theorem ai6 {w:World} {r:Nat} {S:LS} (h:Rd w r S) (fit:Fit S) :
  Calls prog 176 #[.pointer (some ⟨r,0,none⟩),.func (.func 119) #[] #[]] w fun e w'=>e=.returned (.string (aee S)) ∧
   S.pl≤aew S∧Rd w' r { S with pl:=aew S }∧Fit { S with pl:=aew S }∧Ext r w w':=av3 h fit
theorem ajt (S:LS) (fit:Fit S):(aee S).size≤3000:=by
 have:=fit.size
 unfold aee
 rw[ByteArray.size_extract]
 omega
theorem aqk {w:World} {r:Nat} {S:LS} (h:Rd w r S) (fit:Fit S) (u:Nat) (hu:Lib.parseUintB 64 (aee S).data.toList=.ok u) (hb:decide ((9223372036854775808:Int)<(u:Int))=false) :
  Calls prog 120 #[.pointer (some ⟨r,0,none⟩)] w fun e w'=>e=.returned (.tuple #[])∧Rd w' r { S with pl:=aew S,kd:=3,nn:=wrap64 u }∧Ext r w w':=by
 have HS:=zb (ai6 h fit)
 have hs:=ajt S fit
 have HU:=zb hu
 clear hu h fit
 go_enter func120,ntmps120
 go_wp2_with fail
 refine(za HS).mono ?_
 rintro e w1 ⟨rfl,hle,h1,fit1,hx⟩
 go_wp2_with fail
 refine(Tryz.strconv_ParseUint_10_at64_ok (aee S) (by omega) u (za HU) _).mono ?_
 rintro e w2 ⟨rfl,hw2⟩
 have hbl:Below w1.heap.size w1 w2:=by
  rcases hw2 with rfl | rfl
  ·exact Below.refl _ _
  ·exact Lib.bytesWorld_below _ _ _
 clear hw2
 have h2:=ajq h1 hbl
 have c3:=h2.c3
 have c8:=h2.c8
 have f3:=h2.f3
 have f8:=h2.frozen 8
 go_wp2_with fail
 go_end0
 refine⟨rfl,?_,((hx.trans (air hbl)).setCell 3 _).setCell 8 _⟩
 have:=(h2.set3 3).set8 (wrap64 u)
 exact this
theorem al8 {w:World} {r:Nat} {S:LS} (h:Rd w r S) (fit:Fit S) (u:Nat) (hu:Lib.parseUintB 64 (aee S).data.toList=.ok u) (hb:decide ((9223372036854775808:Int)<(u:Int))=true) :
  Calls prog 120 #[.pointer (some ⟨r,0,none⟩)] w fun e w'=>e=.panicked (adq 2 S.tp)∧Ext r w w':=by
 have HS:=zb (ai6 h fit)
 have hs:=ajt S fit
 have HU:=zb hu
 clear hu h fit
 go_enter func120,ntmps120
 go_wp2_with fail
 refine(za HS).mono ?_
 rintro e w1 ⟨rfl,hle,h1,fit1,hx⟩
 go_wp2_with fail
 refine(Tryz.strconv_ParseUint_10_at64_ok (aee S) (by omega) u (za HU) _).mono ?_
 rintro e w2 ⟨rfl,hw2⟩
 have hbl:Below w1.heap.size w1 w2:=by
  rcases hw2 with rfl | rfl
  ·exact Below.refl _ _
  ·exact Lib.bytesWorld_below _ _ _
 clear hw2
 have h2:=ajq h1 hbl
 go_wp2_with fail
 refine(aes h2 _).mono ?_
 rintro e w3 ⟨rfl,rfl⟩
 exact⟨rfl,rfl,hx.trans (air hbl)⟩
theorem al9 {w:World} {r:Nat} {S:LS} (h:Rd w r S) (fit:Fit S) (hu:Lib.parseUintB 64 (aee S).data.toList=.range) (te:TypeId) (pe:Value) (hv:w.cell? ⟨7,0,none⟩=some (.iface te pe)) (hr:7≠r) :
  Calls prog 120 #[.pointer (some ⟨r,0,none⟩)] w fun e w'=>e=.panicked (adq 2 S.tp)∧Ext r w w':=by
 have HS:=zb (ai6 h fit)
 have hs:=ajt S fit
 have HU:=zb hu
 have hsz:=World.block_lt_of_cell? w _ hv
 clear hu h fit
 go_enter func120,ntmps120
 go_wp2_with fail
 refine(za HS).mono ?_
 rintro e w1 ⟨rfl,hle,h1,fit1,hx⟩
 have hv1:w1.cell? ⟨7,0,none⟩=some (.iface te pe):=by
  rw[World.cell?_of_block (w:=w) (hx.block _ hsz hr)]
  exact hv
 go_wp2_with fail
 refine(Tryz.strconv_ParseUint_10_at64_range (aee S) (by omega) (za HU) _ _ hv1 (Or.inr ⟨_,_,rfl⟩)).mono ?_
 rintro e w2 ⟨N,rfl,hN,_,hbl⟩
 have h2:=ajq h1 hbl
 clear hv hv1
 go_wp2_with fail
 refine(aes h2 _).mono ?_
 rintro e w3 ⟨rfl,rfl⟩
 exact⟨rfl,rfl,hx.trans (air hbl)⟩
theorem amv:∀(l:List UInt8) (M acc:Nat),(∀c∈l,dg c.toNat=true)→(∃u,Lib.parseUintM M acc l=.ok u)∨Lib.parseUintM M acc l=.range
 | [],M,acc,_=>Or.inl ⟨acc,rfl⟩
 | c :: l,M,acc,h=>by
  have h1:=h c (by simp)
  have h2:48≤c.toNat∧c.toNat≤57:=by
   simp[dg] at h1
   omega
  rw[Lib.parseUintM,if_pos h2]
  split
  ·exact Or.inr rfl
  ·split
   ·exact Or.inr rfl
   ·exact amv l M _ fun x hx=>h x (by simp[hx])
theorem aok {w:World} {r:Nat} {S:LS} (h:Rd w r S) (fit:Fit S) :
  Calls prog 116 #[.pointer (some ⟨r,0,none⟩)] w fun e w'=>e=.returned (.tuple #[]) ∧
   Rd w' r { S with pl:=(ab0 S.src (S.src.size-S.pl) S.pl S.ln).1,ln:=(ab0 S.src (S.src.size-S.pl) S.pl S.ln).2 } ∧
   Fit { S with pl:=(ab0 S.src (S.src.size-S.pl) S.pl S.ln).1,ln:=(ab0 S.src (S.src.size-S.pl) S.pl S.ln).2 }∧Ext r w w':=by
 obtain⟨z1,z2,z3⟩:=fit
 go_enter func116,ntmps116
 go_wp2
 go_loopg [] (S.src.size-S.pl) (fun k wr=>∃p l:Nat,Rd wr r { S with pl:=p,ln:=l }∧p≤S.src.size∧l≤p+1∧k=S.src.size-p∧Hid (ab0 S.src (S.src.size-p) p l=ab0 S.src (S.src.size-S.pl) S.pl S.ln)∧Ext r w wr)
 case atStart=>exact⟨S.pl,S.ln,h,z2,z3,rfl,rfl,Ext.refl _ _⟩
 case round =>
  clear h
  obtain⟨p,l,h,hp,hl,hk,HE,HX⟩:=hrel
  have c0:=h.c0
  have c1:=h.c1
  have c2:=h.c2
  have f1:=h.f1
  have f2:=h.f2
  have HR:=zb h
  clear h
  subst hk
  by_cases hlt:p<S.src.size
  ·have hlt':decide ((p:Int)<S.src.size)=true:=by simp;omega
   rcases(by omega:S.src[p].toNat=10∨S.src[p].toNat=32∨(S.src[p].toNat≠10∧S.src[p].toNat≠32)) with h1 | h1 | ⟨h1,h2⟩
   ·have H1:=zb ((aph hlt h1).symm.trans (za HE))
    have b1:((S.src[p].toNat:Int)==10)=true:=by rw[beq_iff_eq];omega
    clear h1 HE
    go_wp2
    go_quiet (fail)
    go_wp2
    go_quiet (fail)
    go_wp2
    go_roundg (S.src.size-(p+1))
    case measure=>omega
    case rel=>exact⟨p+1,l+1,(((za HR).drewN _).set2 (l+1)).set1 (p+1),by omega,by omega,rfl,H1,((HX.drewN _).setCell 2 _).setCell 1 _⟩
   ·have H1:=zb ((amr hlt h1).symm.trans (za HE))
    have b1:((S.src[p].toNat:Int)==10)=false:=by rw[beq_eq_false_iff_ne];omega
    have b2:((S.src[p].toNat:Int)==32)=true:=by rw[beq_iff_eq];omega
    clear h1 HE
    go_wp2
    go_quiet (fail)
    go_wp2
    go_quiet (fail)
    go_wp2
    go_roundg (S.src.size-(p+1))
    case measure=>omega
    case rel=>exact⟨p+1,l,((za HR).drewN _).set1 (p+1),by omega,by omega,rfl,H1,(HX.drewN _).setCell 1 _⟩
   ·have H1:=zb ((api hlt h1 h2).symm.trans (za HE))
    have b1:((S.src[p].toNat:Int)==10)=false:=by rw[beq_eq_false_iff_ne];omega
    have b2:((S.src[p].toNat:Int)==32)=false:=by rw[beq_eq_false_iff_ne];omega
    clear h1 h2 HE
    go_wp2
    go_quiet (fail)
    go_wp2
    go_quiet (fail)
    go_wp2
    refine bodyPost_ret (results_none Tryz.results116 _ _ _) rfl ?_
    rw[←za H1]
    exact⟨rfl,(za HR).drewN _,⟨z1,hp,hl⟩,HX.drewN _⟩
  ·have hlt':decide ((p:Int)<S.src.size)=false:=by simp;omega
   have H1:=zb ((aq9 hlt).symm.trans (za HE))
   clear HE
   go_wp2
   go_quiet (fail)
   go_wp2
   go_end0
   rw[←za H1]
   exact⟨rfl,(za HR).drewN _,⟨z1,hp,hl⟩,HX.drewN _⟩
end Go.Proofs.YtndgajlidckcdaaGreatDoor
