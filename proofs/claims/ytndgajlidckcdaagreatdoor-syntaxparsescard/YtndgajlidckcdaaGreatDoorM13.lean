/- A part. -/
import Derived.Test.YtndgajlidckcdaaGreatDoorM12
open Go.Proofs.Tryz
namespace Go.Proofs.YtndgajlidckcdaaGreatDoor
open Go.RowKit
set_option linter.unusedVariables false
set_option linter.unusedSimpArgs false
set_option maxRecDepth 100000
set_option maxHeartbeats 8000000
theorem bsz (a:Array UInt8):(⟨a⟩:ByteArray).size=a.size:=rfl
theorem ahc (l:List UInt8):(⟨l.toArray⟩:ByteArray).size=l.length:=by rw[bsz,List.size_toArray]
theorem ajc (a:ByteArray):a.data.toList.length=a.size:=by rw[Array.length_toList];rfl
theorem aeh (d:Nat):(xIn d).size=2*d:=by
 unfold xIn
 rw[ahc,Lib.repeatL_length]
 show d*2=_
 omega
section
variable {R:Wr} {d:Nat}
theorem acb {t:Tree} (l:Nat) (h:(R.B d t).size+9000≤30000*t.many):(zu R d l t).size+8998≤30000*t.many:=by
 unfold zu
 split
 ·simp only[ByteArray.size_append,bsz,List.size_toArray,List.length_cons,List.length_nil];omega
 ·omega
theorem bck {l:List Tree} (h:∀k∈l,(R.B d k).size+9000≤30000*k.many):(Lib.joinTail [44,32] (l.map fun t=>(zu R d 1 t).data.toList)).length≤30000*aay l:=by
 induction l with
 | nil=>exact Nat.zero_le _
 | cons a l ih =>
  have h1:=acb 1 (h a (List.mem_cons_self ..))
  have h2:=ih fun k hk=>h k (List.mem_cons_of_mem _ hk)
  have e:Lib.joinTail [44,32] ((a :: l).map fun t=>(zu R d 1 t).data.toList)=[44,32]++(zu R d 1 a).data.toList++Lib.joinTail [44,32] (l.map fun t=>(zu R d 1 t).data.toList):=by simp[Lib.joinTail]
  rw[e,List.length_append,List.length_append,ajc,zx]
  simp only[List.length_cons,List.length_nil]
  omega
theorem aft {l:List Tree} (h:∀k∈l,(R.B d k).size+9000≤30000*k.many):(abo R d l).size≤30000*aay l:=by
 unfold abo
 rw[ahc]
 cases l with
 | nil=>exact Nat.zero_le _
 | cons a l =>
  have h1:=acb 1 (h a (List.mem_cons_self ..))
  have h2:=bck fun k hk=>h k (List.mem_cons_of_mem _ hk)
  rw[List.map_cons,Lib.join_cons,List.length_append,ajc,zx]
  omega
theorem ahw {l:List Tree} (h:∀k∈l,(R.B d k).size+9000≤30000*k.many):(ab2 R d l).size≤30000*aay l+2:=by
 have:=aft h
 unfold ab2
 simp only[ByteArray.size_append,bsz,List.size_toArray,List.length_cons,List.length_nil]
 omega
theorem akp {t:Tree} (hd:d≤3000) (h:(R.S d t).size+9000≤30000*t.many):(afk R d t).size≤30000*t.many:=by
 unfold afk
 have:=aeh d
 simp only[ByteArray.size_append,bsz,List.size_toArray,List.length_cons,List.length_nil]
 omega
theorem aia {l:List Tree} (hd:d≤3000) (h:∀k∈l,(R.S d k).size+9000≤30000*k.many):(acw R d l).size≤30000*aay l:=by
 unfold acw
 rw[ahc]
 induction l with
 | nil=>exact Nat.zero_le _
 | cons a l ih =>
  have h1:=akp hd (h a (List.mem_cons_self ..))
  have h2:=ih fun k hk=>h k (List.mem_cons_of_mem _ hk)
  rw[List.flatMap_cons,List.length_append,ajc,zx]
  omega
theorem ajd {l:List Tree} (hd:d+1≤3000) (h:∀k∈l,(R.S (d+1) k).size+9000≤30000*k.many):(aby R d l).size≤30000*aay l+6003:=by
 have h1:=aia hd h
 have h2:=aeh d
 unfold aby
 simp only[ByteArray.size_append,bsz,List.size_toArray,List.length_cons,List.length_nil]
 omega
end
def stK (t:Tree):Prop:=sK t∨t.kind=2∨t.kind=3∨t.kind=4∨t.kind=5∨t.kind=15
structure Len (R:Wr) (f D:Nat):Prop where
 v:∀(t:Tree) (d:Nat),Wx t→vK t→t.many≤f→d≤D→(R.B d t).size+9000≤30000*t.many
 s:∀(t:Tree) (d:Nat),Wx t→stK t→t.many≤f→d≤D→(R.S d t).size+9000≤30000*t.many
theorem aa4 (t:Tree):t.many=1+aay t.kids:=ahi t
theorem abf {k:Nat} {tx un:ByteArray} {n:Int} (h:TextOk k tx un n):tx.size≤300∧un.size≤16:=by
 constructor
 ·by_cases h19:k=19
  ·exact h.st h19
  ·cases hn:ah9 k
   ·rw[h.nt hn h19];decide
   ·exact Nat.le_trans (h.nm hn).le (by decide)
 ·rcases h.un with e | e
  ·rw[e];decide
  ·exact e.2.le
theorem str_len (s:ByteArray):(ah2 s).size≤2*s.size+2:=by
 unfold ah2
 rw[ahc,List.length_append,List.length_append,←ajc s]
 have:∀l:List UInt8,(l.flatMap aii).length≤2*l.length:=by
  intro l
  induction l with
  | nil=>exact Nat.zero_le _
  | cons a l ih =>
   have h1:(aii a).length≤2:=by
    unfold aii
    split
    ·exact Nat.le_refl _
    ·split
     ·exact Nat.le_refl _
     ·exact Nat.le_succ 1
   rw[List.flatMap_cons,List.length_append,List.length_cons]
   omega
 have:=this s.data.toList
 simp only[List.length_cons,List.length_nil]
 omega
theorem anj:∀(k u:Nat),u<10 ^ (k+1)→(Lib.decDigits u).length≤k+1
 | 0,u,h=>by rw[Lib.decDigits_one (by simpa using h)];exact Nat.le_refl _
 | k+1,u,h=>by
  rw[Lib.decDigits]
  split
  ·exact Nat.succ_le_succ (Nat.zero_le _)
  ·rw[List.length_append]
   have:=anj k (u / 10) (by rw[Nat.div_lt_iff_lt_mul (by decide)];rw[Nat.pow_succ] at h;exact h)
   simp only[List.length_cons,List.length_nil]
   omega
theorem int_len (n:Int):(aj3 n).size≤400:=by
 unfold aj3
 rw[ahc]
 have h1:(n % 18446744073709551616).toNat<10 ^ 20:=by
  have:=Int.emod_lt_of_pos n (show (0:Int)<18446744073709551616 by decide)
  have:=Int.emod_nonneg n (show (18446744073709551616:Int)≠0 by decide)
  have h10:(10:Nat) ^ 20=100000000000000000000:=by decide
  omega
 exact Nat.le_trans (anj 19 _ h1) (by decide)
theorem aiy:∀k,k<46→(aac k).2=true→cls k=4∧(aac k).1.1.size≤2:=by decide
theorem agf {R:Wr} {d:Nat} {t a:Tree} (e:kid t 0=a) (h:(R.B d a).size+9000≤30000*a.many):(ada R d t).size+8996≤30000*a.many:=by
 have:=acb 1 h
 unfold ada
 rw[e]
 split
 ·simp only[ByteArray.size_append,bsz,List.size_toArray,List.length_cons,List.length_nil];omega
 ·omega
theorem aa3 {t a:Tree} {l:List Tree} (h:t.kids=a :: l):kid t 0=a:=by unfold kid;rw[h];rfl
theorem aeu {t a b:Tree} {l:List Tree} (h:t.kids=a :: b :: l):kid t 1=b:=by unfold kid;rw[h];rfl
theorem kid2 {t a b c:Tree} {l:List Tree} (h:t.kids=a :: b :: c :: l):kid t 2=c:=by unfold kid;rw[h];rfl
theorem amg {b:Tree} (hw:Wx b) (h7:b.kind=7):∀k∈b.kids,Wx k∧stK k:=fun k hk=>by
 have h:=hw.here.2
 rw[h7] at h
 exact⟨hw.kid hk,Or.inl ((show ∀k∈b.kids,sK k from h) k hk)⟩
theorem akq {b:Tree} (hw:Wx b) (h6:b.kind=6):∀k∈b.kids,Wx k∧vK k:=fun k hk=>by
 have h:=hw.here.2
 rw[h6] at h
 have:=(show b.kids.length≤8∧∀k∈b.kids,k.kind=24 from h).2 k hk
 exact⟨hw.kid hk,by unfold vK;omega⟩
theorem ab3 {R:Wr} {f D d:Nat} {t:Tree} (hR:Len R f D) (hw:Wx t) (hm:t.many≤f+1) (hd:d+1≤D) {k:Tree} (hk:k∈t.kids) (hv:vK k):(R.B d k).size+9000≤30000*k.many:=hR.v k d (hw.kid hk) hv (by have:=aet hk;rw[aa4] at hm;omega) (by omega)
theorem aso {R:Wr} {f D d:Nat} {t:Tree} (hR:Len R f D) (hw:Wx t) (hm:t.many≤f+1) (hd:d+1≤D) {p:Tree} (hb:p∈t.kids) (h6:p.kind=6):(abo R d p.kids).size+30000≤30000*p.many:=by
 have h1:=aft (R:=R) (d:=d) (l:=p.kids) fun k hk=>hR.v k d (akq (hw.kid hb) h6 k hk).1 (akq (hw.kid hb) h6 k hk).2 (by
  have a1:=aet hk
  have a2:=aet hb
  rw[aa4] at hm
  have a3:=aa4 p
  omega) (by omega)
 rw[aa4 p]
 omega
theorem af7 {R:Wr} {f D d:Nat} {t:Tree} (hR:Len R f D) (hw:Wx t) (hm:t.many≤f+1) (hd:d+1≤D) {l:List Tree} (hl:∀k∈l,k∈t.kids∧vK k):∀k∈l,(R.B d k).size+9000≤30000*k.many:=fun k hk=>ab3 hR hw hm hd (hl k hk).1 (hl k hk).2
theorem aij {R:Wr} {f D d:Nat} {t:Tree} (hR:Len R f D) (hw:Wx t) (hm:t.many≤f+1) (hd:d+1≤D) (hD:D≤3000) {b:Tree} (hb:b∈t.kids) (h7:b.kind=7):(aby R d b.kids).size+23997≤30000*b.many:=by
 have h1:=ajd (R:=R) (d:=d) (l:=b.kids) (by omega) fun k hk=>hR.s k (d+1) (amg (hw.kid hb) h7 k hk).1 (amg (hw.kid hb) h7 k hk).2 (by
  have a1:=aet hk
  have a2:=aet hb
  rw[aa4] at hm
  have a3:=aa4 b
  omega) hd
 rw[aa4 b]
 omega
theorem ale {R:Wr} {f D d:Nat} {t:Tree} (hR:Len R f D) (hw:Wx t) (hm:t.many≤f+1) (hd:d+1≤D) (hD:D≤3000) (h:ahq 2 t.kids):(afo R d t).size+39990≤30000*t.many:=by
 obtain⟨p,b,e,h6,h7⟩:=h
 have h1:=aso hR hw hm hd (p:=p) (by rw[e];simp) h6
 have h2:=aij hR hw hm hd hD (b:=b) (by rw[e];simp) h7
 unfold afo
 rw[aa3 e,aeu e,aa4 t,e]
 simp only[ByteArray.size_append,bsz,List.size_toArray,List.length_cons,List.length_nil,zx,aax]
 omega
theorem akr {R:Wr} {f D d:Nat} {t:Tree} (hR:Len R f D) (hw:Wx t) (hm:t.many≤f+1) (hd:d+1≤D) (hD:D≤3000) {c b:Tree} {l:List Tree} (e:t.kids=c :: b :: l) (hc:vK c) (h7:b.kind=7):(adi R d t).size+32990≤30000*(c.many+b.many):=by
 have h1:=acb 1 (ab3 hR hw hm hd (k:=c) (by rw[e];simp) hc)
 have h2:=aij hR hw hm hd hD (b:=b) (by rw[e];simp) h7
 unfold adi
 rw[aa3 e,aeu e]
 simp only[ByteArray.size_append,bsz,List.size_toArray,List.length_cons,List.length_nil]
 omega
theorem aw1 {R:Wr} {f D d:Nat} {t:Tree} (hR:Len R f D) (hw:Wx t) (hm:t.many≤f+1) (hd:d+1≤D) (hD:D≤3000) (hv:vK t):(aag R d t).size+9000≤30000*t.many:=by
 have ht:=(abf hw.here.1).1
 have hc:=hw.here.2
 have hml:=aa4 t
 unfold aag
 by_cases e:t.kind=18
 ·rw[if_pos e]
  have:=int_len t.n;omega
 rw[if_neg e]
 clear e
 by_cases e:t.kind=19
 ·rw[if_pos e]
  have:=str_len t.text;omega
 rw[if_neg e]
 clear e
 by_cases e:t.kind=20
 ·rw[if_pos e]
  simp only[bsz,List.size_toArray,List.length_cons,List.length_nil];omega
 rw[if_neg e]
 clear e
 by_cases e:t.kind=21
 ·rw[if_pos e]
  simp only[bsz,List.size_toArray,List.length_cons,List.length_nil];omega
 rw[if_neg e]
 clear e
 by_cases e:t.kind=22
 ·rw[if_pos e]
  simp only[bsz,List.size_toArray,List.length_cons,List.length_nil];omega
 rw[if_neg e]
 clear e
 by_cases e:t.kind=23
 ·rw[if_pos e]
  simp only[bsz,List.size_toArray,List.length_cons,List.length_nil];omega
 rw[if_neg e]
 clear e
 by_cases e:t.kind=25
 ·rw[if_pos e]
  rw[e] at hc
  have:=ahw (af7 hR hw hm hd (l:=t.kids) fun k hk=>⟨hk,(show _∧∀k∈t.kids,vK k from hc).2 k hk⟩)
  simp only[ByteArray.size_append,bsz,List.size_toArray,List.length_cons,List.length_nil]
  omega
 rw[if_neg e]
 clear e
 by_cases e:t.kind=26
 ·rw[if_pos e]
  rw[e] at hc
  have:=ahw (af7 hR hw hm hd (l:=t.kids) fun k hk=>⟨hk,(show _∧∀k∈t.kids,vK k from hc).2 k hk⟩)
  simp only[ByteArray.size_append,bsz,List.size_toArray,List.length_cons,List.length_nil]
  omega
 rw[if_neg e]
 clear e
 by_cases e:t.kind=27
 ·rw[if_pos e]
  rw[e] at hc
  have:=aft (af7 hR hw hm hd (l:=t.kids) fun k hk=>⟨hk,(show _∧∀k∈t.kids,vK k from hc).2 k hk⟩)
  simp only[ByteArray.size_append,bsz,List.size_toArray,List.length_cons,List.length_nil]
  omega
 rw[if_neg e]
 clear e
 by_cases e:t.kind=28
 ·rw[if_pos e]
  rw[e] at hc
  have:=ale hR hw hm hd hD hc
  simp only[ByteArray.size_append,bsz,List.size_toArray,List.length_cons,List.length_nil]
  omega
 rw[if_neg e]
 clear e
 by_cases e:t.kind=29
 ·rw[if_pos e]
  simp only[bsz,List.size_toArray,List.length_cons,List.length_nil];omega
 rw[if_neg e]
 clear e
 by_cases e:t.kind=30
 ·rw[if_pos e]
  rw[e] at hc
  obtain⟨a,ea,ha⟩:=(show ∃a,t.kids=[a]∧vK a from hc)
  have:=acb 1 (ab3 hR hw hm hd (k:=a) (by rw[ea];simp) ha)
  rw[aa3 ea]
  rw[ea,zx,aax] at hml
  simp only[ByteArray.size_append,bsz,List.size_toArray,List.length_cons,List.length_nil]
  omega
 rw[if_neg e]
 clear e
 ·omega
theorem bcm {R:Wr} {f D d:Nat} {t:Tree} (hR:Len R f D) (hw:Wx t) (hm:t.many≤f+1) (hd:d+1≤D) (hD:D≤3000) (hv:vK t):(zy R d t).size+9000≤30000*t.many:=by
 have ht:=(abf hw.here.1).1
 have hc:=hw.here.2
 have hml:=aa4 t
 unfold zy
 by_cases e:(aac t.kind).2=true
 ·rw[if_pos e]
  obtain⟨h4,hs⟩:=aiy t.kind (by unfold vK at hv;omega) e
  rw[h4] at hc
  obtain⟨a,b,ea,ha,hb⟩:=(show ∃a b,t.kids=[a,b]∧vK a∧vK b from hc)
  have h1:=acb (aac t.kind).1.2.2 (ab3 hR hw hm hd (k:=a) (by rw[ea];simp) ha)
  have h2:=acb ((aac t.kind).1.2.2+1) (ab3 hR hw hm hd (k:=b) (by rw[ea];simp) hb)
  rw[aa3 ea,aeu ea]
  rw[ea,zx,zx,aax] at hml
  simp only[ByteArray.size_append,bsz,List.size_toArray,List.length_cons,List.length_nil]
  omega
 rw[if_neg e]
 clear e
 by_cases e:t.kind=40
 ·rw[if_pos e]
  rw[e] at hc
  obtain⟨a,ea,ha⟩:=(show ∃a,t.kids=[a]∧vK a from hc)
  have h7:=acb 7 (ab3 hR hw hm hd (k:=a) (by rw[ea];simp) ha)
  have h8:=acb 8 (ab3 hR hw hm hd (k:=a) (by rw[ea];simp) ha)
  rw[aa3 ea]
  rw[ea,zx,aax] at hml
  simp only[ByteArray.size_append,bsz,List.size_toArray,List.length_cons,List.length_nil]
  omega
 rw[if_neg e]
 clear e
 by_cases e:t.kind=41
 ·rw[if_pos e]
  rw[e] at hc
  obtain⟨a,ea,ha⟩:=(show ∃a,t.kids=[a]∧vK a from hc)
  have h7:=acb 7 (ab3 hR hw hm hd (k:=a) (by rw[ea];simp) ha)
  have h8:=acb 8 (ab3 hR hw hm hd (k:=a) (by rw[ea];simp) ha)
  rw[aa3 ea]
  rw[ea,zx,aax] at hml
  simp only[ByteArray.size_append,bsz,List.size_toArray,List.length_cons,List.length_nil]
  omega
 rw[if_neg e]
 clear e
 by_cases e:t.kind=42
 ·rw[if_pos e]
  rw[e] at hc
  obtain⟨a,ea,ha⟩:=(show ∃a,t.kids=[a]∧vK a from hc)
  have h7:=acb 7 (ab3 hR hw hm hd (k:=a) (by rw[ea];simp) ha)
  have h8:=acb 8 (ab3 hR hw hm hd (k:=a) (by rw[ea];simp) ha)
  rw[aa3 ea]
  rw[ea,zx,aax] at hml
  simp only[ByteArray.size_append,bsz,List.size_toArray,List.length_cons,List.length_nil]
  omega
 rw[if_neg e]
 clear e
 by_cases e:t.kind=43
 ·rw[if_pos e]
  rw[e] at hc
  obtain⟨a,l,ea,ha,_,hl⟩:=(show ∃a l,t.kids=a :: l∧vK a∧l.length≤8∧∀k∈l,vK k from hc)
  have h8:=acb 8 (ab3 hR hw hm hd (k:=a) (by rw[ea];simp) ha)
  have h9:=ahw (af7 hR hw hm hd (l:=l) fun k hk=>⟨by rw[ea];exact List.mem_cons_of_mem _ hk,hl k hk⟩)
  rw[aa3 ea,show t.kids.drop 1=l by rw[ea];rfl]
  rw[ea,zx] at hml
  simp only[ByteArray.size_append,bsz,List.size_toArray,List.length_cons,List.length_nil]
  omega
 rw[if_neg e]
 clear e
 by_cases e:t.kind=44
 ·rw[if_pos e]
  rw[e] at hc
  obtain⟨a,b,ea,ha,hb⟩:=(show ∃a b,t.kids=[a,b]∧vK a∧vK b from hc)
  have h1:=acb 8 (ab3 hR hw hm hd (k:=a) (by rw[ea];simp) ha)
  have h2:=acb 1 (ab3 hR hw hm hd (k:=b) (by rw[ea];simp) hb)
  rw[aa3 ea,aeu ea]
  rw[ea,zx,zx,aax] at hml
  simp only[ByteArray.size_append,bsz,List.size_toArray,List.length_cons,List.length_nil]
  omega
 rw[if_neg e]
 clear e
 by_cases e:t.kind=45
 ·rw[if_pos e]
  rw[e] at hc
  obtain⟨a,l,ea,ha,_,hl⟩:=(show ∃a l,t.kids=a :: l∧vK a∧l.length≤8∧∀k∈l,vK k from hc)
  have h0:=ab3 hR hw hm hd (k:=a) (by rw[ea];simp) ha
  have h8:=acb 8 h0
  have h9:=ahw (af7 hR hw hm hd (l:=l) fun k hk=>⟨by rw[ea];exact List.mem_cons_of_mem _ hk,hl k hk⟩)
  unfold adp
  rw[aa3 ea,show t.kids.drop 1=l by rw[ea];rfl]
  rw[ea,zx] at hml
  split <;> simp only[ByteArray.size_append,bsz,List.size_toArray,List.length_cons,List.length_nil] <;> omega
 rw[if_neg e]
 clear e
 ·exact aw1 hR hw hm hd hD hv
theorem aks {R:Wr} {f D d:Nat} {t:Tree} (hR:Len R f D) (hw:Wx t) (hm:t.many≤f+1) (hd:d+1≤D) (hD:D≤3000) (h15:t.kind=15):(af6 R d t).size+53000≤30000*t.many:=by
 have ht:=(abf hw.here.1).1
 have hc:=hw.here.2
 rw[h15] at hc
 obtain⟨b,ek,h7⟩:=(show ∃b,t.kids=[b]∧b.kind=7 from hc)
 have hb:=aij hR hw hm hd hD (b:=b) (by rw[ek];simp) h7
 have hml:=aa4 t
 unfold af6
 rw[aa3 ek]
 rw[ek,zx,aax] at hml
 simp only[ByteArray.size_append,bsz,List.size_toArray,List.length_cons,List.length_nil]
 omega
theorem stm_len {R:Wr} {f D d:Nat} {t:Tree} (hR:Len R f D) (hw:Wx t) (hm:t.many≤f+1) (hd:d+1≤D) (hD:D≤3000) (hv:stK t):(aad R d t).size+9000≤30000*t.many:=by
 have ht:=(abf hw.here.1).1
 have hu:=(abf hw.here.1).2
 have hc:=hw.here.2
 have hml:=aa4 t
 have hin:=aeh d
 unfold aad
 by_cases e1:t.kind=2
 ·rw[if_pos e1]
  have e:=e1
  rw[e] at hc
  obtain⟨fs,ms,ek,_,h3,h4⟩:=(show ∃fs ms,t.kids=fs++ms∧fs.length≤8∧(∀k∈fs,k.kind=3)∧∀k∈ms,k.kind=4 from hc)
  have h1:=ajd (R:=R) (d:=d) (l:=t.kids) (by omega) fun k hk=>hR.s k (d+1) (hw.kid hk) (by
   rw[ek] at hk
   rcases List.mem_append.1 hk with q | q
   ·exact Or.inr (Or.inr (Or.inl (h3 k q)))
   ·exact Or.inr (Or.inr (Or.inr (Or.inl (h4 k q))))) (by have:=aet hk;omega) hd
  have h2:(afp t).size≤19:=by
   unfold afp
   split
   ·decide
   ·simp only[ByteArray.size_append,bsz,List.size_toArray,List.length_cons,List.length_nil];omega
  simp only[ByteArray.size_append,bsz,List.size_toArray,List.length_cons,List.length_nil]
  omega
 rw[if_neg e1]
 by_cases e2:t.kind=3
 ·rw[if_pos e2]
  have e:=e2
  simp only[ByteArray.size_append,bsz,List.size_toArray,List.length_cons,List.length_nil];omega
 rw[if_neg e2]
 by_cases e3:t.kind=4
 ·rw[if_pos e3]
  have e:=e3
  rw[e] at hc
  have:=ale hR hw hm hd hD hc
  simp only[ByteArray.size_append,bsz,List.size_toArray,List.length_cons,List.length_nil]
  omega
 rw[if_neg e3]
 by_cases e4:t.kind=5
 ·rw[if_pos e4]
  have e:=e4
  rw[e] at hc
  have:=ale hR hw hm hd hD hc
  simp only[ByteArray.size_append,bsz,List.size_toArray,List.length_cons,List.length_nil]
  omega
 rw[if_neg e4]
 by_cases e5:t.kind=8
 ·rw[if_pos e5]
  have e:=e5
  rw[e] at hc
  obtain⟨a,ea,ha⟩:=(show ∃a,t.kids=[a]∧vK a from hc)
  have h7:=acb 1 (ab3 hR hw hm hd (k:=a) (by rw[ea];simp) ha)
  rw[aa3 ea]
  rw[ea,zx,aax] at hml
  simp only[ByteArray.size_append,bsz,List.size_toArray,List.length_cons,List.length_nil]
  omega
 rw[if_neg e5]
 by_cases e6:t.kind=9
 ·rw[if_pos e6]
  have e:=e6
  rw[e] at hc
  obtain⟨a,b,ea,ha,hb,_⟩:=(show ∃a b,t.kids=[a,b]∧vK a∧vK b∧adm a.kind=true from hc)
  have h1:=agf (aa3 ea) (ab3 hR hw hm hd (k:=a) (by rw[ea];simp) ha)
  have h2:=acb 1 (ab3 hR hw hm hd (k:=b) (by rw[ea];simp) hb)
  rw[aeu ea]
  rw[ea,zx,zx,aax] at hml
  simp only[ByteArray.size_append,bsz,List.size_toArray,List.length_cons,List.length_nil]
  omega
 rw[if_neg e6]
 by_cases e7:t.kind=10
 ·rw[if_pos e7]
  have e:=e7
  rw[e] at hc
  obtain⟨c,b,h1,h7,hh⟩:=(show ∃c b,vK c∧b.kind=7∧(t.kids=[c,b]∨∃e,t.kids=[c,b,e]∧e.kind=7) from hc)
  unfold xIf
  rcases hh with ek | ⟨x,ek,hx⟩
  ·have hg:=akr hR hw hm hd hD ek h1 h7
   rw[ek,zx,zx,aax] at hml
   rw[if_neg (by rw[ek];simp)]
   simp only[ByteArray.size_append,bsz,List.size_toArray,List.length_cons,List.length_nil]
   omega
  ·have hg:=akr hR hw hm hd hD ek h1 h7
   have hb:=aij hR hw hm hd hD (b:=x) (by rw[ek];simp) hx
   rw[kid2 ek,if_pos (by rw[ek];simp)]
   rw[ek,zx,zx,zx,aax] at hml
   simp only[ByteArray.size_append,bsz,List.size_toArray,List.length_cons,List.length_nil]
   omega
 rw[if_neg e7]
 by_cases e8:t.kind=11
 ·rw[if_pos e8]
  have e:=e8
  rw[e] at hc
  obtain⟨c,b,ek,h1,h7⟩:=(show ∃c b,t.kids=[c,b]∧vK c∧b.kind=7 from hc)
  have hg:=akr hR hw hm hd hD ek h1 h7
  rw[ek,zx,zx,aax] at hml
  simp only[ByteArray.size_append,bsz,List.size_toArray,List.length_cons,List.length_nil]
  omega
 rw[if_neg e8]
 by_cases e9:t.kind=12
 ·rw[if_pos e9]
  have e:=e9
  rw[e] at hc
  unfold ahb
  rcases(show t.kids=[]∨∃a,t.kids=[a]∧vK a from hc) with ek | ⟨a,ea,ha⟩
  ·rw[if_pos (by rw[ek];rfl)]
   simp only[bsz,List.size_toArray,List.length_cons,List.length_nil]
   omega
  ·have h7:=acb 1 (ab3 hR hw hm hd (k:=a) (by rw[ea];simp) ha)
   rw[if_neg (by rw[ea];simp),aa3 ea]
   rw[ea,zx,aax] at hml
   simp only[ByteArray.size_append,bsz,List.size_toArray,List.length_cons,List.length_nil]
   omega
 rw[if_neg e9]
 by_cases e10:t.kind=13
 ·rw[if_pos e10]
  have e:=e10
  rw[e] at hc
  obtain⟨a,ea,ha⟩:=(show ∃a,t.kids=[a]∧vK a from hc)
  have h7:=acb 1 (ab3 hR hw hm hd (k:=a) (by rw[ea];simp) ha)
  rw[aa3 ea]
  rw[ea,zx,aax] at hml
  simp only[ByteArray.size_append,bsz,List.size_toArray,List.length_cons,List.length_nil]
  omega
 rw[if_neg e10]
 by_cases e11:t.kind=14
 ·rw[if_pos e11]
  have e:=e11
  rw[e] at hc
  obtain⟨b,c,ek,h7,h15⟩:=(show ∃b c,t.kids=[b,c]∧b.kind=7∧c.kind=15 from hc)
  have hb:=aij hR hw hm hd hD (b:=b) (by rw[ek];simp) h7
  have hs:=aks hR (hw.kid (by rw[ek];simp)) (t:=c) (d:=d) (by rw[ek,zx,zx,aax] at hml;omega) hd hD h15
  rw[aa3 ek,aeu ek]
  rw[ek,zx,zx,aax] at hml
  simp only[ByteArray.size_append,bsz,List.size_toArray,List.length_cons,List.length_nil]
  omega
 rw[if_neg e11]
 by_cases e12:t.kind=15
 ·rw[if_pos e12]
  have:=aks hR hw hm hd hD e12
  omega
 rw[if_neg e12]
 by_cases e13:t.kind=16
 ·rw[if_pos e13]
  have e:=e13
  rw[e] at hc
  obtain⟨a,ea,ha⟩:=(show ∃a,t.kids=[a]∧vK a from hc)
  have h7:=acb 1 (ab3 hR hw hm hd (k:=a) (by rw[ea];simp) ha)
  rw[aa3 ea]
  rw[ea,zx,aax] at hml
  simp only[ByteArray.size_append,bsz,List.size_toArray,List.length_cons,List.length_nil]
  omega
 rw[if_neg e13]
 ·have e:t.kind=17:=by
   unfold stK sK at hv
   omega
  rw[e] at hc
  obtain⟨a,ea,ha⟩:=(show ∃a,t.kids=[a]∧vK a from hc)
  have h7:=agf (aa3 ea) (ab3 hR hw hm hd (k:=a) (by rw[ea];simp) ha)
  rw[ea,zx,aax] at hml
  simp only[ByteArray.size_append,bsz,List.size_toArray,List.length_cons,List.length_nil]
  omega
theorem aik:∀(f D:Nat),f+D≤3000→Len (xN f) f D
 | 0,D,_=>⟨fun t d _ _ h=>by rw[aa4] at h;omega,fun t d _ _ h=>by rw[aa4] at h;omega⟩
 | f+1,D,h=>⟨fun t d hw hv hm hd=>bcm (aik f (D+1) (by omega)) hw hm (by omega) (by omega) hv,fun t d hw hv hm hd=>stm_len (aik f (D+1) (by omega)) hw hm (by omega) (by omega) hv⟩
end Go.Proofs.YtndgajlidckcdaaGreatDoor
