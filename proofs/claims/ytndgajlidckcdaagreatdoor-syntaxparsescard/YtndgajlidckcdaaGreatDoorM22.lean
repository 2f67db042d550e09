/- A part. -/
import Derived.Test.YtndgajlidckcdaaGreatDoorM20
import Derived.Test.YtndgajlidckcdaaGreatDoorM21
open Go.Proofs.Tryz
namespace Go.Proofs.YtndgajlidckcdaaGreatDoor
open Go.RowKit
set_option linter.unusedVariables false
set_option linter.unusedSimpArgs false
set_option maxRecDepth 100000
set_option maxHeartbeats 8000000
def RE (w : World) : Prop := Lib.TabIs prog w "internal/strconv.uint64pow10" .u64 Lib.pow10Tab ∧ ∃ m, w.cell? ⟨8, 0, none⟩ = some (.int .i64 m)
theorem RE.add {w w':World} (h:RE w) (ha:Add w w'):RE w':=⟨avn h.1 ha,h.2.imp fun m hm=>ha.cellk hm⟩
def dsK (t:Tree):Prop:=stK t∧t.kind≠15
structure DB (R:Wr) (f D:Nat):Prop where
 value:∀(w:World) (b:Nat) (t:Tree) (d l:Nat),RE w→Nd w b t→Wx t→vK t→t.many≤f→d≤D→Calls prog 82 #[.pointer (some ⟨b,0,none⟩),.int .i64 l,.string (xIn d)] w fun e w'=>e=.returned (.string (zu R d (l+1) t))∧Add w w'
 stm:∀(w:World) (b:Nat) (t:Tree) (d:Nat),RE w→Nd w b t→Wx t→dsK t→t.many≤f→d≤D→Calls prog 47 #[.pointer (some ⟨b,0,none⟩),.string (xIn d)] w fun e w'=>e=.returned (.string (afk R d t))∧Add w w'
 len:Len R f D
 f:f≤1200
 D:D≤3000
theorem acm {w:World} {b:Nat} {t:Tree} (hn:Nd w b t) (hv:vK t):Calls prog 136 #[.pointer (some ⟨b,0,none⟩)] w fun e w'=>e=.returned (.int .i64 ((aap t.kind:Int)-1))∧w'=w:=by
 obtain⟨ks,hk⟩:=hn.view
 have c0:=hk.c0
 obtain⟨h1,h2⟩:=hv
 clear hn hk
 by_cases hc:31≤t.kind∧t.kind≤41
 ·rcases(by omega:t.kind=31∨t.kind=32∨t.kind=33∨t.kind=34∨t.kind=35∨t.kind=36∨t.kind=37∨t.kind=38∨t.kind=39∨t.kind=40∨t.kind=41) with h | h | h | h | h | h | h | h | h | h | h <;> rw[h] at c0 <;> rw[h] <;> clear h h1 h2 hc
  all_goals
   go_enter func136,ntmps136
   go_wp2_with fail
   go_ret
   exact⟨rfl,rfl⟩
 ·have hs:aap t.kind=8:=by
   have:∀k,k<46→¬(31≤k∧k≤41)→aap k=8:=by decide
   exact this t.kind (by omega) hc
  rw[hs]
  have m31:((t.kind:Int)==31)=false:=by rw[beq_eq_false_iff_ne];omega
  have m32:((t.kind:Int)==32)=false:=by rw[beq_eq_false_iff_ne];omega
  have m33:((t.kind:Int)==33)=false:=by rw[beq_eq_false_iff_ne];omega
  have m34:((t.kind:Int)==34)=false:=by rw[beq_eq_false_iff_ne];omega
  have m35:((t.kind:Int)==35)=false:=by rw[beq_eq_false_iff_ne];omega
  have m36:((t.kind:Int)==36)=false:=by rw[beq_eq_false_iff_ne];omega
  have m37:((t.kind:Int)==37)=false:=by rw[beq_eq_false_iff_ne];omega
  have m38:((t.kind:Int)==38)=false:=by rw[beq_eq_false_iff_ne];omega
  have m39:((t.kind:Int)==39)=false:=by rw[beq_eq_false_iff_ne];omega
  have m40:((t.kind:Int)==40)=false:=by rw[beq_eq_false_iff_ne];omega
  have m41:((t.kind:Int)==41)=false:=by rw[beq_eq_false_iff_ne];omega
  clear hs h1 h2 hc
  generalize t.kind=kk at *
  go_enter func136,ntmps136
  go_wp2_with fail
  go_ret
  exact⟨rfl,rfl⟩
theorem agr {R:Wr} {f D:Nat} (hW:DB R f D) {w:World} (hg:RE w) {d:Nat} {v:Value} {l:List Tree} (hr:RowX w v l) (hok:ahx f l) (hm:aay l≤1200) (hd:d≤D) :
  Calls prog 86 #[v,.string (xIn d)] w fun e w'=>e=.returned (.string (abo R d l))∧Add w w':=by
 have HRX:=zb hr
 have HV:=zb fun (w1:World) (ha:Add w w1) (i:Nat) (t:Tree) (ht:l[i]?=some t) (b:Nat) (hb:Nd w1 b t)=>hW.value w1 b t d 0 (hg.add ha) hb (hok t (List.mem_of_getElem? ht)).1 (hok t (List.mem_of_getElem? ht)).2.1 (hok t (List.mem_of_getElem? ht)).2.2 hd
 have hlen:(abo R d l).size≤36000000:=by have:=aft (R:=R) (d:=d) (l:=l) fun k hk=>hW.len.v k d (hok k hk).1 (hok k hk).2.1 (hok k hk).2.2 hd;omega
 have hLN:l.length≤1200:=by
  have:∀l:List Tree,l.length≤aay l:=by
   intro l
   induction l with
   | nil=>exact Nat.zero_le _
   | cons a l ih=>rw[zx,List.length_cons,aa4 a];omega
  have:=this l
  omega
 have HLEN:=zb hlen
 obtain⟨i0,hi0,hz0,hz1,hz2⟩:=info_parts avo
 obtain⟨g,cap,rfl,hcap,hmax,_⟩:=hr
 obtain⟨L,hL⟩:∃L,l.length=L:=⟨_,rfl⟩
 have HL:=zb hL
 rw[hL] at hcap hLN HRX ⊢
 unfold maxLen at hmax
 clear hW hg hok hm hd hL hlen
 go_enter func86,ntmps86
 go_wp2_with fail
 go_loopg [5,10] L (fun gg pv iv wr=>∃i:Nat,i≤L∧gg=L-i∧iv=.int .i64 i∧Hid (Add w wr)∧Hid (wr.ownsRow w.heap.size 9 1 pv i ((l.take i).map fun t=>Value.string (zu R d 1 t))))
 case atStart=>exact⟨0,Nat.zero_le _,rfl,rfl,Add.refl w,⟨rfl,Or.inl ⟨rfl,rfl⟩⟩⟩
 case round =>
  obtain⟨i,hi,rfl,rfl,HA,HO⟩:=hrel
  by_cases hlt:i<L
  ·have hlt3:(i:Int)<(L:Int):=by omega
   obtain⟨t,ht⟩:∃t,l[i]?=some t:=⟨_,List.getElem?_eq_getElem (by have:=za HL;omega)⟩
   have hli:=(show RowX w (.slice g l.length cap) l by rw[za HL];exact za HRX).add (za HA)
   obtain⟨g',cap',e1,_,_,hat⟩:=hli
   cases e1
   obtain⟨ga,go,kb,rfl,hc,hnd⟩:=hat i t ht
   have HC:=zb (za HV wr (za HA) i t ht kb hnd)
   have HT:=zb (ai0 ht)
   clear hat hnd ht
   go_wp2_with fail
   refine(za HC).mono ?_
   rintro e w1 ⟨rfl,ha1⟩
   have HA1:=zb ((za HA).tr ha1)
   have HA1A:=zb ha1
   have HOA:=zb ((alf (za HO) ha1).alloc (.cells #[.string (zu R d 1 t)] 9))
   have hsz1:=(za HA1).size
   clear ha1 HC
   go_wp2_with (at_builtin;refine wpList_append_lies _ rfl _ _ _ rfl w.heap.size 9 i0 (.string ByteArray.empty) 1 16 underlying57 hi0 hz0 hz1 hz2 rfl (by decide) _ i ((l.take i).map fun t=>Value.string (zu R d 1 t)) rfl (za HOA) ⟨w1.heap.size,0,none⟩ 1 1 [.string (zu R d 1 t)] rfl rfl (World.news_of_block (aaq _ _)) ?c2 (by decide) ?c3 ?c4 ?c5 (w1.heap.size+1) ?c6 ?_)
   case c2=>first | exact⟨rfl⟩ | (intro u hu;simp at hu;subst hu;rfl)
   case c3=>unfold maxLen;omega
   case c4=>omega
   case c5=>simp;omega
   try case c6=>simp
   intro g2 cap2 w3 hown hgrow hat2 hlt2
   have HT3:Hid (w3.ownsRow w.heap.size 9 1 (.slice (some ⟨g2,0,none⟩) (i+1) cap2) (i+1) ((l.take (i+1)).map fun t=>Value.string (zu R d 1 t))):=by rw[za HT,List.map_append,List.map_take];exact hown
   have HA3:=zb (afq (za HA1) (alf (za HO) (za HA1A)) hgrow)
   clear hown hgrow hat2 hlt2 HOA HA1A
   go_wp2_with fail
   go_roundg (L-(i+1))
   case measure=>omega
   case rel=>exact⟨i+1,by omega,rfl,by go_num,HA3,HT3⟩
  ·obtain rfl:i=L:=by omega
   have hlt3:¬((i:Int)<(i:Int)):=by omega
   have HX:Hid (wr.ownsRow w.heap.size 9 1 u5 (l.map (zu R d 1)).length ((l.map (zu R d 1)).map Value.string)):=by
    have:=za HO
    rw[List.take_of_length_le (by have:=za HL;omega)] at this
    rw[List.length_map,za HL,List.map_map]
    exact this
   have HJ:=zb (asq (za HX) (by rw[List.length_map,za HL];omega) (by have:=za HLEN;unfold abo at this;rw[ahc] at this;rw[List.map_map];exact Nat.le_trans this (by decide)))
   clear HX HO
   go_wp2_with fail
   refine(za HJ).mono ?_
   rintro e w1 ⟨rfl,ha1⟩
   have HA1:=zb ((za HA).tr ha1)
   clear ha1
   go_wp2_with fail
   go_ret
   exact⟨rfl,za HA1⟩
def ab8 (R:Wr) (d:Nat) (h:ByteArray) (l:List Tree):ByteArray:=(((((xIn d++h)++⟨#[32,123,10]⟩)++acw R (d+1) l)++xIn d)++⟨#[125,10]⟩)
theorem bcx (d:Nat):xIn d++⟨#[32,32]⟩=xIn (d+1):=by
 apply ahz
 unfold xIn
 rw[ByteArray.data_append,Array.toList_append]
 show Lib.repeatL [32,32] d++[32,32]=Lib.repeatL [32,32] (d+1)
 rw[Lib.repeatL_add]
 rfl
theorem al0 {R:Wr} {d i:Nat} {l:List Tree} {t:Tree} (h:l[i]?=some t):acw R d (l.take i)++afk R d t=acw R d (l.take (i+1)):=by
 apply ahz
 unfold acw
 rw[ai0 h,ByteArray.data_append,Array.toList_append]
 show (List.flatMap _ _)++_=List.flatMap _ _
 rw[List.flatMap_append]
 simp
def DsOk (f:Nat) (l:List Tree):Prop:=∀k∈l,Wx k∧dsK k∧k.many≤f
theorem anz {R:Wr} {f D d:Nat} (hW:Len R f D) (hD:D≤3000) {l:List Tree} (hok:DsOk f l) (hm:aay l≤1200) (hd:d≤D) (i:Nat):(acw R d (l.take i)).size≤36000000:=by
 have h1:=aia (R:=R) (d:=d) (l:=l.take i) (by omega) fun k hk=>hW.s k d (hok k (List.mem_of_mem_take hk)).1 (hok k (List.mem_of_mem_take hk)).2.1.1 (hok k (List.mem_of_mem_take hk)).2.2 hd
 have h2:aay (l.take i)+aay (l.drop i)=aay l:=by rw[←ahv,List.take_append_drop]
 omega
theorem adt {R:Wr} {f D:Nat} (hW:DB R f D) {w:World} (hg:RE w) {d:Nat} {v:Value} {l:List Tree} {h:ByteArray} (hh:h.size≤100000000) (hr:RowX w v l) (hok:DsOk f l) (hm:aay l≤1200) (hd:d+1≤D) :
  Calls prog 85 #[.string h,v,.string (xIn d)] w fun e w'=>e=.returned (.string (ab8 R d h l))∧Add w w':=by
 have HRX:=zb hr
 have HV:=zb fun (w1:World) (ha:Add w w1) (i:Nat) (t:Tree) (ht:l[i]?=some t) (b:Nat) (hb:Nd w1 b t)=>hW.stm w1 b t (d+1) (hg.add ha) hb (hok t (List.mem_of_getElem? ht)).1 (hok t (List.mem_of_getElem? ht)).2.1 (hok t (List.mem_of_getElem? ht)).2.2 hd
 have HLT:=zb (anz (d:=d+1) hW.len hW.D hok hm hd)
 have HLL:=zb fun (i:Nat) (t:Tree) (ht:l[i]?=some t)=>show (afk R (d+1) t).size≤40000000 by
  have h1:=akp (R:=R) (d:=d+1) (t:=t) (by have:=hW.D;omega) (hW.len.s t (d+1) (hok t (List.mem_of_getElem? ht)).1 (hok t (List.mem_of_getElem? ht)).2.1.1 (hok t (List.mem_of_getElem? ht)).2.2 hd)
  have:=(hok t (List.mem_of_getElem? ht)).2.2
  have:=hW.f
  omega
 have hi:(xIn d).size≤6000:=by rw[aeh];have:=hW.D;omega
 have HIN:=zb (bcx d)
 have HX:=zb (show ab8 R d h l=(((((xIn d++h)++⟨#[32,123,10]⟩)++acw R (d+1) l)++xIn d)++⟨#[125,10]⟩) from rfl)
 have HX0:Hid (((xIn d++h)++⟨#[32,123,10]⟩)=((xIn d++h)++⟨#[32,123,10]⟩)++acw R (d+1) (l.take 0)):=by
  apply ahz
  rw[List.take_zero,ByteArray.data_append (l':=acw R (d+1) []),Array.toList_append]
  show _=_++[]
  rw[List.append_nil]
 obtain⟨g,cap,rfl,hcap,hmax,_⟩:=hr
 obtain⟨L,hL⟩:∃L,l.length=L:=⟨_,rfl⟩
 have hLN:L≤1200:=by
  have:∀l:List Tree,l.length≤aay l:=by
   intro l
   induction l with
   | nil=>exact Nat.zero_le _
   | cons a l ih=>rw[zx,List.length_cons,aa4 a];omega
  have:=this l
  omega
 have HL:=zb hL
 rw[hL] at hcap HRX ⊢
 unfold maxLen at hmax
 clear hW hg hok hm hd hL
 go_enter func85,ntmps85
 go_wp2_with fail
 go_loopg [7,16] L (fun gg ov iv wr=>∃i:Nat,i≤L∧gg=L-i∧iv=.int .i64 i∧Hid (Add w wr)∧ov=.string (((xIn d++h)++⟨#[32,123,10]⟩)++acw R (d+1) (l.take i)))
 case atStart=>exact⟨0,Nat.zero_le _,rfl,rfl,Add.refl w,by rw[←za HX0]⟩
 case round =>
  clear HX0
  obtain⟨i,hi2,rfl,rfl,HA,rfl⟩:=hrel
  have hls:=za HLT i
  by_cases hlt:i<L
  ·have hlt3:(i:Int)<(L:Int):=by omega
   obtain⟨t,ht⟩:∃t,l[i]?=some t:=⟨_,List.getElem?_eq_getElem (by have:=za HL;omega)⟩
   have hli:=(show RowX w (.slice g l.length cap) l by rw[za HL];exact za HRX).add (za HA)
   obtain⟨g',cap',e1,_,_,hat⟩:=hli
   cases e1
   obtain⟨ga,go,kb,rfl,hc,hnd⟩:=hat i t ht
   have HC:Hid (Calls prog 47 #[.pointer (some ⟨kb,0,none⟩),.string (xIn d++⟨#[32,32]⟩)] wr fun e w'=>e=.returned (.string (afk R (d+1) t))∧Add wr w'):=by rw[za HIN];exact za HV wr (za HA) i t ht kb hnd
   have HS:=zb (al0 (R:=R) (d:=d+1) ht)
   have hsl:=za HLL i t ht
   clear hat hnd ht
   generalize afk R (d+1) t=Y at *
   generalize hZ:acw R (d+1) (l.take i)=Z at *
   generalize hI:xIn d=I at *
   go_wp2_with fail
   refine(za HC).mono ?_
   rintro e w1 ⟨rfl,ha1⟩
   have HA1:=zb ((za HA).tr ha1)
   clear ha1 HC
   go_wp2_with fail
   go_roundg (L-(i+1))
   case measure=>omega
   case rel=>exact⟨i+1,by omega,rfl,by go_num,HA1,by rw[←za HS,ByteArray.append_assoc (c:=Y)]⟩
  ·obtain rfl:i=L:=by omega
   have hlt3:¬((i:Int)<(i:Int)):=by omega
   have HT:=zb (List.take_of_length_le (l:=l) (i:=i) (by have:=za HL;omega))
   rw[za HT] at hls ⊢
   generalize acw R (d+1) l=Z at *
   generalize xIn d=I at *
   go_wp2_with fail
   go_ret
   rw[za HX]
   exact⟨rfl,za HA⟩
theorem dz_bare {R:Wr} {f D:Nat} (hW:DB R f D) {d:Nat} {t:Tree} (hx:Wx t) (hm:t.many≤f+1) (hd:d+1≤D) {k:Tree} (hk:k∈t.kids) (hv:vK k):(R.B d k).size≤40000000:=by
 have:=ab3 hW.len hx hm hd hk hv
 have:=acr hm hk
 have:=hW.f
 omega
theorem ad0 {R:Wr} {f D:Nat} (hW:DB R f D) {d:Nat} {t:Tree} (hx:Wx t) (hm:t.many≤f+1) (hd:d+1≤D) {k:Tree} (hk:k∈t.kids) (hv:vK k) (l:Nat):(zu R d l k).size≤40000000:=by
 have:=acb l (ab3 hW.len hx hm hd hk hv)
 have:=acr hm hk
 have:=hW.f
 omega
theorem ag5 {R:Wr} {f D:Nat} (hW:DB R f D) {d:Nat} {t:Tree} (hx:Wx t) (hm:t.many≤f+1) (hd:d+1≤D) {l:List Tree} (hl:∀k∈l,k∈t.kids∧vK k) (hml:aay l≤1200):(abo R d l).size≤40000000:=by
 have:=aft (af7 hW.len hx hm hd hl)
 omega
theorem dz_pa {R:Wr} {f D:Nat} (hW:DB R f D) {d:Nat} {t:Tree} (hx:Wx t) (hm:t.many≤f+1) (hd:d+1≤D) {p:Tree} (hk:p∈t.kids) (h6:p.kind=6):(abo R d p.kids).size≤40000000:=by
 have:=aso hW.len hx hm hd hk h6
 have:=acr hm hk
 have:=hW.f
 omega
theorem an0 {R:Wr} {f D:Nat} (hW:DB R f D) {d:Nat} {t:Tree} (hx:Wx t) (hm:t.many≤f+1) (hd:d+1≤D) {p:Tree} (hk:p∈t.kids) (h7:p.kind=7):(aby R d p.kids).size≤40000000:=by
 have:=aij hW.len hx hm hd hW.D hk h7
 have:=acr hm hk
 have:=hW.f
 omega
theorem af9 {f:Nat} {t p:Tree} (hx:Wx t) (hm:t.many≤f+1) (hp:p∈t.kids) (h7:p.kind=7):DsOk f p.kids:=fun k hk=>by
 have h:=ahk hx hm hp h7 k hk
 refine⟨h.1,⟨h.2.1,?_⟩,h.2.2⟩
 have h2:=(hx.kid hp).here.2
 rw[h7] at h2
 exact((show ∀k∈p.kids,sK k from h2) k hk).2.2
theorem agl {R:Wr} {f D:Nat} (hW:DB R f D) {w:World} (hg:RE w) {b d:Nat} {t:Tree} (hn:Nd w b t) (hx:Wx t) (hm:t.many≤f+1) (hd:d+1≤D) {nb ib:Nat} (hnb:w.cell? ⟨nb,0,none⟩=some (.pointer (some ⟨b,0,none⟩))) (hib:w.cell? ⟨ib,0,none⟩=some (.string (xIn d))) {c:Tree} {l:List Tree} {n:Nat} (ek:t.kids=c :: l) (hv:vK c) :
  Calls prog 137 #[.int .i64 0,.int .i64 n,.pointer (some ⟨nb,0,none⟩),.pointer (some ⟨ib,0,none⟩)] w fun e w'=>e=.returned (.string (zu R d (n+1) c))∧Add w w':=by
 obtain⟨g,cap,k0,hcap,hmx,c5,g0,n0,hrest⟩:=hn.one ek
 have oc:=adc hx hm (k:=c) (by rw[ek];simp) hv
 obtain⟨L,hL⟩:∃L,l.length=L:=⟨_,rfl⟩
 have c5:w.cell? ⟨b,5,none⟩=some (.slice (some ⟨g,0,none⟩) (L+1) cap):=by rw[←hL];exact c5
 have hL0:(0:Int)<(L:Int)+1:=by omega
 have HC0:=zb fun (w1:World) (ha:Add w w1)=>hW.value w1 k0 c d n (hg.add ha) (n0.add ha) oc.1 oc.2.1 oc.2.2 (Nat.le_of_succ_le hd)
 have HA:=zb (Add.refl w)
 clear hn hx hm hd hg hW n0 hrest oc hL
 generalize zu R d (n+1) c=X0 at *
 go_enter func137,ntmps137
 go_wp2_with fail
 have ent0:∀w:World,Sem.run prog (callFunc 82 #[.pointer (some ⟨k0,0,none⟩),.int .i64 n,.string (xIn d)]) w=.ok (.enter 82 #[.pointer (some ⟨k0,0,none⟩),.int .i64 n,.string (xIn d)]) w:=fun _=>by kernel_rfl
 refine wp_region_held_drew (S:=fun w'=>w'.cell? ⟨nb,0,none⟩=some (.pointer (some ⟨b,0,none⟩))∧w'.cell? ⟨ib,0,none⟩=some (.string (xIn d))∧w'.cell? ⟨b,5,none⟩=some (.slice (some ⟨g,0,none⟩) (L+1) cap)∧w'.cell? ⟨g,0,none⟩=some (.pointer (some ⟨k0,0,none⟩))∧Hid (Add w w')) (by kernel_rfl) ⟨hnb,hib,c5,g0,(za HA).drew⟩ (fun hHeld=>?_)
 refine tka 0 7 rfl ?_
 refine tka 1 8 rfl ?_
 refine tka 2 9 rfl ?_
 refine tka 3 10 rfl ?_
 refine tka 4 11 rfl ?_
 refine tka 5 12 rfl ?_
 refine tka 6 13 rfl ?_
 refine tka 7 14 rfl ?_
 simp only[sA,sB,sC]
 refine tka 8 15 rfl ?_
 simp only[sA,sB,sC]
 refine wpAnyH_ready (rs:=[9]) (by kernel_rfl) (by simp) ?_
 refine AllReadyH.cons (o:={ dst:=some 16,op:=_,type:=_,pos:=_,after:=_,guard:=_ }) rfl (fun K hK=>?_) AllReadyH.nil
 refine zm (by kernel_rfl) (by simp[Act.eval,ent0,go_sem]) ((za HC0 _ (za hHeld.2.2.2.2)).mono ?_)
 rintro e wc0 ⟨rfl,hac0⟩
 refine hK.out _ _ ⟨hac0.cellk hHeld.1,hac0.cellk hHeld.2.1,hac0.cellk hHeld.2.2.1,hac0.cellk hHeld.2.2.2.1,(za hHeld.2.2.2.2).tr hac0⟩ (fun hHeld9=>?_)
 clear hK K
 simp only[Act.put,sA,sB,sC]
 refine tka 10 6 rfl ?_
 simp only[sA,sB,sC]
 refine wpAnyH_done (by kernel_rfl) ?_ _
 go_wp2_with fail
 go_ret
 exact⟨rfl,(za hHeld9.2.2.2.2)⟩
theorem azv {R:Wr} {f D:Nat} (hW:DB R f D) {w:World} (hg:RE w) {b d:Nat} {t:Tree} (hn:Nd w b t) (hx:Wx t) (hm:t.many≤f+1) (hd:d+1≤D) {nb ib:Nat} (hnb:w.cell? ⟨nb,0,none⟩=some (.pointer (some ⟨b,0,none⟩))) (hib:w.cell? ⟨ib,0,none⟩=some (.string (xIn d))) {c c2:Tree} {l:List Tree} {n:Nat} (ek:t.kids=c :: c2 :: l) (hv:vK c2) :
  Calls prog 137 #[.int .i64 1,.int .i64 n,.pointer (some ⟨nb,0,none⟩),.pointer (some ⟨ib,0,none⟩)] w fun e w'=>e=.returned (.string (zu R d (n+1) c2))∧Add w w':=by
 obtain⟨g,cap,k0,hcap,hmx,c5,g0,n0,hrest⟩:=hn.one ek
 obtain⟨k1,g1,n1⟩:=hrest 0 _ rfl
 have oc:=adc hx hm (k:=c2) (by rw[ek];simp) hv
 obtain⟨L,hL⟩:∃L,l.length=L:=⟨_,rfl⟩
 have c5:w.cell? ⟨b,5,none⟩=some (.slice (some ⟨g,0,none⟩) (L+2) cap):=by rw[←hL];exact c5
 have hL0:(1:Int)<(L:Int)+2:=by omega
 have HC0:=zb fun (w1:World) (ha:Add w w1)=>hW.value w1 k1 c2 d n (hg.add ha) (n1.add ha) oc.1 oc.2.1 oc.2.2 (Nat.le_of_succ_le hd)
 have HA:=zb (Add.refl w)
 clear hn hx hm hd hg hW n0 n1 hrest oc hL g0
 generalize zu R d (n+1) c2=X0 at *
 go_enter func137,ntmps137
 go_wp2_with fail
 have ent0:∀w:World,Sem.run prog (callFunc 82 #[.pointer (some ⟨k1,0,none⟩),.int .i64 n,.string (xIn d)]) w=.ok (.enter 82 #[.pointer (some ⟨k1,0,none⟩),.int .i64 n,.string (xIn d)]) w:=fun _=>by kernel_rfl
 refine wp_region_held_drew (S:=fun w'=>w'.cell? ⟨nb,0,none⟩=some (.pointer (some ⟨b,0,none⟩))∧w'.cell? ⟨ib,0,none⟩=some (.string (xIn d))∧w'.cell? ⟨b,5,none⟩=some (.slice (some ⟨g,0,none⟩) (L+2) cap)∧w'.cell? ⟨g,1,none⟩=some (.pointer (some ⟨k1,0,none⟩))∧Hid (Add w w')) (by kernel_rfl) ⟨hnb,hib,c5,g1,(za HA).drew⟩ (fun hHeld=>?_)
 refine tka 0 7 rfl ?_
 refine tka 1 8 rfl ?_
 refine tka 2 9 rfl ?_
 refine tka 3 10 rfl ?_
 refine tka 4 11 rfl ?_
 refine tka 5 12 rfl ?_
 refine tka 6 13 rfl ?_
 refine tka 7 14 rfl ?_
 simp only[sA,sB,sC]
 refine tka 8 15 rfl ?_
 simp only[sA,sB,sC]
 refine wpAnyH_ready (rs:=[9]) (by kernel_rfl) (by simp) ?_
 refine AllReadyH.cons (o:={ dst:=some 16,op:=_,type:=_,pos:=_,after:=_,guard:=_ }) rfl (fun K hK=>?_) AllReadyH.nil
 refine zm (by kernel_rfl) (by simp[Act.eval,ent0,go_sem]) ((za HC0 _ (za hHeld.2.2.2.2)).mono ?_)
 rintro e wc0 ⟨rfl,hac0⟩
 refine hK.out _ _ ⟨hac0.cellk hHeld.1,hac0.cellk hHeld.2.1,hac0.cellk hHeld.2.2.1,hac0.cellk hHeld.2.2.2.1,(za hHeld.2.2.2.2).tr hac0⟩ (fun hHeld9=>?_)
 clear hK K
 simp only[Act.put,sA,sB,sC]
 refine tka 10 6 rfl ?_
 simp only[sA,sB,sC]
 refine wpAnyH_done (by kernel_rfl) ?_ _
 go_wp2_with fail
 go_ret
 exact⟨rfl,(za hHeld9.2.2.2.2)⟩
theorem as8 {R:Wr} {f D:Nat} (hW:DB R f D) {w:World} (hg:RE w) {b d:Nat} {t:Tree} (hn:Nd w b t) (hx:Wx t) (hm:t.many≤f+1) (hd:d+1≤D) {nb ib:Nat} (hnb:w.cell? ⟨nb,0,none⟩=some (.pointer (some ⟨b,0,none⟩))) (hib:w.cell? ⟨ib,0,none⟩=some (.string (xIn d))) {c:Tree} {l:List Tree} (ek:t.kids=c :: l) (hvl:∀k∈l,vK k) :
  Calls prog 138 #[.int .i64 1,.pointer (some ⟨nb,0,none⟩),.pointer (some ⟨ib,0,none⟩)] w fun e w'=>e=.returned (.string (ab2 R d l))∧Add w w':=by
 obtain⟨g,cap,k0,hcap,hmx,c5,g0,n0,hrest⟩:=hn.one ek
 obtain⟨L,hL⟩:∃L,l.length=L:=⟨_,rfl⟩
 have c5:w.cell? ⟨b,5,none⟩=some (.slice (some ⟨g,0,none⟩) (L+1) cap):=by rw[←hL];exact c5
 have hll:∀k∈l,k∈t.kids∧vK k:=fun k hk'=>⟨by rw[ek];exact List.mem_cons_of_mem _ hk',hvl k hk'⟩
 have hml:aay l≤1200:=by have:=ac5 hW.f hm;rw[ek,zx] at this;omega
 rw[hL] at hcap
 have hcap2:(1:Int)≤(L:Int)+1:=by omega
 have hmx2:cap≤9223372036854775807:=by unfold maxLen at hmx;omega
 have rt:=aj7 hL hcap hmx hrest
 have HC0:=zb fun (w1:World) (ha:Add w w1)=>agr hW (hg.add ha) (d:=d) (rt.add ha) (agi hx hm hll) hml (Nat.le_of_succ_le hd)
 have hz0:=ag5 hW hx hm hd hll hml
 have HX:=zb (show ab2 R d l=((⟨#[40]⟩++abo R d l)++⟨#[41]⟩) from rfl)
 have HA:=zb (Add.refl w)
 clear hn hx hm hd hg hW n0 hrest rt hll hml hL g0 hmx hvl
 generalize abo R d l=X0 at *
 go_enter func138,ntmps138
 go_wp2_with fail
 have ent0:∀w:World,Sem.run prog (callFunc 86 #[.slice (if cap=1 then some (⟨g,0,none⟩:Addr) else some ⟨g,1,none⟩) L (cap-1),.string (xIn d)]) w=.ok (.enter 86 #[.slice (if cap=1 then some (⟨g,0,none⟩:Addr) else some ⟨g,1,none⟩) L (cap-1),.string (xIn d)]) w:=fun _=>by kernel_rfl
 refine wp_region_held_drew (S:=fun w'=>w'.cell? ⟨nb,0,none⟩=some (.pointer (some ⟨b,0,none⟩))∧w'.cell? ⟨ib,0,none⟩=some (.string (xIn d))∧w'.cell? ⟨b,5,none⟩=some (.slice (some ⟨g,0,none⟩) (L+1) cap)∧Hid (Add w w')) (by kernel_rfl) ⟨hnb,hib,c5,(za HA).drew⟩ (fun hHeld=>?_)
 refine tka 0 5 rfl ?_
 refine tka 1 6 rfl ?_
 refine tka 2 7 rfl ?_
 refine tka 3 8 rfl ?_
 refine tka 4 9 rfl ?_
 refine tka 5 10 rfl ?_
 refine tka 6 11 rfl ?_
 simp only[sA,sB,sC]
 refine wpAnyH_ready (rs:=[7]) (by kernel_rfl) (by simp) ?_
 refine AllReadyH.cons (o:={ dst:=some 12,op:=_,type:=_,pos:=_,after:=_,guard:=_ }) rfl (fun K hK=>?_) AllReadyH.nil
 refine zm (by kernel_rfl) (by simp[Act.eval,ent0,go_sem]) ((za HC0 _ (za hHeld.2.2.2)).mono ?_)
 rintro e wc0 ⟨rfl,hac0⟩
 refine hK.out _ _ ⟨hac0.cellk hHeld.1,hac0.cellk hHeld.2.1,hac0.cellk hHeld.2.2.1,(za hHeld.2.2.2).tr hac0⟩ (fun hHeld7=>?_)
 clear hK K
 simp only[Act.put,sA,sB,sC]
 refine tkb 8 13 rfl ?_
 refine tkb 9 14 rfl ?_
 refine tka 10 4 rfl ?_
 simp only[sA,sB,sC]
 refine wpAnyH_done (by kernel_rfl) ?_ _
 generalize (if cap=1 then some (⟨g,0,none⟩:Addr) else some ⟨g,1,none⟩)=gb
 go_wp2_with fail
 go_ret
 rw[za HX]
 exact⟨rfl,(za hHeld7.2.2.2)⟩
theorem avt {R:Wr} {f D:Nat} (hW:DB R f D) {w:World} (hg:RE w) {b d:Nat} {t:Tree} (hn:Nd w b t) (hx:Wx t) (hm:t.many≤f+1) (hd:d+1≤D) {nb ib:Nat} (hnb:w.cell? ⟨nb,0,none⟩=some (.pointer (some ⟨b,0,none⟩))) (hib:w.cell? ⟨ib,0,none⟩=some (.string (xIn d))) (hvl:∀k∈t.kids,vK k) :
  Calls prog 138 #[.int .i64 0,.pointer (some ⟨nb,0,none⟩),.pointer (some ⟨ib,0,none⟩)] w fun e w'=>e=.returned (.string (ab2 R d t.kids))∧Add w w':=by
 obtain⟨ksx,hvx⟩:=hn.view
 obtain⟨g,cap,e5,hcap,hmx,_⟩:=hvx.kids
 obtain⟨L,hL⟩:∃L,t.kids.length=L:=⟨_,rfl⟩
 have c5:=hvx.c5
 have rt:=hvx.kids.x
 rw[e5,hL] at c5 rt
 rw[hL] at hcap
 have hll:∀k∈t.kids,k∈t.kids∧vK k:=fun k hk'=>⟨hk',hvl k hk'⟩
 have hml:=ac5 hW.f hm
 have hmx2:cap≤9223372036854775807:=by unfold maxLen at hmx;omega
 have hL0:(0:Int)≤(L:Int):=by omega
 have HC0:=zb fun (w1:World) (ha:Add w w1)=>agr hW (hg.add ha) (d:=d) (rt.add ha) (agi hx hm hll) hml (Nat.le_of_succ_le hd)
 have hz0:=ag5 hW hx hm hd hll hml
 have HX:=zb (show ab2 R d t.kids=((⟨#[40]⟩++abo R d t.kids)++⟨#[41]⟩) from rfl)
 have HA:=zb (Add.refl w)
 clear hn hx hm hd hg hW rt hll hml hL e5 hvx hmx hvl
 generalize abo R d t.kids=X0 at *
 go_enter func138,ntmps138
 go_wp2_with fail
 have ent0:∀w:World,Sem.run prog (callFunc 86 #[.slice g L cap,.string (xIn d)]) w=.ok (.enter 86 #[.slice g L cap,.string (xIn d)]) w:=fun _=>by kernel_rfl
 refine wp_region_held_drew (S:=fun w'=>w'.cell? ⟨nb,0,none⟩=some (.pointer (some ⟨b,0,none⟩))∧w'.cell? ⟨ib,0,none⟩=some (.string (xIn d))∧w'.cell? ⟨b,5,none⟩=some (.slice g L cap)∧Hid (Add w w')) (by kernel_rfl) ⟨hnb,hib,c5,(za HA).drew⟩ (fun hHeld=>?_)
 refine tka 0 5 rfl ?_
 refine tka 1 6 rfl ?_
 refine tka 2 7 rfl ?_
 refine tka 3 8 rfl ?_
 refine tka 4 9 rfl ?_
 refine tka 5 10 rfl ?_
 refine tka 6 11 rfl ?_
 simp only[sA,sB,sC]
 refine wpAnyH_ready (rs:=[7]) (by kernel_rfl) (by simp) ?_
 refine AllReadyH.cons (o:={ dst:=some 12,op:=_,type:=_,pos:=_,after:=_,guard:=_ }) rfl (fun K hK=>?_) AllReadyH.nil
 refine zm (by kernel_rfl) (by simp[Act.eval,ent0,go_sem]) ((za HC0 _ (za hHeld.2.2.2)).mono ?_)
 rintro e wc0 ⟨rfl,hac0⟩
 refine hK.out _ _ ⟨hac0.cellk hHeld.1,hac0.cellk hHeld.2.1,hac0.cellk hHeld.2.2.1,(za hHeld.2.2.2).tr hac0⟩ (fun hHeld7=>?_)
 clear hK K
 simp only[Act.put,sA,sB,sC]
 refine tkb 8 13 rfl ?_
 refine tkb 9 14 rfl ?_
 refine tka 10 4 rfl ?_
 simp only[sA,sB,sC]
 refine wpAnyH_done (by kernel_rfl) ?_ _
 go_wp2_with fail
 go_ret
 rw[za HX]
 exact⟨rfl,(za hHeld7.2.2.2)⟩
theorem bcy {R:Wr} {f D:Nat} (hW:DB R f D) {w:World} (hg:RE w) {b d:Nat} {t:Tree} (hn:Nd w b t) (hx:Wx t) (hm:t.many≤f+1) (hd:d+1≤D) {l:Nat} (hk:t.kind=20) (hl:l<8) :
  Calls prog 82 #[.pointer (some ⟨b,0,none⟩),.int .i64 l,.string (xIn d)] w fun e w'=>e=.returned (.string (zy R d t))∧Add w w':=by
 obtain⟨ksx,hvx⟩:=hn.view
 have c0:=hvx.c0
 rw[hk] at c0
 have hvt:vK t:=by unfold vK;omega
 have hl2:¬(7:Int)<(l:Int):=by omega
 have HR:=zb fun (w1:World) (ha:Add w w1)=>show Calls prog 136 #[.pointer (some ⟨b,0,none⟩)] w1 fun e w'=>e=.returned (.int .i64 7)∧w'=w1 by
  have:=acm (hn.add ha) hvt
  rw[hk,show aap 20=8 from rfl] at this
  exact this
 have ha0:=qC w b (xIn d)
 have q0:=qA w b (xIn d)
 have q1:=qB w b (xIn d)
 have c0':=ha0.cellk c0
 have HX:=zb (show zy R d t=⟨#[116,114,117,101]⟩ by unfold zy;rw[hk,if_neg (show ¬(aac 20).2=true by decide),if_neg (by decide),if_neg (by decide),if_neg (by decide),if_neg (by decide),if_neg (by decide),if_neg (by decide)];unfold aag;rw[hk,if_neg (by decide),if_neg (by decide),if_pos rfl])
 have HA:=zb ha0
 clear hn hx hm hd hg hW ha0 hvx c0 hvt hl hk  
 go_enter func82,ntmps82
 go_wp2_with fail
 generalize ((w.alloc (.cells #[.pointer (some ⟨b,0,none⟩)] 22)).alloc (.cells #[.string (xIn d)] 9))=wb at *
 refine(za HR _ (za HA)).mono ?_
 rintro e w1 ⟨rfl,hw1⟩
 obtain rfl:=hw1.symm
 clear HR
 go_wp2_with fail
 go_ret
 rw[za HX]
 exact⟨rfl,za HA⟩
theorem azw {R:Wr} {f D:Nat} (hW:DB R f D) {w:World} (hg:RE w) {b d:Nat} {t:Tree} (hn:Nd w b t) (hx:Wx t) (hm:t.many≤f+1) (hd:d+1≤D) {l:Nat} (hk:t.kind=21) (hl:l<8) :
  Calls prog 82 #[.pointer (some ⟨b,0,none⟩),.int .i64 l,.string (xIn d)] w fun e w'=>e=.returned (.string (zy R d t))∧Add w w':=by
 obtain⟨ksx,hvx⟩:=hn.view
 have c0:=hvx.c0
 rw[hk] at c0
 have hvt:vK t:=by unfold vK;omega
 have hl2:¬(7:Int)<(l:Int):=by omega
 have HR:=zb fun (w1:World) (ha:Add w w1)=>show Calls prog 136 #[.pointer (some ⟨b,0,none⟩)] w1 fun e w'=>e=.returned (.int .i64 7)∧w'=w1 by
  have:=acm (hn.add ha) hvt
  rw[hk,show aap 21=8 from rfl] at this
  exact this
 have ha0:=qC w b (xIn d)
 have q0:=qA w b (xIn d)
 have q1:=qB w b (xIn d)
 have c0':=ha0.cellk c0
 have HX:=zb (show zy R d t=⟨#[102,97,108,115,101]⟩ by unfold zy;rw[hk,if_neg (show ¬(aac 21).2=true by decide),if_neg (by decide),if_neg (by decide),if_neg (by decide),if_neg (by decide),if_neg (by decide),if_neg (by decide)];unfold aag;rw[hk,if_neg (by decide),if_neg (by decide),if_neg (by decide),if_pos rfl])
 have HA:=zb ha0
 clear hn hx hm hd hg hW ha0 hvx c0 hvt hl hk  
 go_enter func82,ntmps82
 go_wp2_with fail
 generalize ((w.alloc (.cells #[.pointer (some ⟨b,0,none⟩)] 22)).alloc (.cells #[.string (xIn d)] 9))=wb at *
 refine(za HR _ (za HA)).mono ?_
 rintro e w1 ⟨rfl,hw1⟩
 obtain rfl:=hw1.symm
 clear HR
 go_wp2_with fail
 go_ret
 rw[za HX]
 exact⟨rfl,za HA⟩
theorem rvl_nil {R:Wr} {f D:Nat} (hW:DB R f D) {w:World} (hg:RE w) {b d:Nat} {t:Tree} (hn:Nd w b t) (hx:Wx t) (hm:t.many≤f+1) (hd:d+1≤D) {l:Nat} (hk:t.kind=22) (hl:l<8) :
  Calls prog 82 #[.pointer (some ⟨b,0,none⟩),.int .i64 l,.string (xIn d)] w fun e w'=>e=.returned (.string (zy R d t))∧Add w w':=by
 obtain⟨ksx,hvx⟩:=hn.view
 have c0:=hvx.c0
 rw[hk] at c0
 have hvt:vK t:=by unfold vK;omega
 have hl2:¬(7:Int)<(l:Int):=by omega
 have HR:=zb fun (w1:World) (ha:Add w w1)=>show Calls prog 136 #[.pointer (some ⟨b,0,none⟩)] w1 fun e w'=>e=.returned (.int .i64 7)∧w'=w1 by
  have:=acm (hn.add ha) hvt
  rw[hk,show aap 22=8 from rfl] at this
  exact this
 have ha0:=qC w b (xIn d)
 have q0:=qA w b (xIn d)
 have q1:=qB w b (xIn d)
 have c0':=ha0.cellk c0
 have HX:=zb (show zy R d t=⟨#[110,105,108]⟩ by unfold zy;rw[hk,if_neg (show ¬(aac 22).2=true by decide),if_neg (by decide),if_neg (by decide),if_neg (by decide),if_neg (by decide),if_neg (by decide),if_neg (by decide)];unfold aag;rw[hk,if_neg (by decide),if_neg (by decide),if_neg (by decide),if_neg (by decide),if_pos rfl])
 have HA:=zb ha0
 clear hn hx hm hd hg hW ha0 hvx c0 hvt hl hk  
 go_enter func82,ntmps82
 go_wp2_with fail
 generalize ((w.alloc (.cells #[.pointer (some ⟨b,0,none⟩)] 22)).alloc (.cells #[.string (xIn d)] 9))=wb at *
 refine(za HR _ (za HA)).mono ?_
 rintro e w1 ⟨rfl,hw1⟩
 obtain rfl:=hw1.symm
 clear HR
 go_wp2_with fail
 go_ret
 rw[za HX]
 exact⟨rfl,za HA⟩
theorem bcz {R:Wr} {f D:Nat} (hW:DB R f D) {w:World} (hg:RE w) {b d:Nat} {t:Tree} (hn:Nd w b t) (hx:Wx t) (hm:t.many≤f+1) (hd:d+1≤D) {l:Nat} (hk:t.kind=23) (hl:l<8) :
  Calls prog 82 #[.pointer (some ⟨b,0,none⟩),.int .i64 l,.string (xIn d)] w fun e w'=>e=.returned (.string (zy R d t))∧Add w w':=by
 obtain⟨ksx,hvx⟩:=hn.view
 have c0:=hvx.c0
 rw[hk] at c0
 have hvt:vK t:=by unfold vK;omega
 have hl2:¬(7:Int)<(l:Int):=by omega
 have HR:=zb fun (w1:World) (ha:Add w w1)=>show Calls prog 136 #[.pointer (some ⟨b,0,none⟩)] w1 fun e w'=>e=.returned (.int .i64 7)∧w'=w1 by
  have:=acm (hn.add ha) hvt
  rw[hk,show aap 23=8 from rfl] at this
  exact this
 have ha0:=qC w b (xIn d)
 have q0:=qA w b (xIn d)
 have q1:=qB w b (xIn d)
 have c0':=ha0.cellk c0
 have HX:=zb (show zy R d t=⟨#[116,104,105,115]⟩ by unfold zy;rw[hk,if_neg (show ¬(aac 23).2=true by decide),if_neg (by decide),if_neg (by decide),if_neg (by decide),if_neg (by decide),if_neg (by decide),if_neg (by decide)];unfold aag;rw[hk,if_neg (by decide),if_neg (by decide),if_neg (by decide),if_neg (by decide),if_neg (by decide),if_pos rfl])
 have HA:=zb ha0
 clear hn hx hm hd hg hW ha0 hvx c0 hvt hl hk  
 go_enter func82,ntmps82
 go_wp2_with fail
 generalize ((w.alloc (.cells #[.pointer (some ⟨b,0,none⟩)] 22)).alloc (.cells #[.string (xIn d)] 9))=wb at *
 refine(za HR _ (za HA)).mono ?_
 rintro e w1 ⟨rfl,hw1⟩
 obtain rfl:=hw1.symm
 clear HR
 go_wp2_with fail
 go_ret
 rw[za HX]
 exact⟨rfl,za HA⟩
theorem azx {R:Wr} {f D:Nat} (hW:DB R f D) {w:World} (hg:RE w) {b d:Nat} {t:Tree} (hn:Nd w b t) (hx:Wx t) (hm:t.many≤f+1) (hd:d+1≤D) {l:Nat} (hk:t.kind=29) (hl:l<8) :
  Calls prog 82 #[.pointer (some ⟨b,0,none⟩),.int .i64 l,.string (xIn d)] w fun e w'=>e=.returned (.string (zy R d t))∧Add w w':=by
 obtain⟨ksx,hvx⟩:=hn.view
 have c0:=hvx.c0
 rw[hk] at c0
 have hvt:vK t:=by unfold vK;omega
 have hl2:¬(7:Int)<(l:Int):=by omega
 have HR:=zb fun (w1:World) (ha:Add w w1)=>show Calls prog 136 #[.pointer (some ⟨b,0,none⟩)] w1 fun e w'=>e=.returned (.int .i64 7)∧w'=w1 by
  have:=acm (hn.add ha) hvt
  rw[hk,show aap 29=8 from rfl] at this
  exact this
 have ha0:=qC w b (xIn d)
 have q0:=qA w b (xIn d)
 have q1:=qB w b (xIn d)
 have c0':=ha0.cellk c0
 have HX:=zb (show zy R d t=⟨#[105,110,112,117,116,40,41]⟩ by unfold zy;rw[hk,if_neg (show ¬(aac 29).2=true by decide),if_neg (by decide),if_neg (by decide),if_neg (by decide),if_neg (by decide),if_neg (by decide),if_neg (by decide)];unfold aag;rw[hk,if_neg (by decide),if_neg (by decide),if_neg (by decide),if_neg (by decide),if_neg (by decide),if_neg (by decide),if_neg (by decide),if_neg (by decide),if_neg (by decide),if_neg (by decide),if_pos rfl])
 have HA:=zb ha0
 clear hn hx hm hd hg hW ha0 hvx c0 hvt hl hk  
 go_enter func82,ntmps82
 go_wp2_with fail
 generalize ((w.alloc (.cells #[.pointer (some ⟨b,0,none⟩)] 22)).alloc (.cells #[.string (xIn d)] 9))=wb at *
 refine(za HR _ (za HA)).mono ?_
 rintro e w1 ⟨rfl,hw1⟩
 obtain rfl:=hw1.symm
 clear HR
 go_wp2_with fail
 go_ret
 rw[za HX]
 exact⟨rfl,za HA⟩
theorem bc0 {R:Wr} {f D:Nat} (hW:DB R f D) {w:World} (hg:RE w) {b d:Nat} {t:Tree} (hn:Nd w b t) (hx:Wx t) (hm:t.many≤f+1) (hd:d+1≤D) {l:Nat} (hk:t.kind=24) (hl:l<8) :
  Calls prog 82 #[.pointer (some ⟨b,0,none⟩),.int .i64 l,.string (xIn d)] w fun e w'=>e=.returned (.string (zy R d t))∧Add w w':=by
 obtain⟨ksx,hvx⟩:=hn.view
 have c0:=hvx.c0
 rw[hk] at c0
 have hvt:vK t:=by unfold vK;omega
 have hl2:¬(7:Int)<(l:Int):=by omega
 have HR:=zb fun (w1:World) (ha:Add w w1)=>show Calls prog 136 #[.pointer (some ⟨b,0,none⟩)] w1 fun e w'=>e=.returned (.int .i64 7)∧w'=w1 by
  have:=acm (hn.add ha) hvt
  rw[hk,show aap 24=8 from rfl] at this
  exact this
 have c1:=hvx.c1
 have ht:=(abf hx.here.1).1
 have ha0:=qC w b (xIn d)
 have q0:=qA w b (xIn d)
 have q1:=qB w b (xIn d)
 have c0':=ha0.cellk c0
 have c1':=ha0.cellk c1
 have HX:=zb (show zy R d t=t.text by unfold zy;rw[hk,if_neg (show ¬(aac 24).2=true by decide),if_neg (by decide),if_neg (by decide),if_neg (by decide),if_neg (by decide),if_neg (by decide),if_neg (by decide)];unfold aag;rw[hk,if_neg (by decide),if_neg (by decide),if_neg (by decide),if_neg (by decide),if_neg (by decide),if_neg (by decide),if_neg (by decide),if_neg (by decide),if_neg (by decide),if_neg (by decide),if_neg (by decide),if_neg (by decide)])
 have HA:=zb ha0
 clear hn hx hm hd hg hW ha0 hvx c0 hvt hl hk  c1
 go_enter func82,ntmps82
 go_wp2_with fail
 generalize ((w.alloc (.cells #[.pointer (some ⟨b,0,none⟩)] 22)).alloc (.cells #[.string (xIn d)] 9))=wb at *
 refine(za HR _ (za HA)).mono ?_
 rintro e w1 ⟨rfl,hw1⟩
 obtain rfl:=hw1.symm
 clear HR
 go_wp2_with fail
 go_ret
 rw[za HX]
 exact⟨rfl,za HA⟩
theorem rvl_int {R:Wr} {f D:Nat} (hW:DB R f D) {w:World} (hg:RE w) {b d:Nat} {t:Tree} (hn:Nd w b t) (hx:Wx t) (hm:t.many≤f+1) (hd:d+1≤D) {l:Nat} (hk:t.kind=18) (hl:l<8) :
  Calls prog 82 #[.pointer (some ⟨b,0,none⟩),.int .i64 l,.string (xIn d)] w fun e w'=>e=.returned (.string (zy R d t))∧Add w w':=by
 obtain⟨ksx,hvx⟩:=hn.view
 have c0:=hvx.c0
 rw[hk] at c0
 have hvt:vK t:=by unfold vK;omega
 have hl2:¬(7:Int)<(l:Int):=by omega
 have HR:=zb fun (w1:World) (ha:Add w w1)=>show Calls prog 136 #[.pointer (some ⟨b,0,none⟩)] w1 fun e w'=>e=.returned (.int .i64 7)∧w'=w1 by
  have:=acm (hn.add ha) hvt
  rw[hk,show aap 18=8 from rfl] at this
  exact this
 have c3:=hvx.c3
 have hwr:IntKind.u64.wrap t.n=((t.n % 18446744073709551616).toNat:Int):=by
  rw[IntKind.wrap_u64]
  have:=Int.emod_nonneg t.n (show (18446744073709551616:Int)≠0 by decide)
  omega
 have hlt:(t.n % 18446744073709551616).toNat<18446744073709551616:=by
  have:=Int.emod_lt_of_pos t.n (show (0:Int)<18446744073709551616 by decide)
  have:=Int.emod_nonneg t.n (show (18446744073709551616:Int)≠0 by decide)
  omega
 have HC0:=zb fun (w1:World) (ha:Add w w1)=>show Calls prog 139 #[.int .u64 (IntKind.u64.wrap t.n),.int .i64 10] w1 fun e w'=>e=.returned (.string (aj3 t.n))∧Add w1 w' by rw[hwr];exact ano _ hlt w1 (hg.add ha).1
 have ha0:=qC w b (xIn d)
 have q0:=qA w b (xIn d)
 have q1:=qB w b (xIn d)
 have c0':=ha0.cellk c0
 have c3':=ha0.cellk c3
 have HX:=zb (show zy R d t=aj3 t.n by unfold zy;rw[hk,if_neg (show ¬(aac 18).2=true by decide),if_neg (by decide),if_neg (by decide),if_neg (by decide),if_neg (by decide),if_neg (by decide),if_neg (by decide)];unfold aag;rw[hk,if_pos rfl])
 have HA:=zb ha0
 clear hn hx hm hd hg hW ha0 hvx c0 hvt hl hk hwr hlt c3
 generalize aj3 t.n=X0 at *
 go_enter func82,ntmps82
 go_wp2_with fail
 generalize ((w.alloc (.cells #[.pointer (some ⟨b,0,none⟩)] 22)).alloc (.cells #[.string (xIn d)] 9))=wb at *
 refine(za HR _ (za HA)).mono ?_
 rintro e w1 ⟨rfl,hw1⟩
 obtain rfl:=hw1.symm
 clear HR
 go_wp2_with fail
 refine(za HC0 _ (za HA) ).mono ?_
 rintro e wc0 ⟨rfl,hac0⟩
 have HAC0:=zb ((za HA).tr hac0)
 clear hac0
 go_wp2_with fail
 go_ret
 rw[za HX]
 exact⟨rfl,za HAC0⟩
theorem rvl_len {R:Wr} {f D:Nat} (hW:DB R f D) {w:World} (hg:RE w) {b d:Nat} {t:Tree} (hn:Nd w b t) (hx:Wx t) (hm:t.many≤f+1) (hd:d+1≤D) {l:Nat} (hk:t.kind=30) (hl:l<8) :
  Calls prog 82 #[.pointer (some ⟨b,0,none⟩),.int .i64 l,.string (xIn d)] w fun e w'=>e=.returned (.string (zy R d t))∧Add w w':=by
 obtain⟨ksx,hvx⟩:=hn.view
 have c0:=hvx.c0
 rw[hk] at c0
 have hvt:vK t:=by unfold vK;omega
 have hl2:¬(7:Int)<(l:Int):=by omega
 have HR:=zb fun (w1:World) (ha:Add w w1)=>show Calls prog 136 #[.pointer (some ⟨b,0,none⟩)] w1 fun e w'=>e=.returned (.int .i64 7)∧w'=w1 by
  have:=acm (hn.add ha) hvt
  rw[hk,show aap 30=8 from rfl] at this
  exact this
 obtain⟨c,ek,hv⟩:=(show ∃a,t.kids=[a]∧vK a by have:=hx.here.2;rw[hk] at this;exact this)
 have HC0:=zb fun (w1:World) (ha:Add w w1) (hq0:w1.cell? ⟨w.heap.size,0,none⟩=some (.pointer (some ⟨b,0,none⟩))) (hq1:w1.cell? ⟨w.heap.size+1,0,none⟩=some (.string (xIn d)))=>agl hW (hg.add ha) (d:=d) (n:=0) (hn.add ha) hx hm hd hq0 hq1 ek hv
 have hz0:=ad0 hW hx hm hd (k:=c) (by rw[ek];simp) hv 1
 have ha0:=qC w b (xIn d)
 have q0:=qA w b (xIn d)
 have q1:=qB w b (xIn d)
 have c0':=ha0.cellk c0
 have HX:=zb (show zy R d t=((⟨#[108,101,110,40]⟩++zu R d 1 c)++⟨#[41]⟩) by unfold zy;rw[hk,if_neg (show ¬(aac 30).2=true by decide),if_neg (by decide),if_neg (by decide),if_neg (by decide),if_neg (by decide),if_neg (by decide),if_neg (by decide)];unfold aag;rw[hk,if_neg (by decide),if_neg (by decide),if_neg (by decide),if_neg (by decide),if_neg (by decide),if_neg (by decide),if_neg (by decide),if_neg (by decide),if_neg (by decide),if_neg (by decide),if_neg (by decide),if_pos rfl,aa3 ek])
 have HA:=zb ha0
 clear hn hx hm hd hg hW ha0 hvx c0 hvt hl hk  
 generalize zu R d 1 c=X0 at *
 go_enter func82,ntmps82
 go_wp2_with fail
 generalize ((w.alloc (.cells #[.pointer (some ⟨b,0,none⟩)] 22)).alloc (.cells #[.string (xIn d)] 9))=wb at *
 refine(za HR _ (za HA)).mono ?_
 rintro e w1 ⟨rfl,hw1⟩
 obtain rfl:=hw1.symm
 clear HR
 go_wp2_with fail
 refine(za HC0 _ (za HA) q0 q1).mono ?_
 rintro e wc0 ⟨rfl,hac0⟩
 have HAC0:=zb ((za HA).tr hac0)
 clear hac0
 go_wp2_with fail
 go_ret
 rw[za HX]
 exact⟨rfl,za HAC0⟩
theorem rvl_neg {R:Wr} {f D:Nat} (hW:DB R f D) {w:World} (hg:RE w) {b d:Nat} {t:Tree} (hn:Nd w b t) (hx:Wx t) (hm:t.many≤f+1) (hd:d+1≤D) {l:Nat} (hk:t.kind=40) (hl:l<7) :
  Calls prog 82 #[.pointer (some ⟨b,0,none⟩),.int .i64 l,.string (xIn d)] w fun e w'=>e=.returned (.string (zy R d t))∧Add w w':=by
 obtain⟨ksx,hvx⟩:=hn.view
 have c0:=hvx.c0
 rw[hk] at c0
 have hvt:vK t:=by unfold vK;omega
 have hl2:¬(6:Int)<(l:Int):=by omega
 have HR:=zb fun (w1:World) (ha:Add w w1)=>show Calls prog 136 #[.pointer (some ⟨b,0,none⟩)] w1 fun e w'=>e=.returned (.int .i64 6)∧w'=w1 by
  have:=acm (hn.add ha) hvt
  rw[hk,show aap 40=7 from rfl] at this
  exact this
 obtain⟨c,ek,hv⟩:=(show ∃a,t.kids=[a]∧vK a by have:=hx.here.2;rw[hk] at this;exact this)
 have HC0:=zb fun (w1:World) (ha:Add w w1) (hq0:w1.cell? ⟨w.heap.size,0,none⟩=some (.pointer (some ⟨b,0,none⟩))) (hq1:w1.cell? ⟨w.heap.size+1,0,none⟩=some (.string (xIn d)))=>agl hW (hg.add ha) (d:=d) (n:=6) (hn.add ha) hx hm hd hq0 hq1 ek hv
 have hz0:=ad0 hW hx hm hd (k:=c) (by rw[ek];simp) hv 7
 have ha0:=qC w b (xIn d)
 have q0:=qA w b (xIn d)
 have q1:=qB w b (xIn d)
 have c0':=ha0.cellk c0
 have HX:=zb (show zy R d t=(⟨#[45]⟩++zu R d 7 c) by unfold zy;rw[hk,if_neg (show ¬(aac 40).2=true by decide),if_pos rfl,aa3 ek])
 have HA:=zb ha0
 clear hn hx hm hd hg hW ha0 hvx c0 hvt hl hk  
 generalize zu R d 7 c=X0 at *
 go_enter func82,ntmps82
 go_wp2_with fail
 generalize ((w.alloc (.cells #[.pointer (some ⟨b,0,none⟩)] 22)).alloc (.cells #[.string (xIn d)] 9))=wb at *
 refine(za HR _ (za HA)).mono ?_
 rintro e w1 ⟨rfl,hw1⟩
 obtain rfl:=hw1.symm
 clear HR
 go_wp2_with fail
 refine(za HC0 _ (za HA) q0 q1).mono ?_
 rintro e wc0 ⟨rfl,hac0⟩
 have HAC0:=zb ((za HA).tr hac0)
 clear hac0
 go_wp2_with fail
 go_ret
 rw[za HX]
 exact⟨rfl,za HAC0⟩
theorem rvl_not {R:Wr} {f D:Nat} (hW:DB R f D) {w:World} (hg:RE w) {b d:Nat} {t:Tree} (hn:Nd w b t) (hx:Wx t) (hm:t.many≤f+1) (hd:d+1≤D) {l:Nat} (hk:t.kind=41) (hl:l<7) :
  Calls prog 82 #[.pointer (some ⟨b,0,none⟩),.int .i64 l,.string (xIn d)] w fun e w'=>e=.returned (.string (zy R d t))∧Add w w':=by
 obtain⟨ksx,hvx⟩:=hn.view
 have c0:=hvx.c0
 rw[hk] at c0
 have hvt:vK t:=by unfold vK;omega
 have hl2:¬(6:Int)<(l:Int):=by omega
 have HR:=zb fun (w1:World) (ha:Add w w1)=>show Calls prog 136 #[.pointer (some ⟨b,0,none⟩)] w1 fun e w'=>e=.returned (.int .i64 6)∧w'=w1 by
  have:=acm (hn.add ha) hvt
  rw[hk,show aap 41=7 from rfl] at this
  exact this
 obtain⟨c,ek,hv⟩:=(show ∃a,t.kids=[a]∧vK a by have:=hx.here.2;rw[hk] at this;exact this)
 have HC0:=zb fun (w1:World) (ha:Add w w1) (hq0:w1.cell? ⟨w.heap.size,0,none⟩=some (.pointer (some ⟨b,0,none⟩))) (hq1:w1.cell? ⟨w.heap.size+1,0,none⟩=some (.string (xIn d)))=>agl hW (hg.add ha) (d:=d) (n:=6) (hn.add ha) hx hm hd hq0 hq1 ek hv
 have hz0:=ad0 hW hx hm hd (k:=c) (by rw[ek];simp) hv 7
 have ha0:=qC w b (xIn d)
 have q0:=qA w b (xIn d)
 have q1:=qB w b (xIn d)
 have c0':=ha0.cellk c0
 have HX:=zb (show zy R d t=(⟨#[33]⟩++zu R d 7 c) by unfold zy;rw[hk,if_neg (show ¬(aac 41).2=true by decide),if_neg (by decide),if_pos rfl,aa3 ek])
 have HA:=zb ha0
 clear hn hx hm hd hg hW ha0 hvx c0 hvt hl hk  
 generalize zu R d 7 c=X0 at *
 go_enter func82,ntmps82
 go_wp2_with fail
 generalize ((w.alloc (.cells #[.pointer (some ⟨b,0,none⟩)] 22)).alloc (.cells #[.string (xIn d)] 9))=wb at *
 refine(za HR _ (za HA)).mono ?_
 rintro e w1 ⟨rfl,hw1⟩
 obtain rfl:=hw1.symm
 clear HR
 go_wp2_with fail
 refine(za HC0 _ (za HA) q0 q1).mono ?_
 rintro e wc0 ⟨rfl,hac0⟩
 have HAC0:=zb ((za HA).tr hac0)
 clear hac0
 go_wp2_with fail
 go_ret
 rw[za HX]
 exact⟨rfl,za HAC0⟩
theorem bc1 {R:Wr} {f D:Nat} (hW:DB R f D) {w:World} (hg:RE w) {b d:Nat} {t:Tree} (hn:Nd w b t) (hx:Wx t) (hm:t.many≤f+1) (hd:d+1≤D) {l:Nat} (hk:t.kind=44) (hl:l<8) :
  Calls prog 82 #[.pointer (some ⟨b,0,none⟩),.int .i64 l,.string (xIn d)] w fun e w'=>e=.returned (.string (zy R d t))∧Add w w':=by
 obtain⟨ksx,hvx⟩:=hn.view
 have c0:=hvx.c0
 rw[hk] at c0
 have hvt:vK t:=by unfold vK;omega
 have hl2:¬(7:Int)<(l:Int):=by omega
 have HR:=zb fun (w1:World) (ha:Add w w1)=>show Calls prog 136 #[.pointer (some ⟨b,0,none⟩)] w1 fun e w'=>e=.returned (.int .i64 7)∧w'=w1 by
  have:=acm (hn.add ha) hvt
  rw[hk,show aap 44=8 from rfl] at this
  exact this
 obtain⟨c,c2,ek,hv,hv2⟩:=(show ∃a b,t.kids=[a,b]∧vK a∧vK b by have:=hx.here.2;rw[hk] at this;exact this)
 have HC0:=zb fun (w1:World) (ha:Add w w1) (hq0:w1.cell? ⟨w.heap.size,0,none⟩=some (.pointer (some ⟨b,0,none⟩))) (hq1:w1.cell? ⟨w.heap.size+1,0,none⟩=some (.string (xIn d)))=>agl hW (hg.add ha) (d:=d) (n:=7) (hn.add ha) hx hm hd hq0 hq1 ek hv
 have HC1:=zb fun (w1:World) (ha:Add w w1) (hq0:w1.cell? ⟨w.heap.size,0,none⟩=some (.pointer (some ⟨b,0,none⟩))) (hq1:w1.cell? ⟨w.heap.size+1,0,none⟩=some (.string (xIn d)))=>azv hW (hg.add ha) (d:=d) (n:=0) (hn.add ha) hx hm hd hq0 hq1 ek hv2
 have hz0:=ad0 hW hx hm hd (k:=c) (by rw[ek];simp) hv 8
 have hz1:=ad0 hW hx hm hd (k:=c2) (by rw[ek];simp) hv2 1
 have ha0:=qC w b (xIn d)
 have q0:=qA w b (xIn d)
 have q1:=qB w b (xIn d)
 have c0':=ha0.cellk c0
 have HX:=zb (show zy R d t=(((zu R d 8 c++⟨#[91]⟩)++zu R d 1 c2)++⟨#[93]⟩) by unfold zy;rw[hk,if_neg (show ¬(aac 44).2=true by decide),if_neg (by decide),if_neg (by decide),if_neg (by decide),if_neg (by decide),if_pos rfl,aa3 ek,aeu ek])
 have HA:=zb ha0
 clear hn hx hm hd hg hW ha0 hvx c0 hvt hl hk  
 generalize zu R d 8 c=X0 at *
 generalize zu R d 1 c2=X1 at *
 go_enter func82,ntmps82
 go_wp2_with fail
 generalize ((w.alloc (.cells #[.pointer (some ⟨b,0,none⟩)] 22)).alloc (.cells #[.string (xIn d)] 9))=wb at *
 refine(za HR _ (za HA)).mono ?_
 rintro e w1 ⟨rfl,hw1⟩
 obtain rfl:=hw1.symm
 clear HR
 go_wp2_with fail
 refine(za HC0 _ (za HA) q0 q1).mono ?_
 rintro e wc0 ⟨rfl,hac0⟩
 have HAC0:=zb ((za HA).tr hac0)
 go_wp2_with fail
 refine(za HC1 _ (za HAC0) (hac0.cellk q0) (hac0.cellk q1)).mono ?_
 rintro e wc1 ⟨rfl,hac1⟩
 have HAC1:=zb ((za HAC0).tr hac1)
 clear hac0 hac1
 go_wp2_with fail
 go_ret
 rw[za HX]
 exact⟨rfl,za HAC1⟩
end Go.Proofs.YtndgajlidckcdaaGreatDoor
