/- A part. -/
import Derived.Test.YtndgajlidckcdaaGreatDoorM16
open Go.Proofs.Tryz
namespace Go.Proofs.YtndgajlidckcdaaGreatDoor
open Go.RowKit
set_option linter.unusedVariables false
set_option linter.unusedSimpArgs false
set_option maxRecDepth 100000
set_option maxHeartbeats 8000000
def afv (l:List UInt8):List Value:=l.map fun b=>Value.int .u8 b.toNat
theorem ahy (a b:List UInt8):afv (a++b)=afv a++afv b:=List.map_append ..
def qP (s:ByteArray) (i:Nat):List UInt8:=[34]++(s.data.toList.take i).flatMap aii
theorem avp {s:ByteArray} {i:Nat} (h:i<s.size):qP s (i+1)=qP s i++aii (UInt8.ofNat (zo s i)):=by
 have h2:i<s.data.toList.length:=by rw[ajc];exact h
 unfold qP
 rw[List.take_succ_eq_append_getElem h2,List.flatMap_append,List.append_assoc]
 simp only[List.flatMap_cons,List.flatMap_nil,List.append_nil]
 rw[show s.data.toList[i]=UInt8.ofNat (zo s i) by rw[←aa0 h];exact(UInt8.ofNat_toNat).symm]
theorem azl (s:ByteArray) (i:Nat):(qP s i).length≤2*i+1:=by
 unfold qP
 have:∀l:List UInt8,(l.flatMap aii).length≤2*l.length:=by
  intro l
  induction l with
  | nil=>exact Nat.zero_le _
  | cons a l ih =>
   have h1:(aii a).length≤2:=by
    unfold aii
    split
    ·exact Nat.le_refl _
    ·split
     ·exact Nat.le_refl _
     ·exact Nat.le_succ 1
   rw[List.flatMap_cons,List.length_append,List.length_cons]
   omega
 have h1:=this (s.data.toList.take i)
 have h2:=List.length_take_le i s.data.toList
 rw[List.length_append,List.length_cons,List.length_nil]
 omega
theorem afq {w W w3:World} {v:Value} {e:TypeId} {size n:Nat} {xs:List Value} {o:Obj} (ha:Add w W) (hown:W.ownsRow w.heap.size e size v n xs) (hg:(W.alloc o).grownBy w3 v.ownBlock):Add w w3:=by
 have hrow:∀j,v.ownBlock=some j→w.heap.size≤j:=by
  intro j hj
  rcases hown.2 with ⟨rfl,_⟩ | ⟨g,cap,cur,rfl,h2,_⟩
  ·simp[Value.ownBlock] at hj
  ·simp only[Value.ownBlock,Option.some.injEq] at hj
   omega
 have hsz:=ha.size
 refine⟨hg.os.trans ha.os,hg.tape.trans ha.tape,hg.output.trans ha.output,by have:=hg.size;simp at this;omega,fun k hk=>?_⟩
 rw[hg.block k (by simp;omega) (fun e=>by have:=hrow k e.symm;omega),aam _ _ (by omega),ha.block k hk]
theorem azm {w:World} {base g cap:Nat} {l:List UInt8} (h:w.ownsRow base 5 1 (.slice (some ⟨g,0,none⟩) l.length cap) l.length (afv l)):(convert 136 9 (.slice (some ⟨g,0,none⟩) l.length cap)).run prog w=.ok (.string ⟨l.toArray⟩) w:=by
 rcases h.2 with ⟨h0,_⟩ | ⟨g',cap',cur,h0,hb,hg,h1,h2,h3,h4⟩
 ·cases h0
 ·cases h0
  refine run_convert_bytes_back (P:=prog) w 136 9 5 ⟨g,0,none⟩ cap l underlying136 underlying5 underlying9 (fun j hj=>?_)
  rw[Lib.add_plain]
  show w.cell? ⟨g,0+j,none⟩=_
  rw[Nat.zero_add,zd hg j]
  have q:(cur.toList.take (l.length*1))[j]?=some (.int .u8 l[j].toNat):=by rw[h4];unfold afv;rw[List.getElem?_map,List.getElem?_eq_getElem hj];rfl
  rw[List.getElem?_take_of_lt (by omega)] at q
  rw[←Array.getElem?_toList,q]
theorem aw3 (s:ByteArray) (hs:s.size≤300) (w:World):Calls prog 263 #[.string s] w fun e w'=>e=.returned (.string (ah2 s))∧Add w w':=by
 obtain⟨i0,hi0,hz0,hz1,hz2⟩:=info_parts ail
 have HQL:=zb (azl s)
 have HXS:=zb (show ah2 s=⟨(qP s s.size++[34]).toArray⟩ by unfold ah2 qP;rw[List.take_of_length_le (by rw[ajc];exact Nat.le_refl _)])
 go_enter func263,ntmps263
 go_wp2_with fail
 go_loopg [3,9] s.size (fun gg bv iv wr=>∃i:Nat,i≤s.size∧gg=s.size-i∧iv=.int .i64 i∧Hid (Add w wr)∧Hid (wr.ownsRow w.heap.size 5 1 bv (qP s i).length (afv (qP s i))))
 case atStart=>exact⟨0,Nat.zero_le _,rfl,rfl,(Add.refl w).alloc _,⟨rfl,Or.inr ⟨w.heap.size,1,_,rfl,Nat.le_refl _,aaq w _,Nat.le_refl _,by decide,rfl,rfl⟩⟩⟩
 case round =>
  obtain⟨i,hi,rfl,rfl,HA,HO⟩:=hrel
  have hql:=za HQL i
  by_cases hlt:i<s.size
  ·have hlt3:(i:Int)<(s.size:Int):=by omega
   have hb:=aa0 hlt
   have h256:=ait s i
   have hnx:=avp hlt
   by_cases h10:zo s i=10
   ·have o10:((s[i].toNat:Nat):Int)=10:=by rw[hb,h10];rfl
    rw[h10] at hnx
    have HQ:=zb (show qP s (i+1)=qP s i++[92,110] from hnx)
    have HOA:=zb ((za HO).alloc (.cells #[.int .u8 92,.int .u8 110] 5))
    clear hnx hb h10
    go_wp2_with (at_builtin;refine wpList_append_lies _ rfl _ _ _ rfl w.heap.size 5 i0 (.int .u8 0) 1 1 underlying136 hi0 hz0 hz1 hz2 rfl (by decide) _ (qP s i).length (afv (qP s i)) rfl (za HOA) ⟨wr.heap.size,0,none⟩ 2 2 [.int .u8 92,.int .u8 110] rfl rfl (World.news_of_block (aaq _ _)) ?a2 (by decide) ?a3 ?a4 ?a5 (wr.heap.size+1) ?a6 ?_)
    case a2=>first | rfl | (intro u hu;simp at hu;first | (subst hu;rfl) | (rcases hu with rfl | rfl <;> rfl))
    case a3=>unfold maxLen;omega
    case a4=>omega
    case a5=>have:=(za HA).size;simp;omega
    try case a6=>simp
    intro g2 cap2 w3 hown hgrow hat2 hlt2
    have HA3:=zb (afq (za HA) (za HO) hgrow)
    have HO3:Hid (w3.ownsRow w.heap.size 5 1 (.slice (some ⟨g2,0,none⟩) (qP s (i+1)).length cap2) (qP s (i+1)).length (afv (qP s (i+1)))):=by
     rw[za HQ,ahy,List.length_append]
     exact hown
    have hq1:=za HQL (i+1)
    have HLL:=zb (show (qP s i).length+2=(qP s (i+1)).length by rw[za HQ,List.length_append];rfl)
    clear hown hgrow hat2 hlt2 HOA
    rw[za HLL]
    go_wp2_with fail
    go_roundg (s.size-(i+1))
    case measure=>omega
    case rel=>exact⟨i+1,by omega,rfl,by go_num,HA3,HO3⟩
   ·by_cases h34:zo s i=34
    ·have o34:((s[i].toNat:Nat):Int)=34:=by rw[hb,h34];rfl
     rw[h34] at hnx
     have HQ:=zb (show qP s (i+1)=qP s i++[92,34] from hnx)
     have HOA:=zb ((za HO).alloc (.cells #[.int .u8 92,.int .u8 34] 5))
     clear hnx hb h34 h10
     go_wp2_with (at_builtin;refine wpList_append_lies _ rfl _ _ _ rfl w.heap.size 5 i0 (.int .u8 0) 1 1 underlying136 hi0 hz0 hz1 hz2 rfl (by decide) _ (qP s i).length (afv (qP s i)) rfl (za HOA) ⟨wr.heap.size,0,none⟩ 2 2 [.int .u8 92,.int .u8 34] rfl rfl (World.news_of_block (aaq _ _)) ?b2 (by decide) ?b3 ?b4 ?b5 (wr.heap.size+1) ?b6 ?_)
     case b2=>first | rfl | (intro u hu;simp at hu;first | (subst hu;rfl) | (rcases hu with rfl | rfl <;> rfl))
     case b3=>unfold maxLen;omega
     case b4=>omega
     case b5=>have:=(za HA).size;simp;omega
     try case b6=>simp
     intro g2 cap2 w3 hown hgrow hat2 hlt2
     have HA3:=zb (afq (za HA) (za HO) hgrow)
     have HO3:Hid (w3.ownsRow w.heap.size 5 1 (.slice (some ⟨g2,0,none⟩) (qP s (i+1)).length cap2) (qP s (i+1)).length (afv (qP s (i+1)))):=by
      rw[za HQ,ahy,List.length_append]
      exact hown
     have hq1:=za HQL (i+1)
     have HLL:=zb (show (qP s i).length+2=(qP s (i+1)).length by rw[za HQ,List.length_append];rfl)
     clear hown hgrow hat2 hlt2 HOA
     rw[za HLL]
     go_wp2_with fail
     go_roundg (s.size-(i+1))
     case measure=>omega
     case rel=>exact⟨i+1,by omega,rfl,by go_num,HA3,HO3⟩
    ·by_cases h92:zo s i=92
     ·have o92:((s[i].toNat:Nat):Int)=92:=by rw[hb,h92];rfl
      rw[h92] at hnx
      have HQ:=zb (show qP s (i+1)=qP s i++[92,92] from hnx)
      have HOA:=zb ((za HO).alloc (.cells #[.int .u8 92,.int .u8 92] 5))
      clear hnx hb h92 h34 h10
      go_wp2_with (at_builtin;refine wpList_append_lies _ rfl _ _ _ rfl w.heap.size 5 i0 (.int .u8 0) 1 1 underlying136 hi0 hz0 hz1 hz2 rfl (by decide) _ (qP s i).length (afv (qP s i)) rfl (za HOA) ⟨wr.heap.size,0,none⟩ 2 2 [.int .u8 92,.int .u8 92] rfl rfl (World.news_of_block (aaq _ _)) ?c2 (by decide) ?c3 ?c4 ?c5 (wr.heap.size+1) ?c6 ?_)
      case c2=>first | rfl | (intro u hu;simp at hu;first | (subst hu;rfl) | (rcases hu with rfl | rfl <;> rfl))
      case c3=>unfold maxLen;omega
      case c4=>omega
      case c5=>have:=(za HA).size;simp;omega
      try case c6=>simp
      intro g2 cap2 w3 hown hgrow hat2 hlt2
      have HA3:=zb (afq (za HA) (za HO) hgrow)
      have HO3:Hid (w3.ownsRow w.heap.size 5 1 (.slice (some ⟨g2,0,none⟩) (qP s (i+1)).length cap2) (qP s (i+1)).length (afv (qP s (i+1)))):=by
       rw[za HQ,ahy,List.length_append]
       exact hown
      have hq1:=za HQL (i+1)
      have HLL:=zb (show (qP s i).length+2=(qP s (i+1)).length by rw[za HQ,List.length_append];rfl)
      clear hown hgrow hat2 hlt2 HOA
      rw[za HLL]
      go_wp2_with fail
      go_roundg (s.size-(i+1))
      case measure=>omega
      case rel=>exact⟨i+1,by omega,rfl,by go_num,HA3,HO3⟩
     ·have o10:¬((s[i].toNat:Nat):Int)=10:=by rw[hb];omega
      have o34:¬((s[i].toNat:Nat):Int)=34:=by rw[hb];omega
      have o92:¬((s[i].toNat:Nat):Int)=92:=by rw[hb];omega
      have m10:(((s[i].toNat:Nat):Int)==10)=false:=by simpa using o10
      have m34:(((s[i].toNat:Nat):Int)==34)=false:=by simpa using o34
      have m92:(((s[i].toNat:Nat):Int)==92)=false:=by simpa using o92
      have HQ:Hid (qP s (i+1)=qP s i++[s[i]]):=by
       show qP s (i+1)=_
       have e1:UInt8.ofNat (zo s i)=s[i]:=by rw[←hb];exact UInt8.ofNat_toNat
       have n10:¬s[i]=10:=fun e=>h10 (by rw[←hb,e];rfl)
       have n34:¬(s[i]=34∨s[i]=92):=fun e=>by
        rcases e with e | e
        ·exact h34 (by rw[←hb,e];rfl)
        ·exact h92 (by rw[←hb,e];rfl)
       rw[hnx,e1]
       unfold aii
       rw[if_neg n10,if_neg n34]
      have HOA:=zb ((za HO).alloc (.cells #[.int .u8 (s[i].toNat:Int)] 5))
      clear hnx hb h92 h34 h10
      go_wp2_with (at_builtin;refine wpList_append_lies _ rfl _ _ _ rfl w.heap.size 5 i0 (.int .u8 0) 1 1 underlying136 hi0 hz0 hz1 hz2 rfl (by decide) _ (qP s i).length (afv (qP s i)) rfl (za HOA) ⟨wr.heap.size,0,none⟩ 1 1 [.int .u8 (s[i].toNat:Int)] rfl rfl (World.news_of_block (aaq _ _)) ?d2 (by decide) ?d3 ?d4 ?d5 (wr.heap.size+1) ?d6 ?_)
      case d2=>first | rfl | (intro u hu;simp at hu;first | (subst hu;rfl) | (rcases hu with rfl | rfl <;> rfl))
      case d3=>unfold maxLen;omega
      case d4=>omega
      case d5=>have:=(za HA).size;simp;omega
      try case d6=>simp
      intro g2 cap2 w3 hown hgrow hat2 hlt2
      have HA3:=zb (afq (za HA) (za HO) hgrow)
      have HO3:Hid (w3.ownsRow w.heap.size 5 1 (.slice (some ⟨g2,0,none⟩) (qP s (i+1)).length cap2) (qP s (i+1)).length (afv (qP s (i+1)))):=by
       rw[za HQ,ahy,List.length_append]
       exact hown
      have hq1:=za HQL (i+1)
      have HLL:=zb (show (qP s i).length+1=(qP s (i+1)).length by rw[za HQ,List.length_append];rfl)
      clear hown hgrow hat2 hlt2 HOA
      rw[za HLL]
      go_wp2_with fail
      go_roundg (s.size-(i+1))
      case measure=>omega
      case rel=>exact⟨i+1,by omega,rfl,by go_num,HA3,HO3⟩
  ·obtain rfl:i=s.size:=by omega
   have hlt3:¬((s.size:Int)<(s.size:Int)):=by omega
   have HOA:=zb ((za HO).alloc (.cells #[.int .u8 34] 5))
   go_wp2_with (at_builtin;refine wpList_append_lies _ rfl _ _ _ rfl w.heap.size 5 i0 (.int .u8 0) 1 1 underlying136 hi0 hz0 hz1 hz2 rfl (by decide) _ (qP s s.size).length (afv (qP s s.size)) rfl (za HOA) ⟨wr.heap.size,0,none⟩ 1 1 [.int .u8 34] rfl rfl (World.news_of_block (aaq _ _)) ?e2 (by decide) ?e3 ?e4 ?e5 (wr.heap.size+1) ?e6 ?_)
   case e2=>first | rfl | (intro u hu;simp at hu;first | (subst hu;rfl) | (rcases hu with rfl | rfl <;> rfl))
   case e3=>unfold maxLen;omega
   case e4=>omega
   case e5=>have:=(za HA).size;simp;omega
   try case e6=>simp
   intro g2 cap2 w3 hown hgrow hat2 hlt2
   have HA3:=zb (afq (za HA) (za HO) hgrow)
   have hcv:(convert 136 9 (.slice (some ⟨g2,0,none⟩) ((qP s s.size).length+1) cap2)).run prog w3=.ok (.string (ah2 s)) w3:=by
    rw[za HXS]
    have:=azm (l:=qP s s.size++[34]) (base:=w.heap.size) (g:=g2) (cap:=cap2) (w:=w3) (by rw[ahy,List.length_append];exact hown)
    rw[List.length_append] at this
    exact this
   clear hown hgrow hat2 hlt2 HOA
   go_wp2_with fail
   go_ret
   exact⟨rfl,za HA3⟩
end Go.Proofs.YtndgajlidckcdaaGreatDoor
