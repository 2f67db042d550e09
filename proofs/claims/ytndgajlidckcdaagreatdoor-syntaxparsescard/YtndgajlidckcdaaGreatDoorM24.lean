/- A part. -/
import Derived.Test.YtndgajlidckcdaaGreatDoorM23
open Go.Proofs.Tryz
namespace Go.Proofs.YtndgajlidckcdaaGreatDoor
open Go.RowKit
set_option linter.unusedVariables false
set_option linter.unusedSimpArgs false
set_option maxRecDepth 100000
set_option maxHeartbeats 8000000
theorem az0:(⟨#[32,123,10]⟩:ByteArray)=⟨#[32]⟩++⟨#[123,10]⟩:=rfl
theorem bc6:(⟨#[125,10]⟩:ByteArray)=⟨#[125]⟩++⟨#[10]⟩:=rfl
theorem acs (R:Wr) (d:Nat) (h:ByteArray) (l:List Tree):ab8 R d h l=(xIn d++((h++⟨#[32]⟩)++aby R d l))++⟨#[10]⟩:=by
 unfold ab8 aby
 rw[az0,bc6]
 simp only[ByteArray.append_assoc]
theorem cut_out (a x:ByteArray) (c:UInt8):((a++x)++⟨#[c]⟩).extract a.size (((a++x)++⟨#[c]⟩).size-1)=x:=by
 apply ahz
 have e:((a++x)++(⟨#[c]⟩:ByteArray)).size-1=a.size+x.size:=by
  simp only[ByteArray.size_append,bsz,List.size_toArray,List.length_cons,List.length_nil]
  omega
 rw[e,ByteArray.data_extract,ByteArray.data_append,ByteArray.data_append,Array.toList_extract,Array.toList_append,Array.toList_append,List.extract_eq_take_drop]
 have h1:a.data.toList.length=a.size:=ajc a
 have h2:x.data.toList.length=x.size:=ajc x
 rw[List.append_assoc,List.drop_left' h1,show a.size+x.size-a.size=x.size by omega,List.take_left' h2]
theorem axe {R:Wr} {f D:Nat} (hW:DB R f D) {w:World} (hg:RE w) {b d:Nat} {t:Tree} (hn:Nd w b t) (hx:Wx t) (hm:t.many≤f+1) (hd:d+1≤D) {l:Nat} (hk:t.kind=28) (hl:l<8) :
  Calls prog 82 #[.pointer (some ⟨b,0,none⟩),.int .i64 l,.string (xIn d)] w fun e w'=>e=.returned (.string (zy R d t))∧Add w w':=by
 obtain⟨ksx,hvx⟩:=hn.view
 have c0:=hvx.c0
 rw[hk] at c0
 have hvt:vK t:=by unfold vK;omega
 have hl2:¬(7:Int)<(l:Int):=by omega
 have HR:=zb fun (w1:World) (ha:Add w w1)=>show Calls prog 136 #[.pointer (some ⟨b,0,none⟩)] w1 fun e w'=>e=.returned (.int .i64 7)∧w'=w1 by
  have:=acm (hn.add ha) hvt
  rw[hk,show aap 28=8 from rfl] at this
  exact this
 obtain⟨p,bl,ek,h6,h7⟩:=(show ∃p b,t.kids=[p,b]∧p.kind=6∧b.kind=7 by have:=hx.here.2;rw[hk] at this;exact this)
 obtain⟨g,cap,k0,hcap,hmx,c5,g0,n0,hrest⟩:=hn.one ek
 obtain⟨k1,g1,n1⟩:=hrest 0 _ rfl
 obtain⟨vp,p5,rp⟩:=n0.kids
 obtain⟨vb,b5,rb⟩:=n1.kids
 have hz0:=dz_pa hW hx hm hd (p:=p) (by rw[ek];simp) h6
 have HC0:=zb fun (w1:World) (ha:Add w w1)=>agr hW (hg.add ha) (d:=d) (rp.add ha) (aku hx hm (by rw[ek];simp) h6) (aeb hW.f hm (by rw[ek];simp)) (Nat.le_of_succ_le hd)
 have hhd:((⟨#[102,110,40]⟩++abo R d p.kids)++⟨#[41]⟩).size≤100000000:=by
  simp only[ByteArray.size_append,bsz,List.size_toArray,List.length_cons,List.length_nil]
  omega
 have HC1:=zb fun (w1:World) (ha:Add w w1)=>adt hW (hg.add ha) (d:=d) hhd (rb.add ha) (af9 hx hm (by rw[ek];simp) h7) (aeb hW.f hm (by rw[ek];simp)) hd
 have HXB:=zb (acs R d ((⟨#[102,110,40]⟩++abo R d p.kids)++⟨#[41]⟩) bl.kids)
 have hzi:(xIn d).size≤6000:=by rw[aeh];have:=hW.D;omega
 have hzb:=an0 hW hx hm hd (p:=bl) (by rw[ek];simp) h7
 have hzy:(ab8 R d ((⟨#[102,110,40]⟩++abo R d p.kids)++⟨#[41]⟩) bl.kids).size=(xIn d).size+(((⟨#[102,110,40]⟩++abo R d p.kids)++⟨#[41]⟩)++⟨#[32]⟩++aby R d bl.kids).size+1:=by
  rw[za HXB]
  simp only[ByteArray.size_append,bsz,List.size_toArray,List.length_cons,List.length_nil]
 have HCUT:Hid ((ab8 R d ((⟨#[102,110,40]⟩++abo R d p.kids)++⟨#[41]⟩) bl.kids).extract (xIn d).size ((ab8 R d ((⟨#[102,110,40]⟩++abo R d p.kids)++⟨#[41]⟩) bl.kids).size-1)=(⟨#[102,110]⟩++afo R d t)):=by
  show ByteArray.extract _ _ _=_
  rw[za HXB,cut_out]
  unfold afo
  rw[aa3 ek,aeu ek,show (⟨#[102,110,40]⟩:ByteArray)=⟨#[102,110]⟩++⟨#[40]⟩ from rfl,show (⟨#[41,32]⟩:ByteArray)=⟨#[41]⟩++⟨#[32]⟩ from rfl]
  simp only[ByteArray.append_assoc]
 have hzt:((((⟨#[102,110,40]⟩++abo R d p.kids)++⟨#[41]⟩)++⟨#[32]⟩++aby R d bl.kids).size)≤100000000:=by
  simp only[ByteArray.size_append,bsz,List.size_toArray,List.length_cons,List.length_nil]
  omega
 clear hhd
 have ha0:=qC w b (xIn d)
 have q0:=qA w b (xIn d)
 have q1:=qB w b (xIn d)
 have c0':=ha0.cellk c0
 have c5':=ha0.cellk c5
 have g0':=ha0.cellk g0
 have g1':=ha0.cellk g1
 have p5':=ha0.cellk p5
 have b5':=ha0.cellk b5
 have HX:=zb (show zy R d t=(⟨#[102,110]⟩++afo R d t) by unfold zy;rw[hk,if_neg (show ¬(aac 28).2=true by decide),if_neg (by decide),if_neg (by decide),if_neg (by decide),if_neg (by decide),if_neg (by decide),if_neg (by decide)];unfold aag;rw[hk,if_neg (by decide),if_neg (by decide),if_neg (by decide),if_neg (by decide),if_neg (by decide),if_neg (by decide),if_neg (by decide),if_neg (by decide),if_neg (by decide),if_pos rfl])
 have HA:=zb ha0
 clear hn hx hm hd hg hW ha0 hvx c0 hvt hl hk n0 n1 rp rb hrest h6 h7 HXB c5 g0 g1 p5 b5
 generalize (((⟨#[102,110,40]⟩++abo R d p.kids)++⟨#[41]⟩)++⟨#[32]⟩++aby R d bl.kids).size=Z0 at *
 generalize ab8 R d ((⟨#[102,110,40]⟩++abo R d p.kids)++⟨#[41]⟩) bl.kids=Y0 at *
 generalize abo R d p.kids=X0 at *
 go_enter func82,ntmps82
 go_wp2_with fail
 generalize ((w.alloc (.cells #[.pointer (some ⟨b,0,none⟩)] 22)).alloc (.cells #[.string (xIn d)] 9))=wb at *
 refine(za HR _ (za HA)).mono ?_
 rintro e w1 ⟨rfl,hw1⟩
 obtain rfl:=hw1.symm
 clear HR
 go_wp2_with fail
 have ent0:∀w:World,Sem.run prog (callFunc 86 #[vp,.string (xIn d)]) w=.ok (.enter 86 #[vp,.string (xIn d)]) w:=fun _=>by kernel_rfl
 have ent1:∀w:World,Sem.run prog (callFunc 85 #[.string ((⟨#[102,110,40]⟩++X0)++⟨#[41]⟩),vb,.string (xIn d)]) w=.ok (.enter 85 #[.string ((⟨#[102,110,40]⟩++X0)++⟨#[41]⟩),vb,.string (xIn d)]) w:=fun _=>by kernel_rfl
 refine wp_region_held_drew (S:=fun w'=>w'.cell? ⟨w.heap.size,0,none⟩=some (.pointer (some ⟨b,0,none⟩))∧w'.cell? ⟨w.heap.size+1,0,none⟩=some (.string (xIn d))∧w'.cell? ⟨b,5,none⟩=some (.slice (some ⟨g,0,none⟩) 2 cap)∧w'.cell? ⟨g,0,none⟩=some (.pointer (some ⟨k0,0,none⟩))∧w'.cell? ⟨g,1,none⟩=some (.pointer (some ⟨k1,0,none⟩))∧w'.cell? ⟨k0,5,none⟩=some (vp)∧w'.cell? ⟨k1,5,none⟩=some (vb)∧Hid (Add w w')) (by kernel_rfl) ⟨q0,q1,c5',g0',g1',p5',b5',(za HA).drew⟩ (fun hHeld=>?_)
 refine tka 0 126 rfl ?_
 refine tka 1 127 rfl ?_
 refine tka 2 128 rfl ?_
 refine tka 3 129 rfl ?_
 refine tka 4 130 rfl ?_
 refine tka 5 131 rfl ?_
 refine tka 6 132 rfl ?_
 refine tka 7 133 rfl ?_
 simp only[sA,sB,sC]
 refine tka 8 134 rfl ?_
 refine tka 9 135 rfl ?_
 refine tka 13 139 rfl ?_
 refine tka 14 140 rfl ?_
 refine tka 15 141 rfl ?_
 refine tka 16 142 rfl ?_
 refine tka 17 143 rfl ?_
 refine tka 18 144 rfl ?_
 simp only[sA,sB,sC]
 refine tka 19 145 rfl ?_
 refine tka 20 146 rfl ?_
 refine tka 21 147 rfl ?_
 refine tka 22 148 rfl ?_
 simp only[sA,sB,sC]
 refine wpAnyH_ready (rs:=[10]) (by kernel_rfl) (by simp) ?_
 refine AllReadyH.cons (o:={ dst:=some 136,op:=_,type:=_,pos:=_,after:=_,guard:=_ }) rfl (fun K hK=>?_) AllReadyH.nil
 refine zm (by kernel_rfl) (by simp[Act.eval,ent0,go_sem]) ((za HC0 _ (za hHeld.2.2.2.2.2.2.2)).mono ?_)
 rintro e wc0 ⟨rfl,hac0⟩
 refine hK.out _ _ ⟨hac0.cellk hHeld.1,hac0.cellk hHeld.2.1,hac0.cellk hHeld.2.2.1,hac0.cellk hHeld.2.2.2.1,hac0.cellk hHeld.2.2.2.2.1,hac0.cellk hHeld.2.2.2.2.2.1,hac0.cellk hHeld.2.2.2.2.2.2.1,(za hHeld.2.2.2.2.2.2.2).tr hac0⟩ (fun hHeld10=>?_)
 clear hK K
 simp only[Act.put,sA,sB,sC]
 refine tkb 11 137 rfl ?_
 refine tkb 12 138 rfl ?_
 simp only[sA,sB,sC]
 refine wpAnyH_ready (rs:=[23]) (by kernel_rfl) (by simp) ?_
 refine AllReadyH.cons (o:={ dst:=some 149,op:=_,type:=_,pos:=_,after:=_,guard:=_ }) rfl (fun K hK=>?_) AllReadyH.nil
 refine zm (by kernel_rfl) (by simp[Act.eval,ent1,go_sem]) ((za HC1 _ (za hHeld10.2.2.2.2.2.2.2)).mono ?_)
 rintro e wc1 ⟨rfl,hac1⟩
 refine hK.out _ _ ⟨hac1.cellk hHeld10.1,hac1.cellk hHeld10.2.1,hac1.cellk hHeld10.2.2.1,hac1.cellk hHeld10.2.2.2.1,hac1.cellk hHeld10.2.2.2.2.1,hac1.cellk hHeld10.2.2.2.2.2.1,hac1.cellk hHeld10.2.2.2.2.2.2.1,(za hHeld10.2.2.2.2.2.2.2).tr hac1⟩ (fun hHeld23=>?_)
 clear hK K
 simp only[Act.put,sA,sB,sC]
 refine tka 24 12 rfl ?_
 simp only[sA,sB,sC]
 refine wpAnyH_done (by kernel_rfl) ?_ _
 have HAL:=zb (za hHeld23.2.2.2.2.2.2.2)
 have y1:=hHeld23.2.1
 clear hHeld hHeld10 hHeld23 hac0 hac1 q0 q1 c5' g0' g1' p5' b5' c0'
 have e1:((xIn d).size:Int)≤(Y0.size:Int)-1:=by omega
 have e2:(Y0.size:Int)-1≤(Y0.size:Int):=by omega
 have e3:((Y0.size:Int)-1).toNat=Y0.size-1:=by omega
 have e4:IntKind.i64.wrap ((Y0.size:Int)-1)=(Y0.size:Int)-1:=by rw[IntKind.wrap_i64];omega
 go_wp2_with fail
 go_ret
 rw[za HX,←za HCUT,show Y0.size-1=(xIn d).size+Z0 by omega]
 exact⟨rfl,za HAL⟩
theorem aq5 {s:ByteArray} {i:Nat} {e:ByteArray} (h:qP s (i+1)=qP s i++e.data.toList):(⟨(qP s i).toArray⟩:ByteArray)++e=⟨(qP s (i+1)).toArray⟩:=by
 apply ahz
 rw[ByteArray.data_append,Array.toList_append,h]
theorem rvl_str {R:Wr} {f D:Nat} (hW:DB R f D) {w:World} (hg:RE w) {b d:Nat} {t:Tree} (hn:Nd w b t) (hx:Wx t) (hm:t.many≤f+1) (hd:d+1≤D) {l:Nat} (hk:t.kind=19) (hl:l<8) :
  Calls prog 82 #[.pointer (some ⟨b,0,none⟩),.int .i64 l,.string (xIn d)] w fun e w'=>e=.returned (.string (zy R d t))∧Add w w':=by
 obtain⟨ksx,hvx⟩:=hn.view
 have c0:=hvx.c0
 rw[hk] at c0
 have hvt:vK t:=by unfold vK;omega
 have hl2:¬(7:Int)<(l:Int):=by omega
 have HR:=zb fun (w1:World) (ha:Add w w1)=>show Calls prog 136 #[.pointer (some ⟨b,0,none⟩)] w1 fun e w'=>e=.returned (.int .i64 7)∧w'=w1 by
  have:=acm (hn.add ha) hvt
  rw[hk,show aap 19=8 from rfl] at this
  exact this
 have c1:=hvx.c1
 have ht:=(abf hx.here.1).1
 have hz0:t.text.size≤300:=ht
 have ha0:=qC w b (xIn d)
 have q0:=qA w b (xIn d)
 have q1:=qB w b (xIn d)
 have c0':=ha0.cellk c0
 have c1':=ha0.cellk c1
 have HX:=zb (show zy R d t=ah2 t.text by unfold zy;rw[hk,if_neg (show ¬(aac 19).2=true by decide),if_neg (by decide),if_neg (by decide),if_neg (by decide),if_neg (by decide),if_neg (by decide),if_neg (by decide)];unfold aag;rw[hk,if_neg (by decide),if_pos rfl])
 have HA:=zb ha0
 clear hn hx hm hd hg hW ha0 hvx c0 hvt hl hk  c1
 go_enter func82,ntmps82
 go_wp2_with fail
 generalize ((w.alloc (.cells #[.pointer (some ⟨b,0,none⟩)] 22)).alloc (.cells #[.string (xIn d)] 9))=wb at *
 refine(za HR _ (za HA)).mono ?_
 rintro e w1 ⟨rfl,hw1⟩
 obtain rfl:=hw1.symm
 clear HR
 have HQL:=zb (azl t.text)
 have HXS:=zb (show ah2 t.text=(⟨(qP t.text t.text.size).toArray⟩:ByteArray)++⟨#[34]⟩ by unfold ah2 qP;apply ahz;rw[List.take_of_length_le (by rw[ajc];exact Nat.le_refl _),ByteArray.data_append,Array.toList_append])
 have hcv34:∀w:World,(convert 21 9 (.int .i32 34)).run prog w=.ok (.string ⟨#[34]⟩) w:=fun w=>by kernel_rfl
 have hcv92:∀w:World,(convert 21 9 (.int .i32 92)).run prog w=.ok (.string ⟨#[92]⟩) w:=fun w=>by kernel_rfl
 go_wp2_with fail
 go_loopg [9,44] t.text.size (fun gg sv iv wr=>∃i:Nat,i≤t.text.size∧gg=t.text.size-i∧iv=.int .i64 i∧wr=wb∧sv=.string ⟨(qP t.text i).toArray⟩)
 case atStart=>exact⟨0,Nat.zero_le _,rfl,rfl,rfl,rfl⟩
 case round =>
  obtain⟨i,hi,rfl,rfl,rfl,rfl⟩:=hrel
  have hql:=za HQL i
  have hqs:(⟨(qP t.text i).toArray⟩:ByteArray).size≤2*i+1:=by rw[ahc];exact hql
  by_cases hlt:i<t.text.size
  ·have hlt3:(i:Int)<(t.text.size:Int):=by omega
   have hb:=aa0 hlt
   have h256:=ait t.text i
   have hnx:=avp hlt
   by_cases h10:zo t.text i=10
   ·have o10:((t.text[i].toNat:Nat):Int)=10:=by rw[hb,h10];rfl
    rw[h10] at hnx
    clear hb h10
    have HQ:=zb (aq5 (s:=t.text) (i:=i) (e:=⟨#[92,110]⟩) hnx)
    clear hnx
    go_wp2_with fail
    go_roundg (t.text.size-(i+1))
    case measure=>omega
    case rel=>exact⟨i+1,by omega,rfl,by go_num,rfl,by rw[←za HQ] <;> rfl⟩
   ·by_cases h34:zo t.text i=34
    ·have o34:((t.text[i].toNat:Nat):Int)=34:=by rw[hb,h34];rfl
     rw[h34] at hnx
     clear hb h34 h10
     have HQ:=zb (aq5 (s:=t.text) (i:=i) (e:=⟨#[92,34]⟩) hnx)
     clear hnx
     go_wp2_with fail
     go_roundg (t.text.size-(i+1))
     case measure=>omega
     case rel=>exact⟨i+1,by omega,rfl,by go_num,rfl,by rw[←za HQ] <;> rfl⟩
    ·by_cases h92:zo t.text i=92
     ·have o92:((t.text[i].toNat:Nat):Int)=92:=by rw[hb,h92];rfl
      rw[h92] at hnx
      clear hb h92 h34 h10
      have HQ:=zb (aq5 (s:=t.text) (i:=i) (e:=⟨#[92,92]⟩) hnx)
      clear hnx
      go_wp2_with fail
      go_roundg (t.text.size-(i+1))
      case measure=>omega
      case rel=>exact⟨i+1,by omega,rfl,by go_num,rfl,by rw[←za HQ] <;> rfl⟩
     ·have o10:¬((t.text[i].toNat:Nat):Int)=10:=by rw[hb];omega
      have o34:¬((t.text[i].toNat:Nat):Int)=34:=by rw[hb];omega
      have o92:¬((t.text[i].toNat:Nat):Int)=92:=by rw[hb];omega
      have m10:(((t.text[i].toNat:Nat):Int)==10)=false:=by simpa using o10
      have m34:(((t.text[i].toNat:Nat):Int)==34)=false:=by simpa using o34
      have m92:(((t.text[i].toNat:Nat):Int)==92)=false:=by simpa using o92
      have hnx:qP t.text (i+1)=qP t.text i++(t.text.extract i (i+1)).data.toList:=by
       rw[hnx,avs hlt]
       congr 1
       have n10:¬UInt8.ofNat (zo t.text i)=10:=fun e=>h10 (by have:=congrArg UInt8.toNat e;rw[UInt8.toNat_ofNat'] at this;have e10:(10:UInt8).toNat=10:=rfl;rw[e10] at this;omega)
       have n34:¬(UInt8.ofNat (zo t.text i)=34∨UInt8.ofNat (zo t.text i)=92):=fun e=>by
        rcases e with e | e
        ·exact h34 (by have:=congrArg UInt8.toNat e;rw[UInt8.toNat_ofNat'] at this;have e10:(34:UInt8).toNat=34:=rfl;rw[e10] at this;omega)
        ·exact h92 (by have:=congrArg UInt8.toNat e;rw[UInt8.toNat_ofNat'] at this;have e10:(92:UInt8).toNat=92:=rfl;rw[e10] at this;omega)
       unfold aii
       rw[if_neg n10,if_neg n34]
      have hx1:(t.text.extract i (i+1)).size=1:=by rw[ByteArray.size_extract];omega
      have hp3:(i:Int)≤(i:Int)+1:=by omega
      have hp4:(i:Int)+1≤(t.text.size:Int):=by omega
      clear hb h92 h34 h10
      have HQ:=zb (aq5 (s:=t.text) (i:=i) (e:=t.text.extract i (i+1)) hnx)
      clear hnx
      go_wp2_with fail
      go_roundg (t.text.size-(i+1))
      case measure=>omega
      case rel=>exact⟨i+1,by omega,rfl,by go_num,rfl,by rw[←za HQ] <;> rfl⟩
  ·obtain rfl:i=t.text.size:=by omega
   have hlt3:¬((t.text.size:Int)<(t.text.size:Int)):=by omega
   go_wp2_with fail
   go_ret
   rw[za HX,za HXS]
   exact⟨rfl,za HA⟩
theorem ap4 {R:Wr} {f D:Nat} (hW:DB R f D) {w:World} (hg:RE w) {b d:Nat} {t:Tree} (hn:Nd w b t) (hx:Wx t) (hm:t.many≤f+1) (hd:d+1≤D) {l:Nat} (hv:vK t) (hl:l<aap t.kind) :
  Calls prog 82 #[.pointer (some ⟨b,0,none⟩),.int .i64 l,.string (xIn d)] w fun e w'=>e=.returned (.string (zy R d t))∧Add w w':=by
 obtain⟨h1,h2⟩:=hv
 by_cases hp:31≤t.kind∧t.kind≤39
 ·exact bc5 hW hg hn hx hm hd hp.1 hp.2 hl
 rcases(by omega:t.kind=18∨t.kind=19∨t.kind=20∨t.kind=21∨t.kind=22∨t.kind=23∨t.kind=24∨t.kind=25∨t.kind=26∨t.kind=27∨t.kind=28∨t.kind=29∨t.kind=30∨t.kind=40∨t.kind=41∨t.kind=42∨t.kind=43∨t.kind=44∨t.kind=45) with h | h | h | h | h | h | h | h | h | h | h | h | h | h | h | h | h | h | h
 ·exact rvl_int hW hg hn hx hm hd h (by rw[h] at hl;exact hl)
 ·exact rvl_str hW hg hn hx hm hd h (by rw[h] at hl;exact hl)
 ·exact bcy hW hg hn hx hm hd h (by rw[h] at hl;exact hl)
 ·exact azw hW hg hn hx hm hd h (by rw[h] at hl;exact hl)
 ·exact rvl_nil hW hg hn hx hm hd h (by rw[h] at hl;exact hl)
 ·exact bcz hW hg hn hx hm hd h (by rw[h] at hl;exact hl)
 ·exact bc0 hW hg hn hx hm hd h (by rw[h] at hl;exact hl)
 ·exact rvl_new hW hg hn hx hm hd h (by rw[h] at hl;exact hl)
 ·exact azy hW hg hn hx hm hd h (by rw[h] at hl;exact hl)
 ·exact bc2 hW hg hn hx hm hd h (by rw[h] at hl;exact hl)
 ·exact axe hW hg hn hx hm hd h (by rw[h] at hl;exact hl)
 ·exact azx hW hg hn hx hm hd h (by rw[h] at hl;exact hl)
 ·exact rvl_len hW hg hn hx hm hd h (by rw[h] at hl;exact hl)
 ·exact rvl_neg hW hg hn hx hm hd h (by rw[h] at hl;exact hl)
 ·exact rvl_not hW hg hn hx hm hd h (by rw[h] at hl;exact hl)
 ·exact rvl_get hW hg hn hx hm hd h (by rw[h] at hl;exact hl)
 ·exact bc3 hW hg hn hx hm hd h (by rw[h] at hl;exact hl)
 ·exact bc1 hW hg hn hx hm hd h (by rw[h] at hl;exact hl)
 ·by_cases h42:(kid t 0).kind=42
  ·exact as9 hW hg hn hx hm hd h (by rw[h] at hl;exact hl) h42
  ·exact ao6 hW hg hn hx hm hd h (by rw[h] at hl;exact hl) h42
theorem bc7 {R:Wr} {f D:Nat} (hW:DB R f D) {w:World} (hg:RE w) {b d:Nat} {t:Tree} (hn:Nd w b t) (hx:Wx t) (hm:t.many≤f+1) (hd:d+1≤D) {l:Nat} (hv:vK t) (hz:(zy R d t).size≤100000000) :
  Calls prog 82 #[.pointer (some ⟨b,0,none⟩),.int .i64 l,.string (xIn d)] w fun e w'=>e=.returned (.string (zu ⟨zy R,aad R⟩ d (l+1) t))∧Add w w':=by
 by_cases hl:l<aap t.kind
 ·have e:zu ⟨zy R,aad R⟩ d (l+1) t=zy R d t:=if_neg (by omega)
  rw[e]
  exact ap4 hW hg hn hx hm hd hv hl
 ·have hs:1≤aap t.kind:=by
   have:∀k,k<46→1≤aap k:=by decide
   exact this t.kind (by unfold vK at hv;omega)
  have HX:=zb (show zu ⟨zy R,aad R⟩ d (l+1) t=((⟨#[40]⟩++zy R d t)++⟨#[41]⟩) from if_pos (by omega))
  have HC0:=zb fun (w1:World) (ha:Add w w1)=>ap4 hW (hg.add ha) (l:=0) (hn.add ha) hx hm hd hv (by omega)
  obtain⟨s1,hs1⟩:∃s1,aap t.kind=s1+1:=⟨aap t.kind-1,by omega⟩
  have HR:=zb fun (w1:World) (ha:Add w w1)=>show Calls prog 136 #[.pointer (some ⟨b,0,none⟩)] w1 fun e w'=>e=.returned (.int .i64 s1)∧w'=w1 by
   have:=acm (hn.add ha) hv
   rw[hs1,show ((s1+1:Nat):Int)-1=(s1:Int) by omega] at this
   exact this
  have hl2:(s1:Int)<(l:Int):=by omega
  have ha0:=qC w b (xIn d)
  have q0:=qA w b (xIn d)
  have q1:=qB w b (xIn d)
  have HA:=zb ha0
  clear hn hx hm hd hg hW ha0 hv hl hs hs1
  generalize zy R d t=X0 at *
  go_enter func82,ntmps82
  go_wp2_with fail
  generalize ((w.alloc (.cells #[.pointer (some ⟨b,0,none⟩)] 22)).alloc (.cells #[.string (xIn d)] 9))=wb at *
  refine(za HR _ (za HA)).mono ?_
  rintro e w1 ⟨rfl,hw1⟩
  obtain rfl:=hw1.symm
  clear HR
  go_wp2_with fail
  refine(za HC0 _ (za HA)).mono ?_
  rintro e wc0 ⟨rfl,hac0⟩
  have HAC0:=zb ((za HA).tr hac0)
  clear hac0
  go_wp2_with fail
  go_ret
  rw[za HX]
  exact⟨rfl,za HAC0⟩
theorem ahn {R:Wr} {f D:Nat} (hW:DB R f D) {w:World} (hg:RE w) {b d:Nat} {t:Tree} (hn:Nd w b t) (hx:Wx t) (hm:t.many≤f+1) (hd:d+1≤D) {nb ib:Nat} (hnb:w.cell? ⟨nb,0,none⟩=some (.pointer (some ⟨b,0,none⟩))) (hib:w.cell? ⟨ib,0,none⟩=some (.string (xIn d))) {c:Tree} {l:List Tree} (ek:t.kids=c :: l) (hv:vK c) :
  Calls prog 81 #[.int .i64 0,.pointer (some ⟨nb,0,none⟩),.pointer (some ⟨ib,0,none⟩)] w fun e w'=>e=.returned (.string (zu R d (0+1) c))∧Add w w':=by
 obtain⟨g,cap,k0,hcap,hmx,c5,g0,n0,hrest⟩:=hn.one ek
 have oc:=adc hx hm (k:=c) (by rw[ek];simp) hv
 obtain⟨L,hL⟩:∃L,l.length=L:=⟨_,rfl⟩
 have c5:w.cell? ⟨b,5,none⟩=some (.slice (some ⟨g,0,none⟩) (L+1) cap):=by rw[←hL];exact c5
 have hL0:(0:Int)<(L:Int)+1:=by omega
 have HC0:=zb fun (w1:World) (ha:Add w w1)=>hW.value w1 k0 c d 0 (hg.add ha) (n0.add ha) oc.1 oc.2.1 oc.2.2 (Nat.le_of_succ_le hd)
 have HA:=zb (Add.refl w)
 clear hn hx hm hd hg hW n0 hrest oc hL
 generalize zu R d (0+1) c=X0 at *
 go_enter func81,ntmps81
 go_wp2_with fail
 have ent0:∀w:World,Sem.run prog (callFunc 82 #[.pointer (some ⟨k0,0,none⟩),.int .i64 0,.string (xIn d)]) w=.ok (.enter 82 #[.pointer (some ⟨k0,0,none⟩),.int .i64 0,.string (xIn d)]) w:=fun _=>by kernel_rfl
 refine wp_region_held_drew (S:=fun w'=>w'.cell? ⟨nb,0,none⟩=some (.pointer (some ⟨b,0,none⟩))∧w'.cell? ⟨ib,0,none⟩=some (.string (xIn d))∧w'.cell? ⟨b,5,none⟩=some (.slice (some ⟨g,0,none⟩) (L+1) cap)∧w'.cell? ⟨g,0,none⟩=some (.pointer (some ⟨k0,0,none⟩))∧Hid (Add w w')) (by kernel_rfl) ⟨hnb,hib,c5,g0,(za HA).drew⟩ (fun hHeld=>?_)
 refine tka 0 5 rfl ?_
 refine tka 1 6 rfl ?_
 refine tka 2 7 rfl ?_
 refine tka 3 8 rfl ?_
 refine tka 4 9 rfl ?_
 refine tka 5 10 rfl ?_
 refine tka 6 11 rfl ?_
 refine tka 7 12 rfl ?_
 refine wpAnyH_ready (rs:=[8]) (by kernel_rfl) (by simp) ?_
 refine AllReadyH.cons (o:={ dst:=some 13,op:=_,type:=_,pos:=_,after:=_,guard:=_ }) rfl (fun K hK=>?_) AllReadyH.nil
 refine zm (by kernel_rfl) (by simp[Act.eval,ent0,go_sem]) ((za HC0 _ (za hHeld.2.2.2.2)).mono ?_)
 rintro e wc0 ⟨rfl,hac0⟩
 refine hK.out _ _ ⟨hac0.cellk hHeld.1,hac0.cellk hHeld.2.1,hac0.cellk hHeld.2.2.1,hac0.cellk hHeld.2.2.2.1,(za hHeld.2.2.2.2).tr hac0⟩ (fun hHeld8=>?_)
 clear hK K
 simp only[Act.put,sA,sB,sC]
 refine tka 9 4 rfl ?_
 refine wpAnyH_done (by kernel_rfl) ?_ _
 go_wp2_with fail
 go_ret
 exact⟨rfl,(za hHeld8.2.2.2.2)⟩
theorem sv_one {R:Wr} {f D:Nat} (hW:DB R f D) {w:World} (hg:RE w) {b d:Nat} {t:Tree} (hn:Nd w b t) (hx:Wx t) (hm:t.many≤f+1) (hd:d+1≤D) {nb ib:Nat} (hnb:w.cell? ⟨nb,0,none⟩=some (.pointer (some ⟨b,0,none⟩))) (hib:w.cell? ⟨ib,0,none⟩=some (.string (xIn d))) {c c2:Tree} {l:List Tree} (ek:t.kids=c :: c2 :: l) (hv:vK c2) :
  Calls prog 81 #[.int .i64 1,.pointer (some ⟨nb,0,none⟩),.pointer (some ⟨ib,0,none⟩)] w fun e w'=>e=.returned (.string (zu R d (0+1) c2))∧Add w w':=by
 obtain⟨g,cap,k0,hcap,hmx,c5,g0,n0,hrest⟩:=hn.one ek
 obtain⟨k1,g1,n1⟩:=hrest 0 _ rfl
 have oc:=adc hx hm (k:=c2) (by rw[ek];simp) hv
 obtain⟨L,hL⟩:∃L,l.length=L:=⟨_,rfl⟩
 have c5:w.cell? ⟨b,5,none⟩=some (.slice (some ⟨g,0,none⟩) (L+2) cap):=by rw[←hL];exact c5
 have hL0:(1:Int)<(L:Int)+2:=by omega
 have HC0:=zb fun (w1:World) (ha:Add w w1)=>hW.value w1 k1 c2 d 0 (hg.add ha) (n1.add ha) oc.1 oc.2.1 oc.2.2 (Nat.le_of_succ_le hd)
 have HA:=zb (Add.refl w)
 clear hn hx hm hd hg hW n0 n1 hrest oc hL g0
 generalize zu R d (0+1) c2=X0 at *
 go_enter func81,ntmps81
 go_wp2_with fail
 have ent0:∀w:World,Sem.run prog (callFunc 82 #[.pointer (some ⟨k1,0,none⟩),.int .i64 0,.string (xIn d)]) w=.ok (.enter 82 #[.pointer (some ⟨k1,0,none⟩),.int .i64 0,.string (xIn d)]) w:=fun _=>by kernel_rfl
 refine wp_region_held_drew (S:=fun w'=>w'.cell? ⟨nb,0,none⟩=some (.pointer (some ⟨b,0,none⟩))∧w'.cell? ⟨ib,0,none⟩=some (.string (xIn d))∧w'.cell? ⟨b,5,none⟩=some (.slice (some ⟨g,0,none⟩) (L+2) cap)∧w'.cell? ⟨g,1,none⟩=some (.pointer (some ⟨k1,0,none⟩))∧Hid (Add w w')) (by kernel_rfl) ⟨hnb,hib,c5,g1,(za HA).drew⟩ (fun hHeld=>?_)
 refine tka 0 5 rfl ?_
 refine tka 1 6 rfl ?_
 refine tka 2 7 rfl ?_
 refine tka 3 8 rfl ?_
 refine tka 4 9 rfl ?_
 refine tka 5 10 rfl ?_
 refine tka 6 11 rfl ?_
 refine tka 7 12 rfl ?_
 refine wpAnyH_ready (rs:=[8]) (by kernel_rfl) (by simp) ?_
 refine AllReadyH.cons (o:={ dst:=some 13,op:=_,type:=_,pos:=_,after:=_,guard:=_ }) rfl (fun K hK=>?_) AllReadyH.nil
 refine zm (by kernel_rfl) (by simp[Act.eval,ent0,go_sem]) ((za HC0 _ (za hHeld.2.2.2.2)).mono ?_)
 rintro e wc0 ⟨rfl,hac0⟩
 refine hK.out _ _ ⟨hac0.cellk hHeld.1,hac0.cellk hHeld.2.1,hac0.cellk hHeld.2.2.1,hac0.cellk hHeld.2.2.2.1,(za hHeld.2.2.2.2).tr hac0⟩ (fun hHeld8=>?_)
 clear hK K
 simp only[Act.put,sA,sB,sC]
 refine tka 9 4 rfl ?_
 refine wpAnyH_done (by kernel_rfl) ?_ _
 go_wp2_with fail
 go_ret
 exact⟨rfl,(za hHeld8.2.2.2.2)⟩
theorem aga {w:World} {d ib:Nat} (hd:d≤3000) (hib:w.cell? ⟨ib,0,none⟩=some (.string (xIn d))) {s:ByteArray} (hs:s.size≤200000000):Calls prog 83 #[.string s,.pointer (some ⟨ib,0,none⟩)] w fun e w'=>e=.returned (.string ((xIn d++s)++⟨#[10]⟩))∧Add w w':=by
 have hi:(xIn d).size≤6000:=by rw[aeh];omega
 generalize xIn d=I at *
 go_enter func83,ntmps83
 go_wp2_with fail
 go_ret
 exact⟨rfl,Add.refl _⟩
theorem az1 {R:Wr} {f D:Nat} (hW:DB R f D) {w:World} (hg:RE w) {b d:Nat} {t:Tree} (hn:Nd w b t) (hx:Wx t) (hm:t.many≤f+1) (hd:d+1≤D) {nb ib:Nat} (hnb:w.cell? ⟨nb,0,none⟩=some (.pointer (some ⟨b,0,none⟩))) (hib:w.cell? ⟨ib,0,none⟩=some (.string (xIn d))) {p bl:Tree} {h:ByteArray} (hh:h.size≤1000) (ek:t.kids=[p,bl]) (h6:p.kind=6) (h7:bl.kind=7) :
  Calls prog 84 #[.string h,.pointer (some ⟨nb,0,none⟩),.pointer (some ⟨ib,0,none⟩)] w fun e w'=>e=.returned (.string (ab8 R d (((h++⟨#[40]⟩)++abo R d p.kids)++⟨#[41]⟩) bl.kids))∧Add w w':=by
 obtain⟨g,cap,k0,hcap,hmx,c5,g0,n0,hrest⟩:=hn.one ek
 obtain⟨k1,g1,n1⟩:=hrest 0 _ rfl
 have c5:w.cell? ⟨b,5,none⟩=some (.slice (some ⟨g,0,none⟩) 2 cap):=c5
 obtain⟨vp,p5,rp⟩:=n0.kids
 obtain⟨vb,b5,rb⟩:=n1.kids
 have hz0:=dz_pa hW hx hm hd (p:=p) (by rw[ek];simp) h6
 have HC0:=zb fun (w1:World) (ha:Add w w1)=>agr hW (hg.add ha) (d:=d) (rp.add ha) (aku hx hm (by rw[ek];simp) h6) (aeb hW.f hm (by rw[ek];simp)) (Nat.le_of_succ_le hd)
 have hhd:(((h++⟨#[40]⟩)++abo R d p.kids)++⟨#[41]⟩).size≤100000000:=by
  simp only[ByteArray.size_append,bsz,List.size_toArray,List.length_cons,List.length_nil]
  omega
 have HC1:=zb fun (w1:World) (ha:Add w w1)=>adt hW (hg.add ha) (d:=d) hhd (rb.add ha) (af9 hx hm (by rw[ek];simp) h7) (aeb hW.f hm (by rw[ek];simp)) hd
 clear hhd
 have HA:=zb (Add.refl w)
 clear hn hx hm hd hg hW n0 n1 rp rb hrest h6 h7
 generalize ab8 R d (((h++⟨#[40]⟩)++abo R d p.kids)++⟨#[41]⟩) bl.kids=Y0 at *
 generalize abo R d p.kids=X0 at *
 go_enter func84,ntmps84
 go_wp2_with fail
 have ent0:∀w:World,Sem.run prog (callFunc 86 #[vp,.string (xIn d)]) w=.ok (.enter 86 #[vp,.string (xIn d)]) w:=fun _=>by kernel_rfl
 have ent1:∀w:World,Sem.run prog (callFunc 85 #[.string (((h++⟨#[40]⟩)++X0)++⟨#[41]⟩),vb,.string (xIn d)]) w=.ok (.enter 85 #[.string (((h++⟨#[40]⟩)++X0)++⟨#[41]⟩),vb,.string (xIn d)]) w:=fun _=>by kernel_rfl
 refine wp_region_held_drew (S:=fun w'=>w'.cell? ⟨nb,0,none⟩=some (.pointer (some ⟨b,0,none⟩))∧w'.cell? ⟨ib,0,none⟩=some (.string (xIn d))∧w'.cell? ⟨b,5,none⟩=some (.slice (some ⟨g,0,none⟩) 2 cap)∧w'.cell? ⟨g,0,none⟩=some (.pointer (some ⟨k0,0,none⟩))∧w'.cell? ⟨g,1,none⟩=some (.pointer (some ⟨k1,0,none⟩))∧w'.cell? ⟨k0,5,none⟩=some (vp)∧w'.cell? ⟨k1,5,none⟩=some (vb)∧Hid (Add w w')) (by kernel_rfl) ⟨hnb,hib,c5,g0,g1,p5,b5,(za HA).drew⟩ (fun hHeld=>?_)
 refine tka 0 5 rfl ?_
 refine tkb 1 6 rfl ?_
 refine tka 2 7 rfl ?_
 refine tka 3 8 rfl ?_
 refine tka 4 9 rfl ?_
 refine tka 5 10 rfl ?_
 refine tka 6 11 rfl ?_
 refine tka 7 12 rfl ?_
 refine tka 8 13 rfl ?_
 refine tka 9 14 rfl ?_
 refine tka 10 15 rfl ?_
 refine tka 11 16 rfl ?_
 refine tka 15 20 rfl ?_
 refine tka 16 21 rfl ?_
 refine tka 17 22 rfl ?_
 refine tka 18 23 rfl ?_
 refine tka 19 24 rfl ?_
 refine tka 20 25 rfl ?_
 refine tka 21 26 rfl ?_
 refine tka 22 27 rfl ?_
 refine tka 23 28 rfl ?_
 refine tka 24 29 rfl ?_
 refine wpAnyH_ready (rs:=[12]) (by kernel_rfl) (by simp) ?_
 refine AllReadyH.cons (o:={ dst:=some 17,op:=_,type:=_,pos:=_,after:=_,guard:=_ }) rfl (fun K hK=>?_) AllReadyH.nil
 refine zm (by kernel_rfl) (by simp[Act.eval,ent0,go_sem]) ((za HC0 _ (za hHeld.2.2.2.2.2.2.2)).mono ?_)
 rintro e wc0 ⟨rfl,hac0⟩
 refine hK.out _ _ ⟨hac0.cellk hHeld.1,hac0.cellk hHeld.2.1,hac0.cellk hHeld.2.2.1,hac0.cellk hHeld.2.2.2.1,hac0.cellk hHeld.2.2.2.2.1,hac0.cellk hHeld.2.2.2.2.2.1,hac0.cellk hHeld.2.2.2.2.2.2.1,(za hHeld.2.2.2.2.2.2.2).tr hac0⟩ (fun hHeld12=>?_)
 clear hK K
 simp only[Act.put,sA,sB,sC]
 refine tkb 13 18 rfl ?_
 refine tkb 14 19 rfl ?_
 refine wpAnyH_ready (rs:=[25]) (by kernel_rfl) (by simp) ?_
 refine AllReadyH.cons (o:={ dst:=some 30,op:=_,type:=_,pos:=_,after:=_,guard:=_ }) rfl (fun K hK=>?_) AllReadyH.nil
 refine zm (by kernel_rfl) (by simp[Act.eval,ent1,go_sem]) ((za HC1 _ (za hHeld12.2.2.2.2.2.2.2)).mono ?_)
 rintro e wc1 ⟨rfl,hac1⟩
 refine hK.out _ _ ⟨hac1.cellk hHeld12.1,hac1.cellk hHeld12.2.1,hac1.cellk hHeld12.2.2.1,hac1.cellk hHeld12.2.2.2.1,hac1.cellk hHeld12.2.2.2.2.1,hac1.cellk hHeld12.2.2.2.2.2.1,hac1.cellk hHeld12.2.2.2.2.2.2.1,(za hHeld12.2.2.2.2.2.2.2).tr hac1⟩ (fun hHeld25=>?_)
 clear hK K
 simp only[Act.put,sA,sB,sC]
 refine tka 26 4 rfl ?_
 refine wpAnyH_done (by kernel_rfl) ?_ _
 go_wp2_with fail
 go_ret
 exact⟨rfl,(za hHeld25.2.2.2.2.2.2.2)⟩
theorem atb {R:Wr} {f D:Nat} (hW:DB R f D) {w:World} (hg:RE w) {b d:Nat} {t:Tree} (hn:Nd w b t) (hx:Wx t) (hm:t.many≤f+1) (hd:d+1≤D) {c:Tree} {l:List Tree} (ek:t.kids=c :: l) (hv:vK c):Calls prog 87 #[.pointer (some ⟨b,0,none⟩),.string (xIn d)] w fun e w'=>e=.returned (.string (ada R d t))∧Add w w':=by
 obtain⟨g,cap,k0,hcap,hmx,c5,g0,n0,hrest⟩:=hn.one ek
 have oc:=adc hx hm (k:=c) (by rw[ek];simp) hv
 obtain⟨L,hL⟩:∃L,l.length=L:=⟨_,rfl⟩
 have c5:w.cell? ⟨b,5,none⟩=some (.slice (some ⟨g,0,none⟩) (L+1) cap):=by rw[←hL];exact c5
 have hL0:(0:Int)<(L:Int)+1:=by omega
 have HC0:=zb fun (w1:World) (ha:Add w w1)=>hW.value w1 k0 c d 0 (hg.add ha) (n0.add ha) oc.1 oc.2.1 oc.2.2 (Nat.le_of_succ_le hd)
 have hz0:=ad0 hW hx hm hd (k:=c) (by rw[ek];simp) hv 1
 have HX:=zb (show ada R d t=if (decide (d=0)&&Lib.hasPrefix (zu R d 1 c).data.toList [102,110,40])=true then ((⟨#[40]⟩++zu R d 1 c)++⟨#[41]⟩) else zu R d 1 c by unfold ada;rw[aa3 ek])
 have HC0:Hid (∀w1,Add w w1→Calls prog 82 #[.pointer (some ⟨k0,0,none⟩),.int .i64 0,.string (xIn d)] w1 fun e w'=>e=.returned (.string (zu R d 1 c))∧Add w1 w'):=HC0
 have he:d≠0→((xIn d).toList==([]:List UInt8))=false:=fun h0=>by
  rw[beq_eq_false_iff_ne]
  intro e
  rw[ByteArray.toList_eq] at e
  have h1:=ajc (xIn d)
  rw[e,aeh] at h1
  simp at h1
  omega
 have h00:d=0→xIn d=⟨#[]⟩:=fun h0=>by rw[h0];rfl
 clear hn hx hm hd hg hW n0 hrest oc hL
 generalize zu R d 1 c=X0 at *
 by_cases h0:d=0
 ·rw[h00 h0] at HC0 ⊢
  clear he h00
  go_enter func87,ntmps87
  go_wp2_with fail
  refine(za HC0 _ (Add.refl w)).mono ?_
  rintro e wc0 ⟨rfl,hac0⟩
  have HAC:=zb hac0
  clear hac0
  cases hp:Lib.hasPrefix X0.data.toList [102,110,40]
  ·go_wp2_with (go_at_call 62;refine(Tryz.strings_HasPrefix _ _ _).mono ?_;rintro e w3 ⟨rfl,rfl⟩;rw[show Lib.hasPrefix X0.data.toList (⟨#[102,110,40]⟩:ByteArray).data.toList=false from hp])
   go_ret
   rw[za HX,if_neg (by rw[hp,Bool.and_false];exact Bool.false_ne_true)]
   exact⟨rfl,za HAC⟩
  ·go_wp2_with (go_at_call 62;refine(Tryz.strings_HasPrefix _ _ _).mono ?_;rintro e w3 ⟨rfl,rfl⟩;rw[show Lib.hasPrefix X0.data.toList (⟨#[102,110,40]⟩:ByteArray).data.toList=true from hp])
   go_ret
   rw[za HX,if_pos (by rw[hp,h0];decide)]
   exact⟨rfl,za HAC⟩
 ·have he':=he h0
  clear he h00
  generalize xIn d=I at *
  go_enter func87,ntmps87
  go_wp2_with fail
  refine(za HC0 _ (Add.refl w)).mono ?_
  rintro e wc0 ⟨rfl,hac0⟩
  have HAC:=zb hac0
  clear hac0
  go_wp2_with fail
  go_ret
  rw[za HX,if_neg (by rw[decide_eq_false h0,Bool.false_and];exact Bool.false_ne_true)]
  exact⟨rfl,za HAC⟩
end Go.Proofs.YtndgajlidckcdaaGreatDoor
