/- A part. -/
import Derived.Test.YtndgajlidckcdaaGreatDoorM40
open Go.Proofs.Tryz
namespace Go.Proofs.YtndgajlidckcdaaGreatDoor
open Go.RowKit
set_option linter.unusedVariables false
set_option linter.unusedSimpArgs false
set_option maxRecDepth 100000
set_option maxHeartbeats 8000000
theorem ax9 {w:World} {s:ByteArray} {v:Value} {Q:List Tok×(Int×Int)} (henv:LexEnv w) (hs:s.size≤3000) {acc:List Tok} {il ll Fu gg:Nat} {u4:Value} {wr:World} (hil:il≤s.size) (hll:ll≤il+1) (hgg:gg=s.size-il+1) (hF:s.size-il<Fu) (hacc:acc.length≤il) (HAD:Hid (Add w wr)) (HB3:Hid (wr.heap[w.heap.size]?=some (.cells #[.int .i64 0,.int .i64 0] 25 (0,0)))) (HOW:Hid (wr.ownsRow (w.heap.size+1) 75 5 u4 acc.length (acc.flatMap aao))) (HQ:Hid ((acc++(abq Fu (atS s v il ll)).1,(abq Fu (atS s v il ll)).2)=Q)) (hlt:il<s.size) (c:Nat) (hc:c=s[il].toNat) (h10:¬c=10) (h32:¬c=32) (hl:¬lt (c:Int)=true) (hd:dg (c:Int)=true):(afy w s v Q).1 gg u4 (.int .i64 (ll:Int)) (.int .i64 (il:Int)) wr:=by
 have HENV:=zb henv
 obtain⟨i0,hi0,hz0,hz1,hz2⟩:=info_parts ahm
 have HE:=zb ((za HENV).keep fun k hk=>(za HAD).block k hk)
 clear henv
 have hne:((il:Int)==(s.size:Int))=false:=by simp;omega
 have hlt2:(il:Int)<(s.size:Int):=by omega
 have hc256:c<256:=by rw[hc];exact UInt8.toNat_lt _
 have HC:=zb hc
 have hnb:(c==32)=false:=by simp;exact h32
 have hnb2:(c==10)=false:=by simp;exact h10
 have HADV:=zb (alg (v:=v) (l:=ll) hlt (by rw[←hc];exact h10) (by rw[←hc];exact h32))
 have m32:(((s[il].toNat:Nat):Int)==32)=false:=by rw[←hc];simp;omega
 have m10:(((s[il].toNat:Nat):Int)==10)=false:=by rw[←hc];simp;omega
 have o32:¬((s[il].toNat:Nat):Int)=32:=by rw[←hc];omega
 have o10:¬((s[il].toNat:Nat):Int)=10:=by rw[←hc];omega
 clear hc
 have n32:(((c:Nat):Int)==32)=false:=by simp;omega
 have n10:(((c:Nat):Int)==10)=false:=by simp;omega
 delta afy
 intro _
 intros
 rename_i J K hJ hK
 have hl2:lt (c:Int)=false:=by simpa using hl
 have hd2:dg (c:Int)=true:=hd
 have hdc:dg ((s[il].toNat:Nat):Int)=true:=by rw[←za HC];exact hd
 have hlc:lt ((s[il].toNat:Nat):Int)=false:=by rw[←za HC];exact hl2
 go_wp2_with fail
 rw[←za HC]
 refine(ahl (c:Int) _).mono ?_
 rintro e wz ⟨rfl,rfl⟩
 rw[hl2]
 go_wp2_with fail
 refine(aio (c:Int) _).mono ?_
 rintro e wz ⟨rfl,rfl⟩
 rw[hd2]
 obtain⟨E,hE⟩:∃E,ab1 s dg (s.size-il) il=E:=⟨_,rfl⟩
 have HEE:=zb hE
 have HTB0:=zb (TB.start (za HAD) (za HB3) (za HOW) il ll)
 clear hE hl hl2 hd hd2
 generalize (wr.alloc (.cells #[.int .u8 0,.string ⟨#[]⟩,.int .i64 0,.int .i64 (il:Int),.int .i64 (ll:Int)] 75))=W0 at *
 go_wp2_with fail
 go_loopg [6] (s.size-il+1) (fun gg i wz=>∃j:Nat,i=.int .i64 (j:Int)∧il≤j∧j≤s.size∧gg=s.size-j+1∧W0=wz∧Hid (ab1 s dg (s.size-j) j=E))
 case atStart=>exact⟨il,rfl,Nat.le_refl _,hil,rfl,rfl,HEE⟩
 case round =>
  obtain⟨j,rfl,hj1,hj2,hgj,rfl,HR⟩:=hrel
  go_upto_region 33 with fail
  go_cut [137] from 128 to 139 (fun b wc=>b=.bool (ah3 dg s j)∧W0=wc)
  case first =>
   by_cases hjs:j<s.size
   ·have hji:(j:Int)<(s.size:Int):=by omega
    have HA:=zb (avq (B:=dg) hjs)
    go_wp2_with (go_at_call 59;refine(aio _ _).mono ?_;rintro e w1 ⟨rfl,rfl⟩)
    go_meet
    case rel=>exact⟨by rw[za HA],rfl⟩
   ·have hji:¬(j:Int)<(s.size:Int):=by omega
    go_wp2_with fail
    go_meet
    case rel=>exact⟨by rw[as6 hjs],rfl⟩
  case rest =>
  obtain⟨rfl,rfl⟩:=hcut
  cases hat:ah3 dg s j
  ·have hEj:j=E:=(avr hat).symm.trans (za HR)
   subst hEj
   clear hat HR
   have hlj:il<j:=by
    have:=za HEE
    rcases Nat.lt_or_ge il j with h | h
    ·exact h
    ·exfalso
     obtain rfl:il=j:=by omega
     rw[ahe hlt hdc] at this
     have:=(anx s dg (s.size-(il+1)) (il+1) (by omega)).1
     omega
   have t0:W0.cell? ⟨wr.heap.size,0,none⟩=some (.int .u8 0):=zd (za HTB0).box 0
   have t3:W0.cell? ⟨wr.heap.size,3,none⟩=some (.int .i64 (il:Int)):=zd (za HTB0).box 3
   have hji:(il:Int)≤(j:Int):=by omega
   have hjs2:(j:Int)≤(s.size:Int):=by omega
   have hsx:(s.extract il j).size≤3000:=by rw[ByteArray.size_extract];omega
   have HAL:=zb (adv_num (v:=v) (ll:=ll) hlt hlc hdc (za HEE))
   go_wp2_with fail
   rcases num_two hlt hdc (za HEE) with hp | ⟨u,hp⟩
   ·
    obtain⟨te,pe,hv⟩:=((za HENV).keep fun k hk=>(za HTB0).add.block k hk).range
    refine(Tryz.strconv_ParseUint_10_at64_range (s.extract il j) (by omega) hp _ W0 hv (Or.inr ⟨te,pe,rfl⟩)).mono ?_
    rintro e W1 ⟨N,rfl,hN,hNb,hbl⟩
    have ha1:Add W0 W1:=⟨hbl.os,hbl.tape,hbl.output,hbl.size,fun k hk=>hbl.block k hk⟩
    have HTB1:=zb ((za HTB0).keep ha1)
    have HADV2:Hid (abe (aa5 s v il ll)=.inl (2,il)):=by
     have:=za HAL
     rw[hp] at this
     exact this
    have b0:W1.cell? ⟨w.heap.size,0,none⟩=some (.int .i64 0):=zd (za HTB1).b3 0
    have b1:W1.cell? ⟨w.heap.size,1,none⟩=some (.int .i64 0):=zd (za HTB1).b3 1
    have t3':W1.cell? ⟨wr.heap.size,3,none⟩=some (.int .i64 (il:Int)):=zd (za HTB1).box 3
    have fz:=zp (za HTB1).b3
    clear hbl ha1 hN hNb hv hp HAL t0 t3
    go_wp2_with fail
    go_region
    go_wp2_with fail
    have hq:Q=(acc,((2:Int),(((il):Nat):Int))):=by
     obtain⟨F,rfl⟩:∃F,Fu=F+1:=⟨Fu-1,by omega⟩
     exact agj ((za HADV).trans (za HADV2)) (za HQ)
    exact bodyPost_ret (v:=.tuple #[u4,.agg #[.int .i64 2,.int .i64 ((il:Nat):Int)]]) (by simp[results,Tryz.results31,go_sem,b0,b1]) rfl ((agk (za HTB1) hq (by omega) _ _)).drew
   ·
    refine(Tryz.strconv_ParseUint_10_at64_ok (s.extract il j) (by omega) u hp W0).mono ?_
    rintro e W1 ⟨rfl,hw1⟩
    have hbl:Below W0.heap.size W0 W1:=by
     rcases hw1 with rfl | rfl
     ·exact Below.refl _ _
     ·exact Lib.bytesWorld_below _ _ _
    have ha1:Add W0 W1:=⟨hbl.os,hbl.tape,hbl.output,hbl.size,fun k hk=>hbl.block k hk⟩
    have HTB1:=zb ((za HTB0).keep ha1)
    clear hw1 hbl ha1
    have hal:=za HAL
    rw[hp] at hal
    clear HAL hp t0 t3
    by_cases hg:(9223372036854775808:Int)<(u:Int)
    ·have HADV2:Hid (abe (aa5 s v il ll)=.inl (2,il)):=hal.trans (if_pos (by simpa using hg))
     have b0:W1.cell? ⟨w.heap.size,0,none⟩=some (.int .i64 0):=zd (za HTB1).b3 0
     have b1:W1.cell? ⟨w.heap.size,1,none⟩=some (.int .i64 0):=zd (za HTB1).b3 1
     have t3':W1.cell? ⟨wr.heap.size,3,none⟩=some (.int .i64 (il:Int)):=zd (za HTB1).box 3
     have fz:=zp (za HTB1).b3
     clear hal
     go_wp2_with fail
     go_region
     go_wp2_with fail
     have hq:Q=(acc,((2:Int),(((il):Nat):Int))):=by
      obtain⟨F,rfl⟩:∃F,Fu=F+1:=⟨Fu-1,by omega⟩
      exact agj ((za HADV).trans (za HADV2)) (za HQ)
     exact bodyPost_ret (v:=.tuple #[u4,.agg #[.int .i64 2,.int .i64 ((il:Nat):Int)]]) (by simp[results,Tryz.results31,go_sem,b0,b1]) rfl ((agk (za HTB1) hq (by omega) _ _)).drew
    ·have HADV2:Hid (abe (aa5 s v il ll)=.inr { aa5 s v il ll with pl:=j,kd:=3,nn:=wrap64 u }):=hal.trans (if_neg (by simpa using hg))
     have t0:W1.cell? ⟨wr.heap.size,0,none⟩=some (.int .u8 0):=zd (za HTB1).box 0
     have t2:W1.cell? ⟨wr.heap.size,2,none⟩=some (.int .i64 0):=zd (za HTB1).box 2
     have fz:=zp (za HTB1).box
     clear hal
     go_upto_region 58 with fail
     have HTB:=zb (((za HTB1).put 0 (.int .u8 105) (y:=⟨105,⟨#[]⟩,0,il,ll⟩) rfl).put 2 (.int .i64 (wrap64 u)) (y:=⟨105,⟨#[]⟩,wrap64 u,il,ll⟩) rfl)
     clear t0 t2 fz HTB1
     generalize ((W1.setCell ⟨wr.heap.size,0,none⟩ (.int .u8 105)).setCell ⟨wr.heap.size,2,none⟩ (.int .i64 (wrap64 u)))=W at *
     obtain⟨k0,k1,k2,k3,k4⟩:W.cell? ⟨wr.heap.size,0,none⟩=some (.int .u8 (105:Nat))∧W.cell? ⟨wr.heap.size,1,none⟩=some (.string ⟨#[]⟩)∧W.cell? ⟨wr.heap.size,2,none⟩=some (.int .i64 (wrap64 u))∧W.cell? ⟨wr.heap.size,3,none⟩=some (.int .i64 (il:Int))∧W.cell? ⟨wr.heap.size,4,none⟩=some (.int .i64 (ll:Int)):=⟨zd (za HTB).box 0,zd (za HTB).box 1,zd (za HTB).box 2,zd (za HTB).box 3,zd (za HTB).box 4⟩
     have HOA:=zb (((za HTB).own).alloc (.cells #[.int .u8 (105:Nat),.string ⟨#[]⟩,.int .i64 (wrap64 u),.int .i64 (il:Int),.int .i64 (ll:Int)] 75))
     have hacc3:acc.length≤3000:=by omega
     go_wp2_with (at_builtin;refine wpList_append_lies _ rfl _ _ _ rfl (w.heap.size+1) 75 i0 (.agg #[.int .u8 0,.string ByteArray.empty,.int .i64 0,.int .i64 0,.int .i64 0]) 5 48 underlying67 hi0 hz0 hz1 hz2 rfl (by decide) _ acc.length (acc.flatMap aao) rfl (za HOA) ⟨W.heap.size,0,none⟩ 1 1 [.int .u8 (105:Nat),.string ⟨#[]⟩,.int .i64 (wrap64 u),.int .i64 (il:Int),.int .i64 (ll:Int)] rfl rfl (World.news_of_block (aaq _ _)) ?t3c2 (by decide) ?t3c3 ?t3c4 ?t3c5 (W.heap.size+1) ?t3c6 ?_)
     case t3c2=>first | exact⟨rfl,rfl,rfl,rfl,rfl⟩ | (intro u hu;simp at hu;rcases hu with rfl | rfl | rfl | rfl | rfl <;> rfl)
     case t3c3=>unfold maxLen;omega
     case t3c4=>omega
     case t3c5=>have:=(za HTB).far;have:=(gtE (za HTB).box).1;simp;omega
     try case t3c6=>simp
     intro g cap w3 hown hgrow hat hlt3
     obtain⟨had,hb3⟩:=afw (za HTB).add (za HTB).b3 (za HTB).own hgrow
     have HT1:=zb had
     have HT2:=zb hb3
     have HT3:=zb hown
     clear had hb3 hown hgrow hat hlt3 k0 k1 k2 k3 k4 HOA
     go_wp2_with fail
     go_roundg (s.size-j+1)
     case measure=>omega
     case rel=>exact ag4 (T:={ aa5 s v il ll with pl:=j,kd:=3,nn:=wrap64 u }) (x:=⟨105,⟨#[]⟩,(wrap64 u),il,ll⟩) ((za HADV).trans (za HADV2)) (show (_:Nat)≠0 from (show (3:Nat)≠0 by decide)) rfl rfl rfl rfl rfl rfl (za HQ) (by omega) (by omega) hll hF hacc (za HT1) (za HT2) (za HT3)
  ·obtain⟨hjs,hrun⟩:=azu hat
   have HR2:=zb (hrun.symm.trans (za HR))
   clear hrun HR hat
   go_wp2_with fail
   go_roundg (s.size-(j+1)+1)
   case measure=>omega
   case rel=>exact⟨j+1,by go_num,by omega,by omega,rfl,rfl,HR2⟩
theorem au8 {w:World} {s:ByteArray} {v:Value} {Q:List Tok×(Int×Int)} (henv:LexEnv w) (hs:s.size≤3000) {acc:List Tok} {il ll Fu gg:Nat} {u4:Value} {wr:World} (hil:il≤s.size) (hll:ll≤il+1) (hgg:gg=s.size-il+1) (hF:s.size-il<Fu) (hacc:acc.length≤il) (HAD:Hid (Add w wr)) (HB3:Hid (wr.heap[w.heap.size]?=some (.cells #[.int .i64 0,.int .i64 0] 25 (0,0)))) (HOW:Hid (wr.ownsRow (w.heap.size+1) 75 5 u4 acc.length (acc.flatMap aao))) (HQ:Hid ((acc++(abq Fu (atS s v il ll)).1,(abq Fu (atS s v il ll)).2)=Q)) (hlt:il<s.size) (c:Nat) (hc:c=s[il].toNat) (h10:¬c=10) (h32:¬c=32) (hl:¬lt (c:Int)=true) (hd:¬dg (c:Int)=true) (h34:c=34):(afy w s v Q).1 gg u4 (.int .i64 (ll:Int)) (.int .i64 (il:Int)) wr:=by
 have HENV:=zb henv
 obtain⟨i0,hi0,hz0,hz1,hz2⟩:=info_parts ahm
 have HE:=zb ((za HENV).keep fun k hk=>(za HAD).block k hk)
 clear henv
 have hne:((il:Int)==(s.size:Int))=false:=by simp;omega
 have hlt2:(il:Int)<(s.size:Int):=by omega
 have hc256:c<256:=by rw[hc];exact UInt8.toNat_lt _
 have HC:=zb hc
 have hnb:(c==32)=false:=by simp;exact h32
 have hnb2:(c==10)=false:=by simp;exact h10
 have HADV:=zb (alg (v:=v) (l:=ll) hlt (by rw[←hc];exact h10) (by rw[←hc];exact h32))
 have m32:(((s[il].toNat:Nat):Int)==32)=false:=by rw[←hc];simp;omega
 have m10:(((s[il].toNat:Nat):Int)==10)=false:=by rw[←hc];simp;omega
 have o32:¬((s[il].toNat:Nat):Int)=32:=by rw[←hc];omega
 have o10:¬((s[il].toNat:Nat):Int)=10:=by rw[←hc];omega
 clear hc
 have n32:(((c:Nat):Int)==32)=false:=by simp;omega
 have n10:(((c:Nat):Int)==10)=false:=by simp;omega
 delta afy
 intro _
 intros
 rename_i J K hJ hK
 have h34c:s[il].toNat=34:=by rw[←za HC];exact h34
 subst h34
 have hl2:lt (34:Int)=false:=by decide
 have hd2:dg (34:Int)=false:=by decide
 have HAL:=zb (adv_str (v:=v) (ll:=ll) hlt h34c)
 have HTB0:=zb (TB.start (za HAD) (za HB3) (za HOW) il ll)
 have t0:(wr.alloc (.cells #[.int .u8 0,.string ⟨#[]⟩,.int .i64 0,.int .i64 (il:Int),.int .i64 (ll:Int)] 75)).cell? ⟨wr.heap.size,0,none⟩=some (.int .u8 0):=zd (za HTB0).box 0
 have fz:=zp (za HTB0).box
 obtain⟨wo,hwo⟩:∃wo,wo=wr:=⟨_,rfl⟩
 subst hwo
 go_wp2_with fail
 refine(ahl (34:Int) _).mono ?_
 rintro e wz ⟨rfl,rfl⟩
 rw[hl2]
 go_wp2_with fail
 refine(aio (34:Int) _).mono ?_
 rintro e wz ⟨rfl,rfl⟩
 rw[hd2]
 generalize (wo.alloc (.cells #[.int .u8 0,.string ⟨#[]⟩,.int .i64 0,.int .i64 (il:Int),.int .i64 (ll:Int)] 75))=W0 at *
 have HTB1:=zb (((za HTB0).put 0 (.int .u8 115) (y:=⟨115,⟨#[]⟩,0,il,ll⟩) rfl))
 go_upto_region 41 with fail
 clear t0 fz HTB0 hl2 hd2
 generalize (W0.setCell ⟨wo.heap.size,0,none⟩ (.int .u8 115))=W1 at *
 obtain⟨R,hR⟩:∃R,aec s (il+1) []=R:=⟨_,rfl⟩
 have HR:=zb hR
 clear hR
 go_wp2_with fail
 go_loopg [6] (s.size+2-(il+1)) (fun gg i wz=>∃(p:Nat) (said:List UInt8),i=.int .i64 (p:Int)∧il+1≤p∧p≤s.size∧gg=s.size+2-p∧said.length≤p∧Hid (TB w wo wz u4 acc ⟨115,⟨said.toArray⟩,0,il,ll⟩)∧Hid (aec s p said=R))
 case atStart=>exact⟨il+1,[],by go_num,by omega,by omega,rfl,by simp,HTB1,HR⟩
 case round =>
  clear HTB1
  obtain⟨p,said,rfl,hp1,hp2,hgp,hsd,HTB1,HP⟩:=hrel
  have b0:wr.cell? ⟨w.heap.size,0,none⟩=some (.int .i64 0):=zd (za HTB1).b3 0
  have b1:wr.cell? ⟨w.heap.size,1,none⟩=some (.int .i64 0):=zd (za HTB1).b3 1
  have fz:=zp (za HTB1).b3
  by_cases hps:p<s.size
  ·have hpe:((p:Int)==(s.size:Int))=false:=by simp;omega
   have hpi:(p:Int)<(s.size:Int):=by omega
   have hb:=aa0 hps
   by_cases h10:zo s p=10
   ·have o10:((s[p].toNat:Nat):Int)=10:=by rw[hb,h10];rfl
    have hRe:=(ajh (acc:=said) (fun h:aci s p=>h.2 h10)).symm.trans (za HP)
    have HADV2:Hid (abe (aa5 s v il ll)=.inl (3,p)):=by
     have:=za HAL
     rw[za HR,←hRe] at this
     exact this
    have HB:=zb hb
    clear hRe HP HAL hb h10
    go_upto_region 44 with fail
    go_wp2_with fail
    have hq:Q=(acc,((3:Int),(((p):Nat):Int))):=by
     obtain⟨F,rfl⟩:∃F,Fu=F+1:=⟨Fu-1,by omega⟩
     exact agj ((za HADV).trans (za HADV2)) (za HQ)
    exact bodyPost_ret (v:=.tuple #[u4,.agg #[.int .i64 3,.int .i64 ((p:Nat):Int)]]) (by simp[results,Tryz.results31,go_sem,b0,b1]) rfl (agk (za HTB1) hq (by omega) _ _)
   ·have hin:aci s p:=⟨hps,h10⟩
    have o10:¬((s[p].toNat:Nat):Int)=10:=by rw[hb];omega
    have m10:(((s[p].toNat:Nat):Int)==10)=false:=by simpa using o10
    by_cases h34:zo s p=34
    ·have o34:((s[p].toNat:Nat):Int)=34:=by rw[hb,h34];rfl
     have hRe:=(amt (acc:=said) hin h34).symm.trans (za HP)
     have hal:=za HAL
     rw[za HR,←hRe] at hal
     have HALS:=zb hal
     have t1:wr.cell? ⟨wo.heap.size,1,none⟩=some (.string ⟨said.toArray⟩):=zd (za HTB1).box 1
     have t3:wr.cell? ⟨wo.heap.size,3,none⟩=some (.int .i64 (il:Int)):=zd (za HTB1).box 3
     have hsz:(⟨said.toArray⟩:ByteArray).size=said.length:=by simp[ByteArray.size]
     clear hRe HP HAL hal hb h34 h10 hin
     by_cases h300:300<said.length
     ·have HADV2:Hid (abe (aa5 s v il ll)=.inl (4,il)):=(za HALS).trans (if_pos h300)
      have g300:(300:Int)<(said.length:Int):=by omega
      go_upto_region 57 with fail
      go_region
      go_wp2_with fail
      have hq:Q=(acc,((4:Int),(((il):Nat):Int))):=by
       obtain⟨F,rfl⟩:∃F,Fu=F+1:=⟨Fu-1,by omega⟩
       exact agj ((za HADV).trans (za HADV2)) (za HQ)
      exact bodyPost_ret (v:=.tuple #[u4,.agg #[.int .i64 4,.int .i64 ((il:Nat):Int)]]) (by simp[results,Tryz.results31,go_sem,b0,b1]) rfl ((agk (za HTB1) hq (by omega) _ _)).drew
     ·have HADV2:Hid (abe (aa5 s v il ll)=.inr { aa5 s v il ll with pl:=p+1,kd:=4,tx:=⟨said.toArray⟩ }):=(za HALS).trans (if_neg h300)
      have g300:(said.length:Int)≤300:=by omega
      have HTB:=HTB1
      go_upto_region 58 with fail
      clear t1 t3 b0 b1 fz hsz HALS HTB1
      obtain⟨k0,k1,k2,k3,k4⟩:wr.cell? ⟨wo.heap.size,0,none⟩=some (.int .u8 (115:Nat))∧wr.cell? ⟨wo.heap.size,1,none⟩=some (.string ⟨said.toArray⟩)∧wr.cell? ⟨wo.heap.size,2,none⟩=some (.int .i64 0)∧wr.cell? ⟨wo.heap.size,3,none⟩=some (.int .i64 (il:Int))∧wr.cell? ⟨wo.heap.size,4,none⟩=some (.int .i64 (ll:Int)):=⟨zd (za HTB).box 0,zd (za HTB).box 1,zd (za HTB).box 2,zd (za HTB).box 3,zd (za HTB).box 4⟩
      have HOA:=zb (((za HTB).own).alloc (.cells #[.int .u8 (115:Nat),.string ⟨said.toArray⟩,.int .i64 0,.int .i64 (il:Int),.int .i64 (ll:Int)] 75))
      have hacc3:acc.length≤3000:=by omega
      go_wp2_with (at_builtin;refine wpList_append_lies _ rfl _ _ _ rfl (w.heap.size+1) 75 i0 (.agg #[.int .u8 0,.string ByteArray.empty,.int .i64 0,.int .i64 0,.int .i64 0]) 5 48 underlying67 hi0 hz0 hz1 hz2 rfl (by decide) _ acc.length (acc.flatMap aao) rfl (za HOA) ⟨wr.heap.size,0,none⟩ 1 1 [.int .u8 (115:Nat),.string ⟨said.toArray⟩,.int .i64 0,.int .i64 (il:Int),.int .i64 (ll:Int)] rfl rfl (World.news_of_block (aaq _ _)) ?t8c2 (by decide) ?t8c3 ?t8c4 ?t8c5 (wr.heap.size+1) ?t8c6 ?_)
      case t8c2=>first | exact⟨rfl,rfl,rfl,rfl,rfl⟩ | (intro u hu;simp at hu;rcases hu with rfl | rfl | rfl | rfl | rfl <;> rfl)
      case t8c3=>unfold maxLen;omega
      case t8c4=>omega
      case t8c5=>have:=(za HTB).far;have:=(gtE (za HTB).box).1;simp;omega
      try case t8c6=>simp
      intro g cap w3 hown hgrow hat hlt3
      obtain⟨had,hb3⟩:=afw (za HTB).add (za HTB).b3 (za HTB).own hgrow
      have HT1:=zb had
      have HT2:=zb hb3
      have HT3:=zb hown
      clear had hb3 hown hgrow hat hlt3 k0 k1 k2 k3 k4 HOA
      go_wp2_with fail
      go_roundg (s.size-(p+1)+1)
      case measure=>omega
      case rel=>exact ag4 (T:={ aa5 s v il ll with pl:=p+1,kd:=4,tx:=⟨said.toArray⟩ }) (x:=⟨115,⟨said.toArray⟩,0,il,ll⟩) ((za HADV).trans (za HADV2)) (show (_:Nat)≠0 from (show (4:Nat)≠0 by decide)) rfl rfl rfl rfl rfl rfl (za HQ) (by omega) (by omega) hll hF hacc (za HT1) (za HT2) (za HT3)
    ·have o34:¬((s[p].toNat:Nat):Int)=34:=by rw[hb];omega
     have m34:(((s[p].toNat:Nat):Int)==34)=false:=by simpa using o34
     have t1:wr.cell? ⟨wo.heap.size,1,none⟩=some (.string ⟨said.toArray⟩):=zd (za HTB1).box 1
     have fy:=zp (za HTB1).box
     have hsz:(⟨said.toArray⟩:ByteArray).size=said.length:=by simp[ByteArray.size]
     by_cases h92:zo s p=92
     ·have o92:((s[p].toNat:Nat):Int)=92:=by rw[hb,h92];rfl
      have HB:=zb hb
      clear hb
      by_cases hq1:p+1<s.size
      ·have hq2:(p:Int)+1<(s.size:Int):=by omega
       have hb2:=aa0 hq1
       have h256:=ait s (p+1)
       by_cases e110:zo s (p+1)=110
       ·
        have o:s[p+1].toNat=110:=hb2.trans e110
        have hin2:aci s (p+1):=⟨hq1,by rw[e110];decide⟩
        have HP2:=zb ((ajr (acc:=said) (c:=10) hin h92 hin2 (by rw[e110];rfl)).symm.trans (za HP))
        have HSN:=zb (aj9 (l:=said) (t:=(⟨#[10,34,92]⟩:ByteArray).extract 0 1) (b:=UInt8.ofNat 10) (by decide))
        have HTB2:=zb (((za HTB1).put 1 (.string ⟨(said++[UInt8.ofNat 10]).toArray⟩) (y:=⟨115,⟨(said++[UInt8.ofNat 10]).toArray⟩,0,il,ll⟩) rfl).drew)
        have hcat:¬9223372036854775807<said.length+1:=by omega
        clear hb2 h256 HP h92 h34 h10 hin hin2 e110
        go_upto_region 55 with (go_at_call 61;refine(ai2 (b:=110) (by decide) _).mono ?_;rintro e w1 ⟨rfl,hz⟩;obtain rfl:=hz.symm;rw[show escK 110=0 from rfl])
        go_region
        go_wp2_with fail
        go_roundg (s.size+2-(p+2))
        case measure=>omega
        case rel=>exact⟨p+2,said++[UInt8.ofNat 10],by go_num,by omega,by omega,rfl,by simp;omega,by rw[←za HSN] at HTB2;exact HTB2,HP2⟩
       ·by_cases e34:zo s (p+1)=34
        ·
         have o:s[p+1].toNat=34:=hb2.trans e34
         have hin2:aci s (p+1):=⟨hq1,by rw[e34];decide⟩
         have HP2:=zb ((ajr (acc:=said) (c:=34) hin h92 hin2 (by rw[e34];rfl)).symm.trans (za HP))
         have HSN:=zb (aj9 (l:=said) (t:=(⟨#[10,34,92]⟩:ByteArray).extract 1 2) (b:=UInt8.ofNat 34) (by decide))
         have HTB2:=zb (((za HTB1).put 1 (.string ⟨(said++[UInt8.ofNat 34]).toArray⟩) (y:=⟨115,⟨(said++[UInt8.ofNat 34]).toArray⟩,0,il,ll⟩) rfl).drew)
         have hcat:¬9223372036854775807<said.length+1:=by omega
         clear hb2 h256 HP h92 h34 h10 hin hin2 e34
         go_upto_region 55 with (go_at_call 61;refine(ai2 (b:=34) (by decide) _).mono ?_;rintro e w1 ⟨rfl,hz⟩;obtain rfl:=hz.symm;rw[show escK 34=1 from rfl])
         go_region
         go_wp2_with fail
         go_roundg (s.size+2-(p+2))
         case measure=>omega
         case rel=>exact⟨p+2,said++[UInt8.ofNat 34],by go_num,by omega,by omega,rfl,by simp;omega,by rw[←za HSN] at HTB2;exact HTB2,HP2⟩
        ·by_cases e92:zo s (p+1)=92
         ·
          have o:s[p+1].toNat=92:=hb2.trans e92
          have hin2:aci s (p+1):=⟨hq1,by rw[e92];decide⟩
          have HP2:=zb ((ajr (acc:=said) (c:=92) hin h92 hin2 (by rw[e92];rfl)).symm.trans (za HP))
          have HSN:=zb (aj9 (l:=said) (t:=(⟨#[10,34,92]⟩:ByteArray).extract 2 3) (b:=UInt8.ofNat 92) (by decide))
          have HTB2:=zb (((za HTB1).put 1 (.string ⟨(said++[UInt8.ofNat 92]).toArray⟩) (y:=⟨115,⟨(said++[UInt8.ofNat 92]).toArray⟩,0,il,ll⟩) rfl).drew)
          have hcat:¬9223372036854775807<said.length+1:=by omega
          clear hb2 h256 HP h92 h34 h10 hin hin2 e92
          go_upto_region 55 with (go_at_call 61;refine(ai2 (b:=92) (by decide) _).mono ?_;rintro e w1 ⟨rfl,hz⟩;obtain rfl:=hz.symm;rw[show escK 92=2 from rfl])
          go_region
          go_wp2_with fail
          go_roundg (s.size+2-(p+2))
          case measure=>omega
          case rel=>exact⟨p+2,said++[UInt8.ofNat 92],by go_num,by omega,by omega,rfl,by simp;omega,by rw[←za HSN] at HTB2;exact HTB2,HP2⟩
         ·have hkn:escK (zo s (p+1))=-1:=by unfold escK;rw[if_neg e110,if_neg e34,if_neg e92]
          have hRe:Sum.inl (p+1)=R:=by
           rw[←za HP]
           by_cases hin2:aci s (p+1)
           ·exact(apl hin h92 hin2 (by unfold ahf;rw[if_neg e110,if_neg e34,if_neg e92])).symm
           ·exact(al6 hin h92 hin2).symm
          have HADV2:Hid (abe (aa5 s v il ll)=.inl (3,p+1)):=by
           have:=za HAL
           rw[za HR,←hRe] at this
           exact this
          have HK:=zb hkn
          have HB2:=zb hb2
          clear hRe HP HAL hkn h92 h34 h10 hin e110 e34 e92 hb2
          go_upto_region 54 with (go_at_call 61;rw[za HB2];refine(ai2 h256 _).mono ?_;rintro e w1 ⟨rfl,hz⟩;obtain rfl:=hz.symm;rw[za HK])
          go_wp2_with fail
          have hq:Q=(acc,((3:Int),(((p+1):Nat):Int))):=by
           obtain⟨F,rfl⟩:∃F,Fu=F+1:=⟨Fu-1,by omega⟩
           exact agj ((za HADV).trans (za HADV2)) (za HQ)
          exact bodyPost_ret (v:=.tuple #[u4,.agg #[.int .i64 3,.int .i64 ((p+1:Nat):Int)]]) (by simp[results,Tryz.results31,go_sem,b0,b1]) rfl (agk (za HTB1) hq (by omega) _ _)
      ·have hq2:(s.size:Int)≤(p:Int)+1:=by omega
       have hRe:=(al6 (acc:=said) hin h92 (fun h=>hq1 h.1)).symm.trans (za HP)
       have HADV2:Hid (abe (aa5 s v il ll)=.inl (3,p+1)):=by
        have:=za HAL
        rw[za HR,←hRe] at this
        exact this
       clear hRe HP HAL h92 h34 h10 hin
       go_upto_region 54 with fail
       go_wp2_with fail
       have hq:Q=(acc,((3:Int),(((p+1):Nat):Int))):=by
        obtain⟨F,rfl⟩:∃F,Fu=F+1:=⟨Fu-1,by omega⟩
        exact agj ((za HADV).trans (za HADV2)) (za HQ)
       exact bodyPost_ret (v:=.tuple #[u4,.agg #[.int .i64 3,.int .i64 ((p+1:Nat):Int)]]) (by simp[results,Tryz.results31,go_sem,b0,b1]) rfl (agk (za HTB1) hq (by omega) _ _)
     ·have o92:¬((s[p].toNat:Nat):Int)=92:=by rw[hb];omega
      have m92:(((s[p].toNat:Nat):Int)==92)=false:=by simpa using o92
      have HP2:=zb ((amu (acc:=said) hin h34 h92).symm.trans (za HP))
      have hsn:=aj9 (l:=said) (avs hps)
      have HTB2:=zb (((za HTB1).put 1 (.string ⟨(said++[UInt8.ofNat (zo s p)]).toArray⟩) (y:=⟨115,⟨(said++[UInt8.ofNat (zo s p)]).toArray⟩,0,il,ll⟩) rfl).drew)
      have HSN:=zb hsn
      have hs1:(s.extract p (p+1)).size=1:=by rw[ByteArray.size_extract];omega
      have hcat:¬9223372036854775807<said.length+1:=by omega
      have hp3:(p:Int)≤(p:Int)+1:=by omega
      have hp4:(p:Int)+1≤(s.size:Int):=by omega
      clear hsn HP hb h92 h34 h10 hin
      go_upto_region 48 with fail
      go_region
      go_wp2_with fail
      go_roundg (s.size+2-(p+1))
      case measure=>omega
      case rel=>exact⟨p+1,said++[UInt8.ofNat (zo s p)],by go_num,by omega,by omega,rfl,by simp;omega,by rw[za HSN];exact HTB2,HP2⟩
  ·obtain rfl:p=s.size:=by omega
   have hpe:((s.size:Int)==(s.size:Int))=true:=by simp
   have hRe:=(ajh (acc:=said) (fun h:aci s s.size=>absurd h.1 (by omega))).symm.trans (za HP)
   have HADV2:Hid (abe (aa5 s v il ll)=.inl (3,s.size)):=by
    have:=za HAL
    rw[za HR,←hRe] at this
    exact this
   clear hRe HP HAL
   go_upto_region 44 with fail
   go_wp2_with fail
   have hq:Q=(acc,((3:Int),(((s.size):Nat):Int))):=by
    obtain⟨F,rfl⟩:∃F,Fu=F+1:=⟨Fu-1,by omega⟩
    exact agj ((za HADV).trans (za HADV2)) (za HQ)
   exact bodyPost_ret (v:=.tuple #[u4,.agg #[.int .i64 3,.int .i64 ((s.size:Nat):Int)]]) (by simp[results,Tryz.results31,go_sem,b0,b1]) rfl (agk (za HTB1) hq (by omega) _ _)
theorem ba9 {w:World} {s:ByteArray} {v:Value} {Q:List Tok×(Int×Int)} (henv:LexEnv w) (hs:s.size≤3000) {acc:List Tok} {il ll Fu gg:Nat} {u4:Value} {wr:World} (hil:il≤s.size) (hll:ll≤il+1) (hgg:gg=s.size-il+1) (hF:s.size-il<Fu) (hacc:acc.length≤il) (HAD:Hid (Add w wr)) (HB3:Hid (wr.heap[w.heap.size]?=some (.cells #[.int .i64 0,.int .i64 0] 25 (0,0)))) (HOW:Hid (wr.ownsRow (w.heap.size+1) 75 5 u4 acc.length (acc.flatMap aao))) (HQ:Hid ((acc++(abq Fu (atS s v il ll)).1,(abq Fu (atS s v il ll)).2)=Q)) (hlt:il<s.size) (c:Nat) (hc:c=s[il].toNat) (h10:¬c=10) (h32:¬c=32) (hl:¬lt (c:Int)=true) (hd:¬dg (c:Int)=true) (h34:¬c=34):(afy w s v Q).1 gg u4 (.int .i64 (ll:Int)) (.int .i64 (il:Int)) wr:=by
 have HENV:=zb henv
 obtain⟨i0,hi0,hz0,hz1,hz2⟩:=info_parts ahm
 have HE:=zb ((za HENV).keep fun k hk=>(za HAD).block k hk)
 clear henv
 have hne:((il:Int)==(s.size:Int))=false:=by simp;omega
 have hlt2:(il:Int)<(s.size:Int):=by omega
 have hc256:c<256:=by rw[hc];exact UInt8.toNat_lt _
 have HC:=zb hc
 have hnb:(c==32)=false:=by simp;exact h32
 have hnb2:(c==10)=false:=by simp;exact h10
 have HADV:=zb (alg (v:=v) (l:=ll) hlt (by rw[←hc];exact h10) (by rw[←hc];exact h32))
 have m32:(((s[il].toNat:Nat):Int)==32)=false:=by rw[←hc];simp;omega
 have m10:(((s[il].toNat:Nat):Int)==10)=false:=by rw[←hc];simp;omega
 have o32:¬((s[il].toNat:Nat):Int)=32:=by rw[←hc];omega
 have o10:¬((s[il].toNat:Nat):Int)=10:=by rw[←hc];omega
 clear hc
 have n32:(((c:Nat):Int)==32)=false:=by simp;omega
 have n10:(((c:Nat):Int)==10)=false:=by simp;omega
 delta afy
 intro _
 intros
 rename_i J K hJ hK
 have hl2:lt (c:Int)=false:=by simpa using hl
 have hd2:dg (c:Int)=false:=by simpa using hd
 have hdc:dg ((s[il].toNat:Nat):Int)=false:=by rw[←za HC];exact hd2
 have hlc:lt ((s[il].toNat:Nat):Int)=false:=by rw[←za HC];exact hl2
 have h34c:s[il].toNat≠34:=by rw[←za HC];exact h34
 have n34:((c:Int)==34)=false:=by simp;omega
 have HAL:=zb (bcu (v:=v) (ll:=ll) hlt hlc hdc h34c)
 have HTB0:=zb (TB.start (za HAD) (za HB3) (za HOW) il ll)
 have t0:(wr.alloc (.cells #[.int .u8 0,.string ⟨#[]⟩,.int .i64 0,.int .i64 (il:Int),.int .i64 (ll:Int)] 75)).cell? ⟨wr.heap.size,0,none⟩=some (.int .u8 0):=zd (za HTB0).box 0
 have fz:=zp (za HTB0).box
 obtain⟨wo,hwo⟩:∃wo,wo=wr:=⟨_,rfl⟩
 subst hwo
 go_wp2_with fail
 rw[←za HC]
 refine(ahl (c:Int) _).mono ?_
 rintro e wz ⟨rfl,rfl⟩
 rw[hl2]
 go_wp2_with fail
 refine(aio (c:Int) _).mono ?_
 rintro e wz ⟨rfl,rfl⟩
 rw[hd2]
 clear hl hl2 hd hd2
 generalize (wo.alloc (.cells #[.int .u8 0,.string ⟨#[]⟩,.int .i64 0,.int .i64 (il:Int),.int .i64 (ll:Int)] 75))=W0 at *
 have HTB1:=zb (((za HTB0).put 0 (.int .u8 120) (y:=⟨120,⟨#[]⟩,0,il,ll⟩) rfl))
 have HGS:=zb (show W0.heap.size=(W0.setCell ⟨wo.heap.size,0,none⟩ (.int .u8 120)).heap.size by simp[World.setCell])
 go_upto_region 13 with fail
 clear t0 fz HTB0
 generalize (W0.setCell ⟨wo.heap.size,0,none⟩ (.int .u8 120))=W1 at *
 have HTB2:=zb ((za HTB1).keep ((Add.refl W1).alloc (.cells #[.string ⟨#[124,124]⟩,.string ⟨#[38,38]⟩,.string ⟨#[61,61]⟩] 9)))
 have HGB:=zb (aaq W1 (.cells #[.string ⟨#[124,124]⟩,.string ⟨#[38,38]⟩,.string ⟨#[61,61]⟩] 9))
 obtain⟨gs,hgs⟩:∃gs,gs=W1.heap.size:=⟨_,rfl⟩
 rw[←hgs] at HGB
 have hbs:wo.heap.size<gs:=by rw[hgs];exact(gtE (za HTB1).box).1
 go_wp2_with fail
 rw[←hgs]
 clear hgs HTB1 HGS
 generalize (W1.alloc (.cells #[.string ⟨#[124,124]⟩,.string ⟨#[38,38]⟩,.string ⟨#[61,61]⟩] 9))=W2 at *
 go_loopg [46] 4 (fun gg i wz=>∃k:Nat,i=.int .i64 (k:Int)∧k≤3∧gg=4-k∧Hid (TB w wo wz u4 acc ⟨120,ad7 s il k,0,il,ll⟩)∧Hid (wz.heap[gs]?=some (.cells #[.string ⟨#[124,124]⟩,.string ⟨#[38,38]⟩,.string ⟨#[61,61]⟩] 9 (0,0))))
 case atStart=>exact⟨0,rfl,by omega,rfl,HTB2,HGB⟩
 case round =>
  clear HTB2 HGB
  obtain⟨k,rfl,hk3,hgk,HTB3,HG3⟩:=hrel
  by_cases hk:k<3
  ·have hki:(k:Int)<3:=by omega
   have cx:wr.cell? ⟨gs,k,none⟩=some (.string (twins[k]?.getD ByteArray.empty)):=by
    have:=zd (za HG3) k
    rw[this]
    match k,hk with
    | 0,_=>rfl
    | 1,_=>rfl
    | 2,_=>rfl
   have hls:(il:Int)≤(s.size:Int):=by omega
   cases htw:aef s il k
   ·go_wp2_with (go_at_call 62;refine(ag6 s k il _ htw).mono ?_;rintro e w1 ⟨rfl,rfl⟩)
    go_roundg (4-(k+1))
    case measure=>omega
    case rel=>exact⟨k+1,by go_num,by omega,rfl,by rw[ad7,if_neg (by rw[htw];decide)];exact HTB3,HG3⟩
   ·have t1:wr.cell? ⟨wo.heap.size,1,none⟩=some (.string (ad7 s il k)):=zd (za HTB3).box 1
    have fz:=zp (za HTB3).box
    go_wp2_with (go_at_call 62;refine(ag6 s k il _ htw).mono ?_;rintro e w1 ⟨rfl,rfl⟩)
    go_roundg (4-(k+1))
    case measure=>omega
    case rel=>exact⟨k+1,by go_num,by omega,rfl,by rw[ad7,if_pos htw];exact(za HTB3).put 1 (.string (twins[k]?.getD ByteArray.empty)) rfl,(aaf _ (by omega)).trans (za HG3)⟩
  ·obtain rfl:k=3:=by omega
   have hki:¬((3:Nat):Int)<3:=by omega
   clear HG3
   cases h2:aef s il 2
   ·cases h1:aef s il 1
    ·cases h0:aef s il 0
     ·have hall:∀k,k<3→aef s il k=false:=fun k hk=>by
       match k,hk with
       | 0,_=>exact h0
       | 1,_=>exact h1
       | 2,_=>exact h2
      have htx:ad7 s il 3=⟨#[]⟩:=by rw[ad7,if_neg (by rw[h2];decide),ad7,if_neg (by rw[h1];decide),ad7,if_neg (by rw[h0];decide),ad7]
      rw[htx] at HTB3
      have t1:wr.cell? ⟨wo.heap.size,1,none⟩=some (.string ⟨#[]⟩):=zd (za HTB3).box 1
      have fz:=zp (za HTB3).box
      obtain⟨vi,hvi⟩:∃vi:Int,(Lib.indexByte ah4.data.toList ((c:Nat):Int).toNat.toUInt8:Int)=vi:=⟨_,rfl⟩
      have HVI:=zb hvi
      have hvi2:(Lib.indexByte ah4.data.toList ((s[il].toNat:Nat):Int).toNat.toUInt8:Int)=vi:=by rw[←za HC];exact hvi
      by_cases hge:0≤vi
      ·have hsg:=apj hall hlt (by rw[hvi2];exact hge)
       have HADV2:Hid (abe (aa5 s v il ll)=.inr { aa5 s v il ll with pl:=il+1,kd:=1,mrk:=s.extract il (il+1) }):=by
        have:=za HAL
        rw[hsg,if_neg (by decide)] at this
        exact this
       have hNW:=zb (axc (t:=s.extract il (il+1)) (by rw[ByteArray.size_extract];omega))
       have hls1:(il:Int)≤(il:Int)+1:=by omega
       have hls2:(il:Int)+1≤(s.size:Int):=by omega
       have hsz1:(s.extract il (il+1)).size=1:=by rw[ByteArray.size_extract];omega
       clear hvi hvi2 hsg HAL hall h0 h1 h2 htx
       go_upto_region 20 with (go_at_call 61;refine(aho (c:Int) vi _ HVI).mono ?_;rintro e w1 ⟨rfl,hz⟩;obtain rfl:=hz.symm)
       have HTB:=zb ((za HTB3).put 1 (.string (s.extract il (il+1))) (y:=⟨120,s.extract il (il+1),0,il,ll⟩) rfl)
       have k1':(wr.setCell ⟨wo.heap.size,1,none⟩ (.string (s.extract il (il+1)))).cell? ⟨wo.heap.size,1,none⟩=some (.string (s.extract il (il+1))):=zd (za HTB).box 1
       have hne:((s.extract il (il+1)).toList==(⟨#[]⟩:ByteArray).toList)=false:=by
        cases q:((s.extract il (il+1)).toList==(⟨#[]⟩:ByteArray).toList)
        ·rfl
        ·rw[ap2] at q
         rw[q] at hsz1
         exact absurd hsz1 (by decide)
       have hne3:(s.extract il (il+1)).toList.isEmpty=false:=by
        rw[ByteArray.toList_eq]
        cases q:(s.extract il (il+1)).data.toList with
        | nil =>
         exfalso
         have:(s.extract il (il+1)).data.toList.length=1:=hsz1
         rw[q] at this
         cases this
        | cons a r=>rfl
       go_upto_region 58 with fail
       clear t1 fz k1' hne hne3 hls1 hls2 hsz1 HTB3
       generalize (wr.setCell ⟨wo.heap.size,1,none⟩ (.string (s.extract il (il+1))))=W at *
       obtain⟨k0,k1,k2,k3,k4⟩:W.cell? ⟨wo.heap.size,0,none⟩=some (.int .u8 (120:Nat))∧W.cell? ⟨wo.heap.size,1,none⟩=some (.string (s.extract il (il+1)))∧W.cell? ⟨wo.heap.size,2,none⟩=some (.int .i64 0)∧W.cell? ⟨wo.heap.size,3,none⟩=some (.int .i64 (il:Int))∧W.cell? ⟨wo.heap.size,4,none⟩=some (.int .i64 (ll:Int)):=⟨zd (za HTB).box 0,zd (za HTB).box 1,zd (za HTB).box 2,zd (za HTB).box 3,zd (za HTB).box 4⟩
       have HOA:=zb (((za HTB).own).alloc (.cells #[.int .u8 (120:Nat),.string (s.extract il (il+1)),.int .i64 0,.int .i64 (il:Int),.int .i64 (ll:Int)] 75))
       have hacc3:acc.length≤3000:=by omega
       go_wp2_with (at_builtin;refine wpList_append_lies _ rfl _ _ _ rfl (w.heap.size+1) 75 i0 (.agg #[.int .u8 0,.string ByteArray.empty,.int .i64 0,.int .i64 0,.int .i64 0]) 5 48 underlying67 hi0 hz0 hz1 hz2 rfl (by decide) _ acc.length (acc.flatMap aao) rfl (za HOA) ⟨W.heap.size,0,none⟩ 1 1 [.int .u8 (120:Nat),.string (s.extract il (il+1)),.int .i64 0,.int .i64 (il:Int),.int .i64 (ll:Int)] rfl rfl (World.news_of_block (aaq _ _)) ?t7c2 (by decide) ?t7c3 ?t7c4 ?t7c5 (W.heap.size+1) ?t7c6 ?_)
       case t7c2=>first | exact⟨rfl,rfl,rfl,rfl,rfl⟩ | (intro u hu;simp at hu;rcases hu with rfl | rfl | rfl | rfl | rfl <;> rfl)
       case t7c3=>unfold maxLen;omega
       case t7c4=>omega
       case t7c5=>have:=(za HTB).far;have:=(gtE (za HTB).box).1;simp;omega
       try case t7c6=>simp
       intro g cap w3 hown hgrow hat hlt3
       obtain⟨had,hb3⟩:=afw (za HTB).add (za HTB).b3 (za HTB).own hgrow
       have HT1:=zb had
       have HT2:=zb hb3
       have HT3:=zb hown
       clear had hb3 hown hgrow hat hlt3 k0 k1 k2 k3 k4 HOA
       go_wp2_with fail
       go_roundg (s.size-(il+1)+1)
       case measure=>omega
       case rel=>exact ag4 (T:={ aa5 s v il ll with pl:=il+1,kd:=1,mrk:=s.extract il (il+1) }) (x:=⟨120,(s.extract il (il+1)),0,il,ll⟩) ((za HADV).trans (za HADV2)) (show (_:Nat)≠0 from Nat.one_ne_zero) rfl rfl rfl rfl rfl (af8 rfl (by show ¬isW (s.extract il (il+1))=true;rw[za hNW];decide)) (za HQ) (by omega) (by omega) hll hF hacc (za HT1) (za HT2) (za HT3)
      ·have hsg:=apk hall hlt (by rw[hvi2];exact hge)
       have HADV2:Hid (abe (aa5 s v il ll)=.inl (3,il)):=by
        have:=za HAL
        rw[hsg,if_pos rfl] at this
        exact this
       have HTB1:=HTB3
       have b0:wr.cell? ⟨w.heap.size,0,none⟩=some (.int .i64 0):=zd (za HTB1).b3 0
       have b1:wr.cell? ⟨w.heap.size,1,none⟩=some (.int .i64 0):=zd (za HTB1).b3 1
       have fz3:=zp (za HTB1).b3
       have hge2:vi<0:=by omega
       clear hvi hvi2 hsg HAL hall h0 h1 h2 htx
       go_upto_region 22 with (go_at_call 61;refine(aho (c:Int) vi _ HVI).mono ?_;rintro e w1 ⟨rfl,hz⟩;obtain rfl:=hz.symm)
       go_wp2_with fail
       have hq:Q=(acc,((3:Int),(((il):Nat):Int))):=by
        obtain⟨F,rfl⟩:∃F,Fu=F+1:=⟨Fu-1,by omega⟩
        exact agj ((za HADV).trans (za HADV2)) (za HQ)
       exact bodyPost_ret (v:=.tuple #[u4,.agg #[.int .i64 3,.int .i64 ((il:Nat):Int)]]) (by simp[results,Tryz.results31,go_sem,b0,b1]) rfl (agk (za HTB1) hq (by omega) _ _)
     ·have htx:ad7 s il 3=⟨#[124,124]⟩:=by rw[ad7,if_neg (by rw[h2];decide),ad7,if_neg (by rw[h1];decide),ad7,if_pos h0];rfl
      have hsg:=aiq (by omega) h0
      obtain⟨hle,hext⟩:=amn (a:=124) (b:=124) (il:=il) (s:=s) h0
      rw[htx] at HTB3
      have HADV2:Hid (abe (aa5 s v il ll)=.inr { aa5 s v il ll with pl:=il+2,kd:=1,mrk:=⟨#[124,124]⟩ }):=by
       have:=za HAL
       rw[hsg,if_neg (by decide),hext] at this
       exact this
      have t1:wr.cell? ⟨wo.heap.size,1,none⟩=some (.string ⟨#[124,124]⟩):=zd (za HTB3).box 1
      have HTB:=HTB3
      clear HTB3 HAL hsg htx hext
      go_upto_region 58 with fail
      clear t1
      obtain⟨k0,k1,k2,k3,k4⟩:wr.cell? ⟨wo.heap.size,0,none⟩=some (.int .u8 (120:Nat))∧wr.cell? ⟨wo.heap.size,1,none⟩=some (.string ⟨#[124,124]⟩)∧wr.cell? ⟨wo.heap.size,2,none⟩=some (.int .i64 0)∧wr.cell? ⟨wo.heap.size,3,none⟩=some (.int .i64 (il:Int))∧wr.cell? ⟨wo.heap.size,4,none⟩=some (.int .i64 (ll:Int)):=⟨zd (za HTB).box 0,zd (za HTB).box 1,zd (za HTB).box 2,zd (za HTB).box 3,zd (za HTB).box 4⟩
      have HOA:=zb (((za HTB).own).alloc (.cells #[.int .u8 (120:Nat),.string ⟨#[124,124]⟩,.int .i64 0,.int .i64 (il:Int),.int .i64 (ll:Int)] 75))
      have hacc3:acc.length≤3000:=by omega
      go_wp2_with (at_builtin;refine wpList_append_lies _ rfl _ _ _ rfl (w.heap.size+1) 75 i0 (.agg #[.int .u8 0,.string ByteArray.empty,.int .i64 0,.int .i64 0,.int .i64 0]) 5 48 underlying67 hi0 hz0 hz1 hz2 rfl (by decide) _ acc.length (acc.flatMap aao) rfl (za HOA) ⟨wr.heap.size,0,none⟩ 1 1 [.int .u8 (120:Nat),.string ⟨#[124,124]⟩,.int .i64 0,.int .i64 (il:Int),.int .i64 (ll:Int)] rfl rfl (World.news_of_block (aaq _ _)) ?t4c2 (by decide) ?t4c3 ?t4c4 ?t4c5 (wr.heap.size+1) ?t4c6 ?_)
      case t4c2=>first | exact⟨rfl,rfl,rfl,rfl,rfl⟩ | (intro u hu;simp at hu;rcases hu with rfl | rfl | rfl | rfl | rfl <;> rfl)
      case t4c3=>unfold maxLen;omega
      case t4c4=>omega
      case t4c5=>have:=(za HTB).far;have:=(gtE (za HTB).box).1;simp;omega
      try case t4c6=>simp
      intro g cap w3 hown hgrow hat hlt3
      obtain⟨had,hb3⟩:=afw (za HTB).add (za HTB).b3 (za HTB).own hgrow
      have HT1:=zb had
      have HT2:=zb hb3
      have HT3:=zb hown
      clear had hb3 hown hgrow hat hlt3 k0 k1 k2 k3 k4 HOA
      go_wp2_with fail
      go_roundg (s.size-(il+2)+1)
      case measure=>omega
      case rel=>exact ag4 (T:={ aa5 s v il ll with pl:=il+2,kd:=1,mrk:=⟨#[124,124]⟩ }) (x:=⟨120,⟨#[124,124]⟩,0,il,ll⟩) ((za HADV).trans (za HADV2)) (show (_:Nat)≠0 from Nat.one_ne_zero) rfl rfl rfl rfl rfl (af8 rfl (by show ¬isW ⟨#[124,124]⟩=true;rw[isW_or];decide)) (za HQ) (by omega) (by omega) hll hF hacc (za HT1) (za HT2) (za HT3)
    ·have htx:ad7 s il 3=⟨#[38,38]⟩:=by rw[ad7,if_neg (by rw[h2];decide),ad7,if_pos h1];rfl
     have hsg:=aiq (by omega) h1
     obtain⟨hle,hext⟩:=amn (a:=38) (b:=38) (il:=il) (s:=s) h1
     rw[htx] at HTB3
     have HADV2:Hid (abe (aa5 s v il ll)=.inr { aa5 s v il ll with pl:=il+2,kd:=1,mrk:=⟨#[38,38]⟩ }):=by
      have:=za HAL
      rw[hsg,if_neg (by decide),hext] at this
      exact this
     have t1:wr.cell? ⟨wo.heap.size,1,none⟩=some (.string ⟨#[38,38]⟩):=zd (za HTB3).box 1
     have HTB:=HTB3
     clear HTB3 HAL hsg htx hext
     go_upto_region 58 with fail
     clear t1
     obtain⟨k0,k1,k2,k3,k4⟩:wr.cell? ⟨wo.heap.size,0,none⟩=some (.int .u8 (120:Nat))∧wr.cell? ⟨wo.heap.size,1,none⟩=some (.string ⟨#[38,38]⟩)∧wr.cell? ⟨wo.heap.size,2,none⟩=some (.int .i64 0)∧wr.cell? ⟨wo.heap.size,3,none⟩=some (.int .i64 (il:Int))∧wr.cell? ⟨wo.heap.size,4,none⟩=some (.int .i64 (ll:Int)):=⟨zd (za HTB).box 0,zd (za HTB).box 1,zd (za HTB).box 2,zd (za HTB).box 3,zd (za HTB).box 4⟩
     have HOA:=zb (((za HTB).own).alloc (.cells #[.int .u8 (120:Nat),.string ⟨#[38,38]⟩,.int .i64 0,.int .i64 (il:Int),.int .i64 (ll:Int)] 75))
     have hacc3:acc.length≤3000:=by omega
     go_wp2_with (at_builtin;refine wpList_append_lies _ rfl _ _ _ rfl (w.heap.size+1) 75 i0 (.agg #[.int .u8 0,.string ByteArray.empty,.int .i64 0,.int .i64 0,.int .i64 0]) 5 48 underlying67 hi0 hz0 hz1 hz2 rfl (by decide) _ acc.length (acc.flatMap aao) rfl (za HOA) ⟨wr.heap.size,0,none⟩ 1 1 [.int .u8 (120:Nat),.string ⟨#[38,38]⟩,.int .i64 0,.int .i64 (il:Int),.int .i64 (ll:Int)] rfl rfl (World.news_of_block (aaq _ _)) ?t5c2 (by decide) ?t5c3 ?t5c4 ?t5c5 (wr.heap.size+1) ?t5c6 ?_)
     case t5c2=>first | exact⟨rfl,rfl,rfl,rfl,rfl⟩ | (intro u hu;simp at hu;rcases hu with rfl | rfl | rfl | rfl | rfl <;> rfl)
     case t5c3=>unfold maxLen;omega
     case t5c4=>omega
     case t5c5=>have:=(za HTB).far;have:=(gtE (za HTB).box).1;simp;omega
     try case t5c6=>simp
     intro g cap w3 hown hgrow hat hlt3
     obtain⟨had,hb3⟩:=afw (za HTB).add (za HTB).b3 (za HTB).own hgrow
     have HT1:=zb had
     have HT2:=zb hb3
     have HT3:=zb hown
     clear had hb3 hown hgrow hat hlt3 k0 k1 k2 k3 k4 HOA
     go_wp2_with fail
     go_roundg (s.size-(il+2)+1)
     case measure=>omega
     case rel=>exact ag4 (T:={ aa5 s v il ll with pl:=il+2,kd:=1,mrk:=⟨#[38,38]⟩ }) (x:=⟨120,⟨#[38,38]⟩,0,il,ll⟩) ((za HADV).trans (za HADV2)) (show (_:Nat)≠0 from Nat.one_ne_zero) rfl rfl rfl rfl rfl (af8 rfl (by show ¬isW ⟨#[38,38]⟩=true;rw[isW_and];decide)) (za HQ) (by omega) (by omega) hll hF hacc (za HT1) (za HT2) (za HT3)
   ·have htx:ad7 s il 3=⟨#[61,61]⟩:=by rw[ad7,if_pos h2];rfl
    have hsg:=aiq (by omega) h2
    obtain⟨hle,hext⟩:=amn (a:=61) (b:=61) (il:=il) (s:=s) h2
    rw[htx] at HTB3
    have HADV2:Hid (abe (aa5 s v il ll)=.inr { aa5 s v il ll with pl:=il+2,kd:=1,mrk:=⟨#[61,61]⟩ }):=by
     have:=za HAL
     rw[hsg,if_neg (by decide),hext] at this
     exact this
    have t1:wr.cell? ⟨wo.heap.size,1,none⟩=some (.string ⟨#[61,61]⟩):=zd (za HTB3).box 1
    have HTB:=HTB3
    clear HTB3 HAL hsg htx hext
    go_upto_region 58 with fail
    clear t1
    obtain⟨k0,k1,k2,k3,k4⟩:wr.cell? ⟨wo.heap.size,0,none⟩=some (.int .u8 (120:Nat))∧wr.cell? ⟨wo.heap.size,1,none⟩=some (.string ⟨#[61,61]⟩)∧wr.cell? ⟨wo.heap.size,2,none⟩=some (.int .i64 0)∧wr.cell? ⟨wo.heap.size,3,none⟩=some (.int .i64 (il:Int))∧wr.cell? ⟨wo.heap.size,4,none⟩=some (.int .i64 (ll:Int)):=⟨zd (za HTB).box 0,zd (za HTB).box 1,zd (za HTB).box 2,zd (za HTB).box 3,zd (za HTB).box 4⟩
    have HOA:=zb (((za HTB).own).alloc (.cells #[.int .u8 (120:Nat),.string ⟨#[61,61]⟩,.int .i64 0,.int .i64 (il:Int),.int .i64 (ll:Int)] 75))
    have hacc3:acc.length≤3000:=by omega
    go_wp2_with (at_builtin;refine wpList_append_lies _ rfl _ _ _ rfl (w.heap.size+1) 75 i0 (.agg #[.int .u8 0,.string ByteArray.empty,.int .i64 0,.int .i64 0,.int .i64 0]) 5 48 underlying67 hi0 hz0 hz1 hz2 rfl (by decide) _ acc.length (acc.flatMap aao) rfl (za HOA) ⟨wr.heap.size,0,none⟩ 1 1 [.int .u8 (120:Nat),.string ⟨#[61,61]⟩,.int .i64 0,.int .i64 (il:Int),.int .i64 (ll:Int)] rfl rfl (World.news_of_block (aaq _ _)) ?t6c2 (by decide) ?t6c3 ?t6c4 ?t6c5 (wr.heap.size+1) ?t6c6 ?_)
    case t6c2=>first | exact⟨rfl,rfl,rfl,rfl,rfl⟩ | (intro u hu;simp at hu;rcases hu with rfl | rfl | rfl | rfl | rfl <;> rfl)
    case t6c3=>unfold maxLen;omega
    case t6c4=>omega
    case t6c5=>have:=(za HTB).far;have:=(gtE (za HTB).box).1;simp;omega
    try case t6c6=>simp
    intro g cap w3 hown hgrow hat hlt3
    obtain⟨had,hb3⟩:=afw (za HTB).add (za HTB).b3 (za HTB).own hgrow
    have HT1:=zb had
    have HT2:=zb hb3
    have HT3:=zb hown
    clear had hb3 hown hgrow hat hlt3 k0 k1 k2 k3 k4 HOA
    go_wp2_with fail
    go_roundg (s.size-(il+2)+1)
    case measure=>omega
    case rel=>exact ag4 (T:={ aa5 s v il ll with pl:=il+2,kd:=1,mrk:=⟨#[61,61]⟩ }) (x:=⟨120,⟨#[61,61]⟩,0,il,ll⟩) ((za HADV).trans (za HADV2)) (show (_:Nat)≠0 from Nat.one_ne_zero) rfl rfl rfl rfl rfl (af8 rfl (by show ¬isW ⟨#[61,61]⟩=true;rw[bcv];decide)) (za HQ) (by omega) (by omega) hll hF hacc (za HT1) (za HT2) (za HT3)
end Go.Proofs.YtndgajlidckcdaaGreatDoor
