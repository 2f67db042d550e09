/- A part. -/
import Derived.Test.YtndgajlidckcdaaGreatDoorM41
open Go.Proofs.Tryz
namespace Go.Proofs.YtndgajlidckcdaaGreatDoor
open Go.RowKit
set_option linter.unusedVariables false
set_option linter.unusedSimpArgs false
set_option maxRecDepth 100000
set_option maxHeartbeats 8000000
theorem bba {w:World} {s:ByteArray} {v:Value} {Q:List Tok×(Int×Int)} (henv:LexEnv w) (hs:s.size≤3000) {acc:List Tok} {il ll Fu gg:Nat} {u4:Value} {wr:World} (hil:il≤s.size) (hll:ll≤il+1) (hgg:gg=s.size-il+1) (hF:s.size-il<Fu) (hacc:acc.length≤il) (HAD:Hid (Add w wr)) (HB3:Hid (wr.heap[w.heap.size]?=some (.cells #[.int .i64 0,.int .i64 0] 25 (0,0)))) (HOW:Hid (wr.ownsRow (w.heap.size+1) 75 5 u4 acc.length (acc.flatMap aao))) (HQ:Hid ((acc++(abq Fu (atS s v il ll)).1,(abq Fu (atS s v il ll)).2)=Q)) (hlt:il<s.size) (c:Nat) (hc:c=s[il].toNat) (h10:c=10):(afy w s v Q).1 gg u4 (.int .i64 (ll:Int)) (.int .i64 (il:Int)) wr:=by
 have HENV:=zb henv
 obtain⟨i0,hi0,hz0,hz1,hz2⟩:=info_parts ahm
 have HE:=zb ((za HENV).keep fun k hk=>(za HAD).block k hk)
 clear henv
 have hne:((il:Int)==(s.size:Int))=false:=by simp;omega
 have hlt2:(il:Int)<(s.size:Int):=by omega
 have hc256:c<256:=by rw[hc];exact UInt8.toNat_lt _
 have HC:=zb hc
 have h10':s[il].toNat=10:=by rw[←hc];exact h10
 clear hc
 delta afy
 intro _
 intros
 rename_i J K hJ hK
 go_wp2_with fail
 go_roundg (s.size-(il+1)+1)
 case measure=>omega
 case rel=>exact⟨acc,il+1,ll+1,Fu,by go_num,by go_num,by omega,by omega,rfl,by omega,by omega,HAD,HB3,HOW,by rw[←bcs hlt h10' Fu];exact HQ⟩
theorem aya {w:World} {s:ByteArray} {v:Value} {Q:List Tok×(Int×Int)} (henv:LexEnv w) (hs:s.size≤3000) {acc:List Tok} {il ll Fu gg:Nat} {u4:Value} {wr:World} (hil:il≤s.size) (hll:ll≤il+1) (hgg:gg=s.size-il+1) (hF:s.size-il<Fu) (hacc:acc.length≤il) (HAD:Hid (Add w wr)) (HB3:Hid (wr.heap[w.heap.size]?=some (.cells #[.int .i64 0,.int .i64 0] 25 (0,0)))) (HOW:Hid (wr.ownsRow (w.heap.size+1) 75 5 u4 acc.length (acc.flatMap aao))) (HQ:Hid ((acc++(abq Fu (atS s v il ll)).1,(abq Fu (atS s v il ll)).2)=Q)) (hlt:il<s.size) (c:Nat) (hc:c=s[il].toNat) (h10:¬c=10) (h32:c=32):(afy w s v Q).1 gg u4 (.int .i64 (ll:Int)) (.int .i64 (il:Int)) wr:=by
 have HENV:=zb henv
 obtain⟨i0,hi0,hz0,hz1,hz2⟩:=info_parts ahm
 have HE:=zb ((za HENV).keep fun k hk=>(za HAD).block k hk)
 clear henv
 have hne:((il:Int)==(s.size:Int))=false:=by simp;omega
 have hlt2:(il:Int)<(s.size:Int):=by omega
 have hc256:c<256:=by rw[hc];exact UInt8.toNat_lt _
 have HC:=zb hc
 have h32':s[il].toNat=32:=by rw[←hc];exact h32
 clear hc
 delta afy
 intro _
 intros
 rename_i J K hJ hK
 go_wp2_with fail
 go_roundg (s.size-(il+1)+1)
 case measure=>omega
 case rel=>exact⟨acc,il+1,ll,Fu,by go_num,rfl,by omega,by omega,rfl,by omega,by omega,HAD,HB3,HOW,by rw[←azt hlt h32' Fu];exact HQ⟩
theorem bdu {w:World} {s:ByteArray} {v:Value} {Q:List Tok×(Int×Int)} (henv:LexEnv w) (hs:s.size≤3000) {acc:List Tok} {il ll Fu gg:Nat} {u4:Value} {wr:World} (hil:il≤s.size) (hll:ll≤il+1) (hgg:gg=s.size-il+1) (hF:s.size-il<Fu) (hacc:acc.length≤il) (HAD:Hid (Add w wr)) (HB3:Hid (wr.heap[w.heap.size]?=some (.cells #[.int .i64 0,.int .i64 0] 25 (0,0)))) (HOW:Hid (wr.ownsRow (w.heap.size+1) 75 5 u4 acc.length (acc.flatMap aao))) (HQ:Hid ((acc++(abq Fu (atS s v il ll)).1,(abq Fu (atS s v il ll)).2)=Q)) (hlt:¬il<s.size):(afy w s v Q).1 gg u4 (.int .i64 (ll:Int)) (.int .i64 (il:Int)) wr:=by
 have HENV:=zb henv
 obtain⟨i0,hi0,hz0,hz1,hz2⟩:=info_parts ahm
 have HE:=zb ((za HENV).keep fun k hk=>(za HAD).block k hk)
 clear henv
 obtain rfl:il=s.size:=by omega
 delta afy
 intro _
 intros
 rename_i J K hJ hK
 obtain⟨tf,ff,hfb⟩:=(za HE).fine
 have hf0:wr.cell? ⟨0,0,none⟩=some (.int .i64 0):=zd hfb 0
 have hf1:wr.cell? ⟨0,1,none⟩=some (.int .i64 (-1)):=zd hfb 1
 have hgl:0<wr.heap.size:=(gtE hfb).1
 have hgw:0<w.heap.size:=by
  obtain⟨_,_,h⟩:=(za HENV).fine
  exact(gtE h).1
 have hsz:w.heap.size<wr.heap.size:=(gtE (za HB3)).1
 have hacc3:acc.length≤3000:=by omega
 have hq:Q=(acc++[⟨101,⟨#[]⟩,0,s.size,ll⟩],(0,-1)):=by
  obtain⟨F,rfl⟩:∃F,Fu=F+1:=⟨Fu-1,by omega⟩
  exact lex_end (za HQ)
 have HQ2:=zb hq
 clear hq hlt
 have heq:((s.size:Int)==(s.size:Int))=true:=by simp
 go_wp2_with fail
 refine wp_region_held_drew (S:=fun w'=>w'.cell? ⟨0,0,none⟩=some (.int .i64 0)∧w'.cell? ⟨0,1,none⟩=some (.int .i64 (-1))) (by kernel_rfl) ⟨hf0,hf1⟩ (fun hHeld=>?_)
 refine tka 0 18 rfl ?_
 refine tka 1 19 rfl ?_
 refine tka 2 20 rfl ?_
 refine tka 3 21 rfl ?_
 refine tka 6 24 rfl ?_
 simp only[sA,sB,sC]
 refine wpAnyH_ready (rs:=[4]) (by kernel_rfl) (by simp) ?_
 refine AllReadyH.cons (o:={ dst:=some 22,op:=_,type:=_,pos:=_,after:=_,guard:=_ }) rfl (fun K hK=>?_) AllReadyH.nil
 go_simp
 refine hK.out _ _ ⟨(World.cell?_of_block (aam _ _ hgl)).trans hf0,(World.cell?_of_block (aam _ _ hgl)).trans hf1⟩ (fun hHeld4=>?_)
 clear hK K
 refine wpAnyH_ready (rs:=[5]) (by kernel_rfl) (by simp) ?_
 refine AllReadyH.cons (o:={ dst:=some 23,op:=_,type:=_,pos:=_,after:=_,guard:=_ }) rfl (fun K hK=>?_) AllReadyH.nil
 refine step_append_lies _ rfl _ _ _ rfl (w.heap.size+1) 75 i0 (.agg #[.int .u8 0,.string ByteArray.empty,.int .i64 0,.int .i64 0,.int .i64 0]) 5 48 underlying67 hi0 hz0 hz1 hz2 rfl (by decide) _ acc.length (acc.flatMap aao) rfl ((za HOW).drew.alloc _) ⟨wr.heap.size,0,none⟩ 1 1 [.int .u8 101,.string ⟨#[]⟩,.int .i64 0,.int .i64 (s.size:Int),.int .i64 (ll:Int)] rfl rfl (World.news_of_block (aaq _ _)) ?c2 (by decide) ?c3 ?c4 ?c5 (wr.heap.size+1) ?c6 ?_
 case c2=>intro u hu;simp at hu;rcases hu with rfl | rfl | rfl | rfl | rfl <;> rfl
 case c3=>unfold maxLen;omega
 case c4=>omega
 case c5=>simp;omega
 try case c6=>simp
 intro g cap w3 hown hgrow hat hlt3
 obtain⟨had,hb3⟩:=afw (W:=wr.drew) (show Add w wr.drew from ⟨(za HAD).os,(za HAD).tape,(za HAD).output,(za HAD).size,(za HAD).block⟩) (za HB3) (za HOW).drew hgrow
 have HT1:=zb had
 have HT3:=zb hown
 have z0:w3.cell? ⟨w.heap.size,0,none⟩=some (.int .i64 0):=zd hb3 0
 have z1:w3.cell? ⟨w.heap.size,1,none⟩=some (.int .i64 0):=zd hb3 1
 have zf:=zp hb3
 have y0:w3.cell? ⟨0,0,none⟩=some (.int .i64 0):=(World.cell?_of_block ((had.block _ hgw).trans ((za HAD).block _ hgw).symm)).trans hf0
 have y1:w3.cell? ⟨0,1,none⟩=some (.int .i64 (-1)):=(World.cell?_of_block ((had.block _ hgw).trans ((za HAD).block _ hgw).symm)).trans hf1
 clear had hb3 hown hgrow hat hlt3
 refine hK.out _ _ ⟨y0,y1⟩ (fun hHeld5=>?_)
 clear hK K
 simp only[Act.put,sA,sB,sC]
 refine tka 7 2 rfl ?_
 simp only[sA,sB,sC]
 refine wpAnyH_ready (rs:=[8]) (by kernel_rfl) (by simp) ?_
 refine AllReadyH.cons (o:={ dst:=none,op:=_,type:=_,pos:=_,after:=_,guard:=_ }) rfl (fun K hK=>?_) AllReadyH.nil
 go_simp
 refine hK.out _ _ ⟨(World.cell?_of_block ((aaf _ (show 0≠w.heap.size by omega)).trans (aaf _ (show 0≠w.heap.size by omega)))).trans y0,(World.cell?_of_block ((aaf _ (show 0≠w.heap.size by omega)).trans (aaf _ (show 0≠w.heap.size by omega)))).trans y1⟩ (fun hHeld8=>?_)
 clear hK K
 refine wpAnyH_done (by kernel_rfl) ?_ _
 go_wp2_with fail
 rw[za HQ2]
 exact bodyPost_ret (v:=.tuple #[.slice (some ⟨g,0,none⟩) (acc.length+1) cap,.agg #[.int .i64 0,.int .i64 (-1)]]) (by simp[results,Tryz.results31,go_sem,z0,z1]) rfl (bcw (ts:=acc++[⟨101,⟨#[]⟩,0,s.size,ll⟩]) (za HT1) (by rw[←ap3,List.length_append];exact za HT3) (by simp;omega) _ _)
theorem bdv {w:World} (henv:LexEnv w) (s:ByteArray) (hs:s.size≤3000) (v:Value):Calls prog 31 #[.string s] w fun e w'=>LexPost (abq 3002 (acf s v)).1 (abq 3002 (acf s v)).2 w e w':=by
 refine(afy w s v _).2 henv hs rfl fun gg out line i wr hrel=>?_
 obtain⟨acc,il,ll,Fu,rfl,rfl,hil,hll,hgg,hF,hacc,HAD,HB3,HOW,HQ⟩:=hrel
 by_cases hlt:il<s.size
 ·obtain⟨c,hc⟩:∃c:Nat,c=s[il].toNat:=⟨_,rfl⟩
  by_cases h10:c=10
  ·exact bba henv hs hil hll hgg hF hacc HAD HB3 HOW HQ hlt c hc h10
  ·by_cases h32:c=32
   ·exact aya henv hs hil hll hgg hF hacc HAD HB3 HOW HQ hlt c hc h10 h32
   ·by_cases hl:lt (c:Int)=true
    ·exact au7 henv hs hil hll hgg hF hacc HAD HB3 HOW HQ hlt c hc h10 h32 hl
    ·by_cases hd:dg (c:Int)=true
     ·exact ax9 henv hs hil hll hgg hF hacc HAD HB3 HOW HQ hlt c hc h10 h32 hl hd
     ·by_cases h34:c=34
      ·exact au8 henv hs hil hll hgg hF hacc HAD HB3 HOW HQ hlt c hc h10 h32 hl hd h34
      ·exact ba9 henv hs hil hll hgg hF hacc HAD HB3 HOW HQ hlt c hc h10 h32 hl hd h34
 ·exact bdu henv hs hil hll hgg hF hacc HAD HB3 HOW HQ hlt
end Go.Proofs.YtndgajlidckcdaaGreatDoor
