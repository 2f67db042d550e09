/- A part. -/
import Derived.Test.YtndgajlidckcdaaGreatDoorM08
import Derived.Laws.ResultCell
import Derived.Lib.Join
import Derived.Lib.Repeat
import Derived.Lib.ItoaNum
import Derived.Defers
import Derived.Recover
import Derived.Laws.EntriesVeiled
open Go.Proofs.Tryz
namespace Go.Proofs.YtndgajlidckcdaaGreatDoor
open Go.RowKit
set_option linter.unusedVariables false
set_option linter.unusedSimpArgs false
set_option maxRecDepth 100000
set_option maxHeartbeats 8000000
section
attribute [local go_sem ↓] Go.wp_at_zero Go.wp_at_succ
def sgn (k:Nat):ByteArray×Nat×Nat:=ab9[k]?.getD (zc,0,0)
def hit (lev:Nat) (S:LS) (k:Nat):Bool:=(sgn k).2.2==lev&&S.is (sgn k).1
theorem ahj {k:Nat} (h:k<ab9.length):ab9[k]=sgn k:=by
 unfold sgn
 rw[List.getElem?_eq_getElem h]
 rfl
theorem awj {lev:Nat} {S:LS} {k:Nat} (hk:k<9) (h:hit lev S k=true) (hn:∀j,j<k→hit lev S j=false):abc lev S=(sgn k).2.1:=by
 have hf:ab9.find? (fun s=>s.2.2==lev&&S.is s.1)=some (sgn k):=by
  rw[List.find?_eq_some_iff_getElem]
  refine⟨h,k,hk,ahj hk,fun j hj=>?_⟩
  rw[ahj (Nat.lt_trans hj hk)]
  have:=hn j hj
  unfold hit at this
  rw[this]
  rfl
 unfold abc
 rw[hf]
theorem ar5 {lev:Nat} {S:LS} (hn:∀j,j<9→hit lev S j=false):abc lev S=0:=by
 have hf:ab9.find? (fun s=>s.2.2==lev&&S.is s.1)=none:=by
  rw[List.find?_eq_none]
  intro x hx
  obtain⟨i,hi,rfl⟩:=List.getElem_of_mem hx
  rw[ahj hi]
  have:=hn i hi
  unfold hit at this
  rw[this]
  decide
 unfold abc
 rw[hf]
theorem Add.drewN {w w':World} (h:Add w w') (n:Nat):Add w (w'.drewN n):=⟨h.os,h.tape,h.output,h.size,h.block⟩
theorem is_q {w:World} {r:Nat} {S:LS} (h:Rd w r S) (o:Obj) (n:Nat) (m:ByteArray) {b:Bool} (hb:S.is m=b) :
  Calls prog 108 #[.pointer (some ⟨r,0,none⟩),.string m] ((w.alloc o).drewN n) fun e w'=>e=.returned (.bool b)∧w'=(w.alloc o).drewN n:=aju (show Rd ((w.alloc o).drewN n) r S from (h.alloc o).drewN n) m hb
theorem ah8 {w:World} {r:Nat} {S:LS} (cx:Cx w r S) (lev:Nat) :
  Calls prog 113 #[.pointer (some ⟨r,0,none⟩),.int .i64 lev] w fun e w'=>e=.returned (.int .i64 (abc lev S))∧Cx w' r S∧Add w w':=by
 obtain⟨tt,fr,hg⟩:=cx.tabs.signs
 have hsz:(prog.info? 225).map (·.size)=some aem.size:=by kernel_rfl
 have hidx:∀(k:Nat),k<9→∀w1:World,(Instr.index 225 (.agg aem) (.int .i64 k)).run prog w1=.ok (.agg #[.string (sgn k).1,.int .i64 (sgn k).2.1,.int .i64 (sgn k).2.2]) w1:=by
  intro k hk w1
  rcases(by omega:k=0∨k=1∨k=2∨k=3∨k=4∨k=5∨k=6∨k=7∨k=8) with rfl | rfl | rfl | rfl | rfl | rfl | rfl | rfl | rfl <;> kernel_rfl
 go_enter func113,ntmps113
 go_wp2_with (refine wpList_load_row rfl 225 _ rfl 5 rfl tt _ fr _ hg underlying225 rfl hsz ?_)
 clear hsz hg
 go_loopg [8] 9 (fun g i wr=>∃k:Nat,k≤9∧g=9-k∧i=.int .i64 k∧Hid (∀j,j<k→hit lev S j=false)∧Cx wr r S∧Hid (Add w wr))
 case atStart=>exact⟨0,by omega,rfl,rfl,fun j hj=>by omega,cx,Add.refl _⟩
 case round =>
  clear cx
  obtain⟨k,hk,rfl,rfl,HN,cx,HA⟩:=hrel
  by_cases hk9:k<9
  ·have hi:=hidx k hk9
   have HJ:=zb (fun h=>awj (lev:=lev) (S:=S) hk9 h (za HN))
   have HH:=zb (show hit lev S k=((sgn k).2.2==lev&&S.is (sgn k).1) from rfl)
   clear hidx
   generalize sgn k=z at *
   obtain⟨m,kd,st⟩:=z
   have hcx:=zb cx
   clear cx
   by_cases hst:st=lev
   ·subst hst
    cases hq:S.is m with
    | true =>
     go_wp2
     go_quiet ((go_at_call 108;exact Calls.quiet_of_same (is_q (za hcx).rd _ _ m hq)))
     go_wp2
     go_ret
     rw[za HJ (by rw[za HH,hq];simp)]
     exact⟨rfl,((za hcx).alloc _).drewN _,((za HA).alloc _).drewN _⟩
    | false =>
     go_wp2
     go_quiet ((go_at_call 108;exact Calls.quiet_of_same (is_q (za hcx).rd _ _ m hq)))
     go_wp2
     go_roundg (9-(k+1))
     case measure=>omega
     case rel=>exact⟨k+1,by omega,rfl,by go_num,fun j hj=>by
      by_cases e:j=k
      ·subst e;rw[za HH];rw[hq];simp
      ·exact za HN j (by omega),((za hcx).alloc _).drewN _,((za HA).alloc _).drewN _⟩
   ·have b0:((st:Int)==(lev:Int))=false:=by rw[beq_eq_false_iff_ne];omega
    have b1:(st==lev)=false:=by rw[beq_eq_false_iff_ne];exact hst
    go_wp2
    go_quiet (fail)
    go_wp2
    go_roundg (9-(k+1))
    case measure=>omega
    case rel=>exact⟨k+1,by omega,rfl,by go_num,fun j hj=>by
     by_cases e:j=k
     ·subst e;rw[za HH];rw[b1];rfl
     ·exact za HN j (by omega),((za hcx).alloc _).drewN _,((za HA).alloc _).drewN _⟩
  ·have hk9':decide ((k:Int)<9)=false:=by simp;omega
   obtain rfl:k=9:=by omega
   have HJ:=zb (ar5 (lev:=lev) (S:=S) (za HN))
   clear HN hidx
   go_wp2
   go_ret
   rw[za HJ]
   exact⟨rfl,cx,za HA⟩
end
theorem Add.setNew {a w:World} (h:Add a w) (p:Addr) (hp:a.heap.size≤p.block) (v:Value):Add a (w.setCell p v) :=
 ⟨h.os,h.tape,h.output,by simpa [World.setCell] using h.size,fun k hk=>(Below.heap_setCell _ _ _ _ (by omega)).trans (h.block k hk)⟩
def aac (kd:Nat):(ByteArray×Nat×Nat)×Bool:=match ab9.find? (fun s=>s.2.1==kd) with
 | some s=>(s,true)
 | none=>((zc,0,0),false)
def hitK (kd k:Nat):Bool:=(sgn k).2.1==kd
theorem awk {kd k:Nat} (hk:k<9) (h:hitK kd k=true) (hn:∀j,j<k→hitK kd j=false):aac kd=(sgn k,true):=by
 have hf:ab9.find? (fun s=>s.2.1==kd)=some (sgn k):=by
  rw[List.find?_eq_some_iff_getElem]
  refine⟨h,k,hk,ahj hk,fun j hj=>?_⟩
  rw[ahj (Nat.lt_trans hj hk)]
  have:=hn j hj
  unfold hitK at this
  rw[this]
  rfl
 unfold aac
 rw[hf]
theorem auh {kd:Nat} (hn:∀j,j<9→hitK kd j=false):aac kd=((zc,0,0),false):=by
 have hf:ab9.find? (fun s=>s.2.1==kd)=none:=by
  rw[List.find?_eq_none]
  intro x hx
  obtain⟨i,hi,rfl⟩:=List.getElem_of_mem hx
  rw[ahj hi]
  have:=hn i hi
  unfold hitK at this
  rw[this]
  decide
 unfold aac
 rw[hf]
theorem akk {w:World} {tmps:Array Value} {g:Nat} {t:TypeId} {a b c:Value} {v:Bool} (hp:tmps.getD 2 undef=.pointer (some ⟨g,0,none⟩)) (hv:tmps.getD 3 undef=.bool v) (hg:w.heap[g]?=some (.cells #[a,b,c] t (0,0))) :
  (results Tryz.f246 tmps).run prog w=.ok (.tuple #[.agg #[a,b,c],.bool v]) w:=by
 rw[results_cell_tmp Tryz.results246,hp,hv]
 show ((loadVar 224 ⟨g,0,none⟩).run prog w).andThen _=_
 rw[run_loadVar_row w g t 224 #[a,b,c] (0,0) _ hg underlying224 rfl (by kernel_rfl)]
 rfl
def aha (z:(ByteArray×Nat×Nat)×Bool):Value:=.tuple #[.agg #[.string z.1.1,.int .i64 z.1.2.1,.int .i64 z.1.2.2],.bool z.2]
theorem ael {w:World} {tt:TypeId} {fr:Nat×Nat} (hg:w.heap[5]?=some (.cells aem tt fr)) (kd:Nat) :
  Calls prog 246 #[.int .i64 kd] w fun e w'=>e=.returned (aha (aac kd))∧Add w w':=by
 have hsz:(prog.info? 225).map (·.size)=some aem.size:=by kernel_rfl
 have hg2:∀o,(w.alloc o).heap[5]?=some (.cells aem tt fr):=fun o=>(aam _ _ (gtE hg).1).trans hg
 have hidx:∀(k:Nat),k<9→∀w1:World,(Instr.index 225 (.agg aem) (.int .i64 k)).run prog w1=.ok (.agg #[.string (sgn k).1,.int .i64 (sgn k).2.1,.int .i64 (sgn k).2.2]) w1:=by
  intro k hk w1
  rcases(by omega:k=0∨k=1∨k=2∨k=3∨k=4∨k=5∨k=6∨k=7∨k=8) with rfl | rfl | rfl | rfl | rfl | rfl | rfl | rfl | rfl <;> kernel_rfl
 clear hg
 go_enter func246,ntmps246
 go_wp2_with (refine wpList_load_row rfl 225 _ rfl 5 rfl tt _ fr _ (hg2 _) underlying225 rfl hsz ?_)
 clear hsz hg2
 go_loopg [7] 9 (fun g i wr=>∃k:Nat,k≤9∧g=9-k∧i=.int .i64 k∧Hid (∀j,j<k→hitK kd j=false)∧wr.heap[w.heap.size]?=some (.cells #[.string ⟨#[]⟩,.int .i64 0,.int .i64 0] 224 (0,0))∧Hid (Add w wr))
 case atStart=>exact⟨0,by omega,rfl,rfl,fun j hj=>by omega,aaq _ _,(Add.refl _).alloc _⟩
 case round =>
  obtain⟨k,hk,rfl,rfl,HN,hb,HA⟩:=hrel
  have hbl:w.heap.size<wr.heap.size:=(gtE hb).1
  by_cases hk9:k<9
  ·have hi:=hidx k hk9
   have HJ:=zb (fun h=>awk (kd:=kd) hk9 h (za HN))
   have HH:=zb (show hitK kd k=((sgn k).2.1==kd) from rfl)
   clear hidx
   generalize sgn k=z at *
   obtain⟨m,kk,st⟩:=z
   by_cases hst:kk=kd
   ·subst hst
    have d0:wr.cell? ⟨w.heap.size,0,none⟩=some (.string ⟨#[]⟩):=zd hb 0
    have d1:wr.cell? ⟨w.heap.size,1,none⟩=some (.int .i64 0):=zd hb 1
    have d2:wr.cell? ⟨w.heap.size,2,none⟩=some (.int .i64 0):=zd hb 2
    have f0:=zp hb 0
    have f1:=zp hb 1
    have f2:=zp hb 2
    have HB:=zb hb
    clear hb
    go_wp2_with fail
    refine bodyPost_ret (akk rfl rfl ((aam _ _ (by simp;omega)).trans (hset (i:=2) (hset (i:=1) (hset (i:=0) (za HB) (.string m)) (.int .i64 kk)) (.int .i64 st)))) rfl ?_
    rw[za HJ (by rw[za HH];simp)]
    have hle:w.heap.size≤w.heap.size:=Nat.le_refl _
    exact⟨rfl,((((za HA).setNew ⟨w.heap.size,0,none⟩ hle _).setNew ⟨w.heap.size,1,none⟩ hle _).setNew ⟨w.heap.size,2,none⟩ hle _).alloc _⟩
   ·have b0:((kk:Int)==(kd:Int))=false:=by rw[beq_eq_false_iff_ne];omega
    have b1:(kk==kd)=false:=by rw[beq_eq_false_iff_ne];exact hst
    have HB:=zb hb
    clear hb
    go_wp2_with fail
    go_roundg (9-(k+1))
    case measure=>omega
    case rel=>exact⟨k+1,by omega,rfl,by go_num,fun j hj=>by
     by_cases e:j=k
     ·subst e;rw[za HH];exact b1
     ·exact za HN j (by omega),(aam _ _ hbl).trans (za HB),(za HA).alloc _⟩
  ·have hk9':decide ((k:Int)<9)=false:=by simp;omega
   obtain rfl:k=9:=by omega
   have HJ:=zb (auh (kd:=kd) (za HN))
   have d0:wr.cell? ⟨w.heap.size,0,none⟩=some (.string ⟨#[]⟩):=zd hb 0
   have d1:wr.cell? ⟨w.heap.size,1,none⟩=some (.int .i64 0):=zd hb 1
   have d2:wr.cell? ⟨w.heap.size,2,none⟩=some (.int .i64 0):=zd hb 2
   have f0:=zp hb 0
   have f1:=zp hb 1
   have f2:=zp hb 2
   have HB:=zb hb
   clear HN hidx hb
   go_wp2_with fail
   refine bodyPost_ret (akk rfl rfl (hset (i:=2) (hset (i:=1) (hset (i:=0) (za HB) (.string ⟨#[]⟩)) (.int .i64 0)) (.int .i64 0))) rfl ?_
   rw[za HJ]
   have hle:w.heap.size≤w.heap.size:=Nat.le_refl _
   exact⟨rfl,(((za HA).setNew ⟨w.heap.size,0,none⟩ hle _).setNew ⟨w.heap.size,1,none⟩ hle _).setNew ⟨w.heap.size,2,none⟩ hle _⟩
def aap (kd:Nat):Nat:=if (aac kd).2=true then (aac kd).1.2.2 else if kd=40∨kd=41 then 7 else 8
structure Wr where
 B:Nat→Tree→ByteArray
 S:Nat→Tree→ByteArray
def noTree:Tree:=⟨0,zc,zc,0,0,[]⟩
def kid (t:Tree) (i:Nat):Tree:=t.kids.getD i noTree
def xIn (d:Nat):ByteArray:=⟨(Lib.repeatL [32,32] d).toArray⟩
def aj3 (n:Int):ByteArray:=⟨(Lib.decDigits (n % 18446744073709551616).toNat).toArray⟩
def aii (c:UInt8):List UInt8:=if c=10 then [92,110] else if c=34∨c=92 then [92,c] else [c]
def ah2 (s:ByteArray):ByteArray:=⟨([34]++s.data.toList.flatMap aii++[34]).toArray⟩
def zu (R:Wr) (d l:Nat) (t:Tree):ByteArray:=if aap t.kind<l then ((⟨#[40]⟩++R.B d t)++⟨#[41]⟩) else R.B d t
def abo (R:Wr) (d:Nat) (l:List Tree):ByteArray:=⟨(Lib.join (l.map fun t=>(zu R d 1 t).data.toList) [44,32]).toArray⟩
def ab2 (R:Wr) (d:Nat) (l:List Tree):ByteArray:=((⟨#[40]⟩++abo R d l)++⟨#[41]⟩)
def afk (R:Wr) (d:Nat) (t:Tree):ByteArray:=(xIn d++R.S d t)++⟨#[10]⟩
def acw (R:Wr) (d:Nat) (l:List Tree):ByteArray:=⟨(l.flatMap fun t=>(afk R d t).data.toList).toArray⟩
def aby (R:Wr) (d:Nat) (l:List Tree):ByteArray:=(((⟨#[123,10]⟩++acw R (d+1) l)++xIn d)++⟨#[125]⟩)
def afo (R:Wr) (d:Nat) (t:Tree):ByteArray:=(((⟨#[40]⟩++abo R d (kid t 0).kids)++⟨#[41,32]⟩)++aby R d (kid t 1).kids)
def adi (R:Wr) (d:Nat) (t:Tree):ByteArray:=(((⟨#[40]⟩++zu R d 1 (kid t 0))++⟨#[41,32]⟩)++aby R d (kid t 1).kids)
def ada (R:Wr) (d:Nat) (t:Tree):ByteArray:=if (decide (d=0)&&Lib.hasPrefix (zu R d 1 (kid t 0)).data.toList [102,110,40])=true then ((⟨#[40]⟩++zu R d 1 (kid t 0))++⟨#[41]⟩) else zu R d 1 (kid t 0)
def afp (t:Tree):ByteArray:=if t.under=zc then zc else (⟨#[32,60,32]⟩++t.under)
def xIf (R:Wr) (d:Nat) (t:Tree):ByteArray:=if 2<t.kids.length then ((⟨#[105,102,32]⟩++adi R d t)++(((⟨#[10]⟩++xIn d)++⟨#[101,108,115,101,32]⟩)++aby R d (kid t 2).kids)) else (⟨#[105,102,32]⟩++adi R d t)
def ahb (R:Wr) (d:Nat) (t:Tree):ByteArray:=if t.kids.length=0 then ⟨#[114,101,116,117,114,110,59]⟩ else ((⟨#[114,101,116,117,114,110,32]⟩++zu R d 1 (kid t 0))++⟨#[59]⟩)
def aag (R:Wr) (d:Nat) (t:Tree):ByteArray :=
 if t.kind=18 then aj3 t.n else if t.kind=19 then ah2 t.text else if t.kind=20 then ⟨#[116,114,117,101]⟩ else if t.kind=21 then ⟨#[102,97,108,115,101]⟩ else if t.kind=22 then ⟨#[110,105,108]⟩ else if t.kind=23 then ⟨#[116,104,105,115]⟩
 else if t.kind=25 then ((⟨#[110,101,119,32]⟩++t.text)++ab2 R d t.kids) else if t.kind=26 then ((⟨#[115,117,112,101,114,46]⟩++t.text)++ab2 R d t.kids) else if t.kind=27 then ((⟨#[91]⟩++abo R d t.kids)++⟨#[93]⟩) else if t.kind=28 then (⟨#[102,110]⟩++afo R d t) else if t.kind=29 then ⟨#[105,110,112,117,116,40,41]⟩ else if t.kind=30 then ((⟨#[108,101,110,40]⟩++zu R d 1 (kid t 0))++⟨#[41]⟩) else t.text
def adp (R:Wr) (d:Nat) (t:Tree):ByteArray:=if (kid t 0).kind=42 then ((⟨#[40]⟩++R.B d (kid t 0))++⟨#[41]⟩) else zu R d 8 (kid t 0)
def zy (R:Wr) (d:Nat) (t:Tree):ByteArray :=
 if (aac t.kind).2=true then ((((zu R d (aac t.kind).1.2.2 (kid t 0)++⟨#[32]⟩)++(aac t.kind).1.1)++⟨#[32]⟩)++zu R d ((aac t.kind).1.2.2+1) (kid t 1))
 else if t.kind=40 then (⟨#[45]⟩++zu R d 7 (kid t 0)) else if t.kind=41 then (⟨#[33]⟩++zu R d 7 (kid t 0)) else if t.kind=42 then ((zu R d 8 (kid t 0)++⟨#[46]⟩)++t.text) else if t.kind=43 then (((zu R d 8 (kid t 0)++⟨#[46]⟩)++t.text)++ab2 R d (t.kids.drop 1)) else if t.kind=44 then (((zu R d 8 (kid t 0)++⟨#[91]⟩)++zu R d 1 (kid t 1))++⟨#[93]⟩) else if t.kind=45 then (adp R d t++ab2 R d (t.kids.drop 1)) else aag R d t
def af6 (R:Wr) (d:Nat) (t:Tree):ByteArray:=(((⟨#[99,97,116,99,104,32,40]⟩++t.text)++⟨#[41,32]⟩)++aby R d (kid t 0).kids)
def aad (R:Wr) (d:Nat) (t:Tree):ByteArray :=
 if t.kind=2 then ((((⟨#[99,108,97,115,115,32]⟩++t.text)++afp t)++⟨#[32]⟩)++aby R d t.kids) else if t.kind=3 then ((⟨#[102,105,101,108,100,32]⟩++t.text)++⟨#[59]⟩) else if t.kind=4 then (t.text++afo R d t) else if t.kind=5 then ((⟨#[102,110,32]⟩++t.text)++afo R d t) else if t.kind=8 then ((((⟨#[118,97,114,32]⟩++t.text)++⟨#[32,61,32]⟩)++zu R d 1 (kid t 0))++⟨#[59]⟩) else if t.kind=9 then (((ada R d t++⟨#[32,61,32]⟩)++zu R d 1 (kid t 1))++⟨#[59]⟩) else if t.kind=10 then xIf R d t
 else if t.kind=11 then (⟨#[119,104,105,108,101,32]⟩++adi R d t) else if t.kind=12 then ahb R d t else if t.kind=13 then ((⟨#[116,104,114,111,119,32]⟩++zu R d 1 (kid t 0))++⟨#[59]⟩) else if t.kind=14 then ((((⟨#[116,114,121,32]⟩++aby R d (kid t 0).kids)++⟨#[10]⟩)++xIn d)++af6 R d (kid t 1)) else if t.kind=15 then af6 R d t else if t.kind=16 then ((⟨#[112,114,105,110,116,40]⟩++zu R d 1 (kid t 0))++⟨#[41,59]⟩) else (ada R d t++⟨#[59]⟩)
def xN:Nat→Wr
 | 0=>⟨fun _ _=>zc,fun _ _=>zc⟩
 | f+1=>⟨zy (xN f),aad (xN f)⟩
def aq2 (t:Tree):ByteArray:=acw (xN 1200) 0 t.kids
theorem am2 (p q:Addr) (w:World) :
  CallsD prog 41 #[.pointer (some p),.pointer (some q)] .returning w fun e u' w'=>e=.returned (.tuple #[])∧u'=.returning∧w'=w:=by
 have hne:∀w:World,(binOp BinOp.neq 20 .nilIface .nilIface).run prog w=.ok (.bool false) w:=fun _=>by kernel_rfl
 refine callsD_of_wpS func41 rfl fun c₀ cs hu=>?_
 apply wpS_seq
 apply wpS_region
 simp[wpOpsS,go_sem,recoverD,hu,ntmps41,Exit.thenS]
 refine wpS_of_wp ?_
 show Code.wp _ _ _ { tmps:=#[.pointer (some p),.pointer (some q),.nilIface,.nilIface,undef,undef,undef,undef],defers:=[] } w
 go_wp2_with fail
 exact⟨rfl,.returning,by rw[←hu],_,results_none Tryz.results41 _ _ _,rfl,rfl,rfl⟩
theorem aiw (b:Nat) (e pl:Int) (older:List PanicEntry) (w:World) {v1 v2:Value} {t1 t2:TypeId} (hb1:w.heap[b]?=some (.cells #[v1] t1 (0,0))) (hb2:w.heap[b+1]?=some (.cells #[v2] t2 (0,0))) :
  CallsD prog 41 #[.pointer (some ⟨b,0,none⟩),.pointer (some ⟨b+1,0,none⟩)] (.panicking ({ v:=.iface 120 (.agg #[.int .i64 e,.int .i64 pl]),recovered:=false } :: older)) w fun en u' w' =>
   en=.returned (.tuple #[])∧u'=.panicking ({ v:=.iface 120 (.agg #[.int .i64 e,.int .i64 pl]),recovered:=true } :: older) ∧
   w'=((((w.alloc (.cells #[.int .i64 e,.int .i64 pl] 120)).alloc (.cells #[.int .i64 e,.int .i64 pl] 123)).setCell ⟨b,0,none⟩ (.pointer none)).setCell ⟨b+1,0,none⟩ (.iface 122 (.pointer (some ⟨w.heap.size+1,0,none⟩)))):=by
 refine callsD_of_wpS func41 rfl fun c₀ cs hu=>?_
 apply wpS_seq
 apply wpS_region
 simp[wpOpsS,go_sem,recoverD,hu,ntmps41,Exit.thenS]
 refine wpS_of_wp ?_
 show Code.wp _ _ _ { tmps:=#[.pointer (some ⟨b,0,none⟩),.pointer (some ⟨b+1,0,none⟩),.iface 120 (.agg #[.int .i64 e,.int .i64 pl]),.iface 120 (.agg #[.int .i64 e,.int .i64 pl]),undef,undef,undef,undef],defers:=[] } w
 go_wp2_with fail
 refine(awi w e pl).mono ?_
 rintro en w1 ⟨rfl,hw1⟩
 have hl1:=(gtE hb1).1
 have hl2:=(gtE hb2).1
 have k1:w1.heap[b]?=some (.cells #[v1] t1 (0,0)):=by rw[hw1,aam _ _ (by simp;omega),aam _ _ hl1,hb1]
 have k2:w1.heap[b+1]?=some (.cells #[v2] t2 (0,0)):=by rw[hw1,aam _ _ (by simp;omega),aam _ _ hl2,hb2]
 have c1:w1.cell? ⟨b,0,none⟩=some v1:=zd k1 0
 have c2:w1.cell? ⟨b+1,0,none⟩=some v2:=zd k2 0
 have f1:=zp k1 0
 have f2:=zp k2 0
 have HW:=zb hw1
 clear k1 k2 hb1 hb2 hw1
 go_wp2_with fail
 refine⟨rfl,_,rfl,_,results_none Tryz.results41 _ _ _,rfl,rfl,?_⟩
 rw[za HW]
def acf (s:ByteArray) (v:Value):LS:=⟨s,0,1,0,0,0,⟨#[]⟩,⟨#[]⟩,0,0,v⟩
def adb (s:ByteArray) (v:Value):Res Tree:=match abv (acf s v) with
 | .inl f=>.inl f
 | .inr S=>afg (abr 26) S
theorem ar6 (w:World) (r l:Nat) (fn:Fn) (pre caps:Array Value) :
  Calls prog 73 #[.pointer (some ⟨r,0,none⟩),.int .i64 l,.func fn pre caps] w fun e w' =>
   e=.returned (.func (.func 112) #[] #[.pointer (some ⟨w.heap.size+2,0,none⟩),.pointer (some ⟨w.heap.size,0,none⟩),.pointer (some ⟨w.heap.size+1,0,none⟩)]) ∧
   w'=((w.alloc (.cells #[.pointer (some ⟨r,0,none⟩)] 84)).alloc (.cells #[.int .i64 l] 3)).alloc (.cells #[.func fn pre caps] 79):=by
 have hmf:∀(fn:Fn) (first cap:Array Value) (w:World),(Instr.makeFunc fn first cap).run prog w=.ok (.func fn first cap) w:=fun _ _ _ _=>rfl
 go_enter func73,ntmps73
 go_wp2_with fail
 go_ret
 exact⟨rfl,rfl⟩
structure JcF (w:World) (r l:Nat):Prop where
 rr:∀i,l<i→i≤6→∃t,w.heap[abh r i]?=some (.cells #[.pointer (some ⟨r,0,none⟩)] t (0,0))
 lv:∀i:Nat,l<i→i≤6→∃t,w.heap[abh r i+1]?=some (.cells #[.int .i64 i] t (0,0))
 pt:∀i,l<i→i≤6→∃t,w.heap[abh r i+2]?=some (.cells #[af2 r i] t (0,0))
theorem JcF.keep {w w':World} {r l:Nat} (h:JcF w r l) (hk:∀j,r<j→j<w.heap.size→w'.heap[j]?=w.heap[j]?):JcF w' r l:=by
 refine⟨fun i h1 h2=>?_,fun i h1 h2=>?_,fun i h1 h2=>?_⟩
 ·obtain⟨t,h⟩:=h.rr i h1 h2
  exact⟨t,(hk _ (by unfold abh;omega) (gtE h).1).trans h⟩
 ·obtain⟨t,h⟩:=h.lv i h1 h2
  exact⟨t,(hk _ (by unfold abh;omega) (gtE h).1).trans h⟩
 ·obtain⟨t,h⟩:=h.pt i h1 h2
  exact⟨t,(hk _ (by unfold abh;omega) (gtE h).1).trans h⟩
theorem JcF.more {w:World} {r l:Nat} (h:JcF w r (l+1)) (hs:w.heap.size=abh r (l+1)) {v:Value} (hv:v=af2 r (l+1)) (t1 t2 t3:TypeId):JcF (((w.alloc (.cells #[.pointer (some ⟨r,0,none⟩)] t1)).alloc (.cells #[.int .i64 ((l+1:Nat):Int)] t2)).alloc (.cells #[v] t3)) r l:=by
 have hk:=h.keep (w':=((w.alloc (.cells #[.pointer (some ⟨r,0,none⟩)] t1)).alloc (.cells #[.int .i64 ((l+1:Nat):Int)] t2)).alloc (.cells #[v] t3)) fun j _ hj=>by
  rw[aam _ _ (by simp;omega),aam _ _ (by simp;omega),aam _ _ hj]
 subst hv
 refine⟨fun i h1 h2=>?_,fun i h1 h2=>?_,fun i h1 h2=>?_⟩
 ·by_cases e:i=l+1
  ·subst e
   exact⟨t1,by rw[←hs,aam _ _ (by simp;omega),aam _ _ (by simp),aaq]⟩
  ·exact hk.rr i (by omega) h2
 ·by_cases e:i=l+1
  ·subst e
   exact⟨t2,by rw[←hs,aam _ _ (by simp)];exact aex _ _ (by simp)⟩
  ·exact hk.lv i (by omega) h2
 ·by_cases e:i=l+1
  ·subst e
   exact⟨t3,by rw[←hs];exact aex _ _ (by simp)⟩
  ·exact hk.pt i (by omega) h2
theorem awl (r l:Nat):∃fn pre caps,af2 r l=.func fn pre caps:=by
 unfold af2
 split
 ·exact⟨_,_,_,rfl⟩
 ·exact⟨_,_,_,rfl⟩
theorem ayy (r l:Nat) (h:l+1≤6):af2 r l=afu r (l+1):=by
 unfold af2
 rw[if_neg (by omega)]
theorem Rd.set10 {w:World} {r:Nat} {S:LS} (h:Rd w r S) (v:Value):Rd (w.setCell ⟨r,10,none⟩ v) r { S with jn:=v }:=h.heap_setCell 10 _
def newP (s:ByteArray) (r:Nat):Res Unit:=match abv (acf s (afu r 1)) with
 | .inl f=>.inl f
 | .inr S=>.inr ((),S)
theorem aui {w:World} {r:Nat} {s:ByteArray} (h:Rd w r (acf s (afu r 1))) (hs:s.size≤3000) (tabs:Tabs w r) (jc:Jc w r) :
  Calls prog 74 #[.pointer (some ⟨r,0,none⟩)] w fun e w'=>Ret (newP s r) r amw e w'∧Ext r w w':=by
 have fit:Fit (acf s (afu r 1)):=⟨hs,Nat.zero_le _,Nat.le_refl _⟩
 refine(alr h fit tabs).mono ?_
 rintro e w' ⟨hp,hx⟩
 refine⟨?_,hx⟩
 unfold newP
 cases ha:abv (acf s (afu r 1)) with
 | inl f=>rw[ha] at hp;exact hp
 | inr S' =>
  rw[ha] at hp
  have hok:=ag0 fit ha
  exact⟨_,hp.1,rfl,hp.2,hok.1,tabs.ext hx,jc.ext hx,hok.2.2.jn⟩
theorem aqn {w:World} (tabs:Tabs w w.heap.size) (s:ByteArray) (hs:s.size≤3000) :
  Calls prog 43 #[.string s] w fun e w'=>Ret (newP s w.heap.size) w.heap.size (fun _ v _=>v=.pointer (some ⟨w.heap.size,0,none⟩)) e w'∧Ext w.heap.size w w':=by
 have HT:=zb tabs
 clear tabs
 have hmf:∀(fn:Fn) (first cap:Array Value) (w:World),(Instr.makeFunc fn first cap).run prog w=.ok (.func fn first cap) w:=fun _ _ _ _=>rfl
 have hb0:=aaq w (.cells #[.string s,.int .i64 0,.int .i64 1,.int .i64 0,.int .i64 0,.int .i64 0,.string ⟨#[]⟩,.string ⟨#[]⟩,.int .i64 0,.int .i64 0,.nilFunc] 129)
 have q10:(w.alloc (.cells #[.string s,.int .i64 0,.int .i64 1,.int .i64 0,.int .i64 0,.int .i64 0,.string ⟨#[]⟩,.string ⟨#[]⟩,.int .i64 0,.int .i64 0,.nilFunc] 129)).cell? ⟨w.heap.size,10,none⟩=some .nilFunc:=zd hb0 10
 have f10:=zp hb0 10
 have HB:=zb hb0
 clear hb0
 go_enter func43,ntmps43
 go_wp2_with fail
 have HR0:Hid (Rd (w.alloc (.cells #[.string s,.int .i64 0,.int .i64 1,.int .i64 0,.int .i64 0,.int .i64 0,.string ⟨#[]⟩,.string ⟨#[]⟩,.int .i64 0,.int .i64 0,.func (.func 72) #[.pointer (some ⟨w.heap.size,0,none⟩)] #[]] 129)) w.heap.size (acf s (af2 w.heap.size 6))):=⟨_,aaq _ _⟩
 have HX0:Hid (Ext w.heap.size w (w.alloc (.cells #[.string s,.int .i64 0,.int .i64 1,.int .i64 0,.int .i64 0,.int .i64 0,.string ⟨#[]⟩,.string ⟨#[]⟩,.int .i64 0,.int .i64 0,.func (.func 72) #[.pointer (some ⟨w.heap.size,0,none⟩)] #[]] 129))):=(Ext.refl _ w).alloc _
 have hz0:(w.alloc (.cells #[.string s,.int .i64 0,.int .i64 1,.int .i64 0,.int .i64 0,.int .i64 0,.string ⟨#[]⟩,.string ⟨#[]⟩,.int .i64 0,.int .i64 0,.func (.func 72) #[.pointer (some ⟨w.heap.size,0,none⟩)] #[]] 129)).heap.size=w.heap.size+1:=by simp
 clear q10 f10 HB
 generalize (w.alloc (.cells #[.string s,.int .i64 0,.int .i64 1,.int .i64 0,.int .i64 0,.int .i64 0,.string ⟨#[]⟩,.string ⟨#[]⟩,.int .i64 0,.int .i64 0,.func (.func 72) #[.pointer (some ⟨w.heap.size,0,none⟩)] #[]] 129))=w0 at *
 go_loopg [4] 6 (fun gg lv wr=>∃l:Nat,l≤6∧gg=l∧lv=.int .i64 l∧Hid (Rd wr w.heap.size (acf s (af2 w.heap.size l)))∧Hid (Ext w.heap.size w wr)∧wr.heap.size=w.heap.size+1+3*(6-l)∧Hid (JcF wr w.heap.size l))
 case atStart=>exact⟨6,Nat.le_refl _,rfl,rfl,za HR0,za HX0,by omega,⟨fun i h1 h2=>by omega,fun i h1 h2=>by omega,fun i h1 h2=>by omega⟩⟩
 case round =>
  clear HR0 HX0 hz0
  obtain⟨l,hl,hgl,rfl,HR,HX,hsz,HJ⟩:=hrel
  subst hgl
  by_cases h1:1≤gk
  ·obtain⟨i,rfl⟩:∃i,gk=i+1:=⟨gk-1,by omega⟩
   obtain⟨fn,pre,caps,hform⟩:=awl w.heap.size (i+1)
   have c10:wr.cell? ⟨w.heap.size,10,none⟩=some (.func fn pre caps):=by rw[←hform];exact(za HR).c10
   have f10:=(za HR).frozen 10
   have b0:decide ((1:Int)≤((i+1:Nat):Int))=true:=by simp;omega
   have HF:=zb hform
   clear hform
   go_wp2_with fail
   refine(ar6 wr w.heap.size (i+1) fn pre caps).mono ?_
   rintro e w2 ⟨rfl,rfl⟩
   have HJ2:=zb ((za HJ).more (by rw[hsz];unfold abh;omega) (za HF).symm 84 3 79)
   have HR2:=zb ((((za HR).alloc (.cells #[.pointer (some ⟨w.heap.size,0,none⟩)] 84)).alloc (.cells #[.int .i64 ((i+1:Nat):Int)] 3)).alloc (.cells #[.func fn pre caps] 79))
   have HX2:=zb ((((za HX).alloc (.cells #[.pointer (some ⟨w.heap.size,0,none⟩)] 84)).alloc (.cells #[.int .i64 ((i+1:Nat):Int)] 3)).alloc (.cells #[.func fn pre caps] 79))
   have hsz2:(((wr.alloc (.cells #[.pointer (some ⟨w.heap.size,0,none⟩)] 84)).alloc (.cells #[.int .i64 ((i+1:Nat):Int)] 3)).alloc (.cells #[.func fn pre caps] 79)).heap.size=wr.heap.size+3:=by simp
   clear c10 f10 HJ HR HX
   generalize (((wr.alloc (.cells #[.pointer (some ⟨w.heap.size,0,none⟩)] 84)).alloc (.cells #[.int .i64 ((i+1:Nat):Int)] 3)).alloc (.cells #[.func fn pre caps] 79))=w2 at *
   have c10:w2.cell? ⟨w.heap.size,10,none⟩=some (.func fn pre caps):=by rw[←za HF];exact(za HR2).c10
   have f10:=(za HR2).frozen 10
   go_wp2_with fail
   go_roundg i
   case measure=>omega
   case rel =>
    have hq:w.heap.size+1+3*(5-i)=abh w.heap.size (i+1):=by unfold abh;omega
    refine⟨i,by omega,rfl,by go_num,?_,(za HX2).setCell 10 _,by simp;omega,(za HJ2).keep fun j hj _=>aaf _ (by omega)⟩
    rw[hq,ayy _ _ (by omega)]
    exact(za HR2).set10 _
  ·have b0:decide ((1:Int)≤(gk:Int))=false:=by simp;omega
   obtain rfl:gk=0:=by omega
   go_wp2_with fail
   refine Ret.call (aui (za HR) hs ((za HT).ext (za HX)) ⟨fun l h1 h2=>(za HJ).rr l h1 h2,fun l h1 h2=>(za HJ).lv l h1 h2,fun l h1 h2=>(za HJ).pt l h1 h2⟩) ?_ ?_
   ·intro f wz hf hx
    exact⟨rfl,Ret.inl hf,(za HX).trans hx⟩
   intro a S1 v w2 hf hv cx1 hx
   obtain rfl:v=.tuple #[]:=hv
   have HF:=zb hf
   have HX2:=zb ((za HX).trans hx)
   clear hf hx HR HX HJ
   go_wp2_with fail
   go_ret
   exact⟨Ret.inr (za HF) rfl cx1,za HX2⟩
section
attribute [local go_sem ↓] Go.wp_at_zero Go.wp_at_succ
theorem am3 (r:Nat):∀w:World,Sem.run prog (callFunc 185 #[.pointer (some ⟨r,0,none⟩)]) w=.ok (.enter 185 #[.pointer (some ⟨r,0,none⟩)]) w:=fun _=>by kernel_rfl
theorem apv (r n:Nat):∀w:World,Sem.run prog (callFunc 184 #[.pointer (some ⟨r,0,none⟩),.int .i64 n]) w=.ok (.enter 184 #[.pointer (some ⟨r,0,none⟩),.int .i64 n]) w:=fun _=>by kernel_rfl
theorem ayz (r:Nat):∀w:World,Sem.run prog (callFunc 76 #[.pointer (some ⟨r,0,none⟩)]) w=.ok (.enter 76 #[.pointer (some ⟨r,0,none⟩)]) w:=fun _=>by kernel_rfl
theorem agx {α β γ:Type} {t:Res α} {g:α→LS→Res β} {k:β→LS→Res γ} {a:α} {S:LS} (h:t=.inr (a,S)):bnd (bnd t g) k=bnd (g a S) k:=by rw[h];rfl
theorem Und.len_eq {lo:Nat} {w:World} {b k:Nat} {tx un:ByteArray} {n:Int} {ln:Nat} {ts:List Tree} {ks:Value} {vs:List Value} (h:Und (fun j=>lo≤j) w b k tx un n ln ts ks vs):∃a cap,ks=.slice a ts.length cap:=by
 have hl:=h.len
 rcases h.row with ⟨rfl,rfl⟩ | ⟨g,cap,cur,rfl,_⟩
 ·exact⟨none,0,by rw[←hl];rfl⟩
 ·exact⟨some ⟨g,0,none⟩,cap,by rw[hl]⟩
theorem ay0 {w:World} {r D:Nat} {S:LS} (cx:Cx w r S) (hD:S.dp=D) {L:Low} (hL:LowC r D L) (hk:S.kd≠0) :
  Calls prog 123 #[.pointer (some ⟨r,0,none⟩)] w fun e w'=>Ret (ace L S) r (aaa w.heap.size) e w'∧Ext r w w':=by
 obtain⟨i0,hi,hz0,hz1,hz2⟩:=info_parts zz
 have hr0:=cx.jc.lt
 have HL:=zb hL
 clear hL
 have HX0:Hid (Ext r w w):=Ext.refl r w
 have hd0:=hD
 have HC0:=zb cx
 clear cx
 go_enter func123,ntmps123
 go_wp2_with fail
 refine Ret.call (act (za HC0) 2) ?_ ?_
 ·intro f wz hf hx
  exact⟨rfl,Ret.inl (zl hf),(za HX0).trans hx⟩
 intro a1 S1 v w1 hf hv cx1 hx
 obtain⟨rfl,hu⟩:=hv
 have HU1:=zb hu
 have hon1:=aan (za HC0).ok hk hf
 have hd1:S1.dp=D:=hon1.same.dp.trans hd0
 have HP1:=zb (show (ace L S)=_ from zn hf)
 have HX1:=zb ((za HX0).trans hx)
 have HC1:=zb cx1
 clear hf hx cx1 HC0 HX0 hd0 hu
 go_wp2_with fail
 refine Ret.call (afe (za HC1)) ?_ ?_
 ·intro f wz hf hx
  exact⟨rfl,Ret.inl ((za HP1).trans (zl hf)),(za HX1).trans hx⟩
 intro s2 S2 v w2 hf hv cx2 hx
 obtain rfl:v=.string s2:=hv
 have hon2:=acn (za HC1).ok hf
 have hd2:S2.dp=D:=hon2.same.dp.trans hd1
 have HP2:=zb ((za HP1).trans (zn hf))
 have HU2:=zb ((za HU1).ext hx fun j hj=>by omega)
 have HX2:=zb ((za HX1).trans hx)
 have HC2:=zb cx2
 clear hf hx cx2 HC1 HX1 hd1 HP1 HU1
 obtain⟨t0,hb⟩:=(za HU2).cells
 have dq:w2.cell? ⟨w.heap.size,1,none⟩=some (.string zc):=zd hb 1
 have gq:=zp hb 1
 clear hb
 have HU3:=zb ((za HU2).put 1 (.string s2) (tx':=s2) rfl)
 have HX3:=zb ((za HX2).setNew ⟨w.heap.size,1,none⟩ (Nat.le_refl _) (.string s2))
 have HC3:=zb ((za HC2).setCell hr0 1 (.string s2))
 have hd3:=hd2
 clear HU2 HX2 HC2
 go_wp2_with fail
 refine Ret.call (ac6 (za HC3) ah5) ?_ ?_
 ·intro f wz hf hx
  exact⟨rfl,Ret.inl ((za HP2).trans (zl (zl hf))),(za HX3).trans hx⟩
 intro b4 S4 v w4 hf hv cx4 hx
 obtain rfl:v=.bool b4:=hv
 have hon4:=(ab4 (za HC3).ok hf).1
 have hd4:S4.dp=D:=hon4.same.dp.trans hd3
 have HP4:=zb ((za HP2).trans (agx hf))
 have HU4:=zb ((za HU3).ext hx fun j hj=>by omega)
 have HX4:=zb ((za HX3).trans hx)
 have HC4:=zb cx4
 clear hf hx cx4 HC3 HX3 hd3 HP2 HU3
 clear dq gq hon1 hon2
 cases b4 with
 | false =>
  have HPf:Hid (ace L S=bnd (zj ad3 S4) fun _ Sa=>bnd (adf 10 [] Sa) fun fs Sb=>bnd (abz aa2 (aa9 L) 3002 fs Sb) fun ks Sc=>.inr (⟨2,s2,zc,0,S.tl,ks⟩,Sc)):=za HP4
  clear HP4 hon4
  go_wp2_with fail
  refine Ret.call (acv (za HC4) ad3) ?_ ?_
  ·intro f wz hf hx
   exact⟨rfl,Ret.inl ((za HPf).trans (zl hf)),(za HX4).trans hx⟩
  intro a5 S5 v w5 hf hv cx5 hx
  obtain rfl:v=.tuple #[]:=hv
  have hon5:=aau (za HC4).ok hf
  have hd5:S5.dp=D:=hon5.same.dp.trans hd4
  have HP5:=zb ((za HPf).trans (zn hf))
  have HU5:=zb ((za HU4).ext hx fun j hj=>by omega)
  have HX5:=zb ((za HX4).trans hx)
  have HC5:=zb cx5
  clear hf hx cx5 HC4 HX4 hd4 HPf HU4
  clear hon5
  go_wp2_with fail
  go_loopg [] 10 (fun gg wr=>∃(S':LS) (acc:List Tree) (ks:Value) (vs:List Value),Cx wr r S'∧S'.dp=D∧Hid (Und (fun j=>w.heap.size≤j) wr w.heap.size 2 s2 zc 0 S.tl acc ks vs)∧Hid (Ext r w wr)∧gg+acc.length=10∧acc.length≤8∧Hid ((bnd (adf gg acc S') fun fs S5=>bnd (abz aa2 (aa9 L) 3002 fs S5) fun ks S6=>.inr (⟨2,s2,zc,0,S.tl,ks⟩,S6))=ace L S))
  case atStart=>exact⟨S5,[],_,_,za HC5,hd5,za HU5,za HX5,rfl,by simp,(za HP5).symm⟩
  case round =>
   clear HC5 hd5 HU5 HX5 HP5
   obtain⟨S',acc,ks,vs,cx,hdp,HU,HX0,hgg,hacc,HE⟩:=hrel
   obtain⟨f,hgf⟩:∃f,gk=f+1:=⟨gk-1,by omega⟩
   subst hgf
   have HE0:Hid ((bnd (if S'.is ae6=true then bnd (ady acc.length S') fun t S1=>adf f (acc++[t]) S1 else .inr (acc,S')) fun fs S5=>bnd (abz aa2 (aa9 L) 3002 fs S5) fun ks S6=>.inr (⟨2,s2,zc,0,S.tl,ks⟩,S6))=ace L S):=za HE
   clear HE
   cases hq:S'.is ae6 with
   | false =>
    have HE1:Hid ((bnd (abz aa2 (aa9 L) 3002 acc S') fun ks S6=>.inr (⟨2,s2,zc,0,S.tl,ks⟩,S6))=ace L S):=by
     have:=za HE0
     rw[if_neg (by rw[hq];decide)] at this
     exact this
    clear HE0
    go_wp2_with fail
    refine(aah cx.rd ae6 hq).mono ?_
    rintro e wz ⟨rfl,rfl⟩
    clear hq
    go_wp2_with fail
    obtain⟨fs,hfs⟩:∃fs,fs=acc:=⟨_,rfl⟩
    obtain⟨S6,hS6⟩:∃S6,S6=S':=⟨_,rfl⟩
    subst hfs hS6
    go_loopg [] 3002 (fun gg wr=>∃(S':LS) (acc:List Tree) (ks:Value) (vs:List Value),Cx wr r S'∧S'.dp=D∧Hid (Und (fun j=>w.heap.size≤j) wr w.heap.size 2 s2 zc 0 S.tl acc ks vs)∧Hid (Ext r w wr)∧3002≤gg+S'.tp∧acc.length≤8+S'.tp∧Hid ((bnd (abz aa2 (aa9 L) gg acc S') fun ks S7=>.inr (⟨2,s2,zc,0,S.tl,ks⟩,S7))=ace L S))
    case atStart=>exact⟨S6,fs,_,_,cx,hdp,za HU,za HX0,by omega,by omega,za HE1⟩
    case round =>
     clear cx hdp HU HX0 HE1 hgg hacc
     obtain⟨S',acc,ks,vs,cx,hdp,HU,HX0,hgg,hacc,HE⟩:=hrel
     have htp:S'.tp≤3000:=Nat.le_trans cx.ok.tp (Nat.le_trans cx.ok.fit.pl cx.ok.fit.size)
     rename_i gm
     obtain⟨f2,hgf⟩:∃f2,gk=f2+1:=⟨gk-1,by omega⟩
     subst hgf
     have HE1:Hid ((bnd (bnd (aab aa2 S') fun b S1=>if b=true then .inr (acc,S1) else bnd (aa9 L S1) fun t S2=>abz aa2 (aa9 L) f2 (acc++[t]) S2) fun ks S7=>.inr (⟨2,s2,zc,0,S.tl,ks⟩,S7))=ace L S):=za HE
     clear HE
     go_wp2_with fail
     refine Ret.call (ac6 cx aa2) ?_ ?_
     ·intro fl w3 hf hx
      exact⟨rfl,Ret.inl ((za HE1).symm.trans (zl (zl hf))),(za HX0).trans hx⟩
     intro b S3 v w3 hf hv cx3 hx3
     obtain rfl:v=.bool b:=hv
     have hon:=ab4 cx.ok hf
     have HU3:=zb ((za HU).ext hx3 fun j hj=>by omega)
     have HX3:=zb ((za HX0).trans hx3)
     have HE3:=zb ((agx hf).symm.trans (za HE1))
     clear hf HU HX0 HE1 hx3 cx
     cases b with
     | true =>
      clear hon
      go_wp2_with fail
      go_ret
      exact⟨Ret.inr (za HE3).symm (za HU3).node cx3,za HX3⟩
     | false =>
      obtain rfl:=hon.2.2 rfl
      clear hon
      have hvs:vs.length≤3010:=by rw[(za HU3).len];omega
      obtain⟨t0,hb⟩:=(za HU3).cells
      have d5:w3.cell? ⟨w.heap.size,5,none⟩=some ks:=zd hb 5
      have g5:=zp hb 5
      have hent:=am3 r
      have HU:=HU3
      have HX0:=HX3
      have HC:=zb cx3
      have HE:Hid ((bnd (bnd (aa9 L S3) fun t S2=>abz aa2 (aa9 L) f2 (acc++[t]) S2) fun ks S7=>.inr (⟨2,s2,zc,0,S.tl,ks⟩,S7))=ace L S):=za HE3
      clear HU3 HX3 cx3 HE3 hb
      go_wp2_with fail
      go_region_law ((first | (refine step_append_lies _ (by rfl) _ _ _ (by rfl) 0 22 i0 (.pointer none) 1 8 underlying51 hi hz0 hz1 hz2 rfl (by decide) ks vs.length vs (by rfl) ((za HO2).alloc _) ⟨w2.heap.size,0,none⟩ 1 1 [.pointer (some ⟨kb,0,none⟩)] (by rfl) rfl (cell_one_new _ _ _) (fun u hu=>by simp at hu;subst hu;rfl) (by decide) (by unfold maxLen;omega) (by omega) (Nat.zero_le _) (w2.heap.size+1) (by simp) ?_;intro g cap w3 hown hgrow hat hlt;obtain⟨e6,f6,HU3,HX3,HC3⟩:=acq rfl (za HU).drew (za HU2) hr0 (za HC2) (za HX2) (za HV2) _ hown hgrow hat;clear hown hgrow hat hlt) | (refine aba rfl (by simp[Act.eval,hent,go_sem]) (Ret.call (am0 (za HC).drew hdp (za HL)) (fun f w2 hf hx=>⟨rfl,Ret.inl ((za HE).symm.trans (zl (zl hf))),((za HX0).drew).trans hx⟩) ?_);intro t S1 v w2 hf hv cx1 hx;obtain⟨kb,rfl⟩:=z7 hv;obtain⟨e5,e5a,HO2,HU2⟩:=abl (za HU).drew hx (by omega);have HV2:=zb hv;have HC2:=zb cx1;have HX2:=zb (((za HX0).drew).trans hx);have HF:=zb hf;clear hv cx1 hx hf)))
      all_goals
       have cx4:=za HC3
       have hon4:=ag9 (za HL).good _ _ _ (za HC).ok (za HF)
       have htp4:=hon4.tp
       have hd4:=hon4.same.dp.trans hdp
       have HE4:=zb ((agx (za HF)).symm.trans (za HE))
       clear d5 g5 hon4 HF HE HU HX0 HC e5 e5a e6 f6
       go_wp2_with fail
       go_roundg f2
       case measure=>omega
       case rel=>exact⟨_,acc++[t],_,_,cx4,hd4,za HU3,za HX3,by omega,by simp;omega,za HE4⟩
   | true =>
    have HE1:Hid ((bnd (bnd (ady acc.length S') fun t S1=>adf f (acc++[t]) S1) fun fs S5=>bnd (abz aa2 (aa9 L) 3002 fs S5) fun ks S6=>.inr (⟨2,s2,zc,0,S.tl,ks⟩,S6))=ace L S):=by
     have:=za HE0
     rw[if_pos hq] at this
     exact this
    have HK:=zb (aai hq)
    clear HE0
    go_wp2_with fail
    refine(aah cx.rd ae6 hq).mono ?_
    rintro e wz ⟨rfl,rfl⟩
    clear hq
    obtain⟨ka,kcap,rfl⟩:=(za HU).len_eq
    have hvs:vs.length≤8:=by rw[(za HU).len];exact hacc
    obtain⟨t0,hb⟩:=(za HU).cells
    have d5:wr.cell? ⟨w.heap.size,5,none⟩=some (.slice ka acc.length kcap):=zd hb 5
    have g5:=zp hb 5
    have hent:=apv r acc.length
    have HC:=zb cx
    clear hb cx
    go_wp2_with fail
    go_region_law ((first | (refine step_append_lies _ (by rfl) _ _ _ (by rfl) 0 22 i0 (.pointer none) 1 8 underlying51 hi hz0 hz1 hz2 rfl (by decide) (.slice ka acc.length kcap) vs.length vs (by rfl) ((za HO2).alloc _) ⟨w2.heap.size,0,none⟩ 1 1 [.pointer (some ⟨kb,0,none⟩)] (by rfl) rfl (cell_one_new _ _ _) (fun u hu=>by simp at hu;subst hu;rfl) (by decide) (by unfold maxLen;omega) (by omega) (Nat.zero_le _) (w2.heap.size+1) (by simp) ?_;intro g cap w3 hown hgrow hat hlt;obtain⟨e6,f6,HU3,HX3,HC3⟩:=acq rfl (za HU).drew (za HU2) hr0 (za HC2) (za HX2) (za HV2) _ hown hgrow hat;clear hown hgrow hat hlt) | (refine aba rfl (by simp[Act.eval,hent,go_sem]) (Ret.call (aps (za HC).drew hdp acc.length (za HK)) (fun f w2 hf hx=>⟨rfl,Ret.inl ((za HE1).symm.trans (zl (zl hf))),((za HX0).drew).trans hx⟩) ?_);intro t S1 v w2 hf hv cx1 hx;obtain⟨kb,rfl⟩:=z7 hv;obtain⟨e5,e5a,HO2,HU2⟩:=abl (za HU).drew hx (by omega);have HV2:=zb hv;have HC2:=zb cx1;have HX2:=zb (((za HX0).drew).trans hx);have HF:=zb hf;clear hv cx1 hx hf)))
    all_goals
     have cx4:=za HC3
     have hon4:=aiu (za HC).ok (za HK) (za HF)
     have hne8:=hon4.2
     have hd4:=hon4.1.same.dp.trans hdp
     have HE4:=zb ((agx (za HF)).symm.trans (za HE1))
     clear d5 g5 hon4 HF HE1 HU HX0 HC e5 e5a e6 f6
     go_wp2_with fail
     go_roundg f
     case measure=>omega
     case rel=>exact⟨_,acc++[t],_,_,cx4,hd4,za HU3,za HX3,by simp;omega,by simp;omega,za HE4⟩
 | true =>
  have HPt:Hid (ace L S=bnd (z6 S4) fun u S3=>bnd (zj ad3 S3) fun _ Sa=>bnd (adf 10 [] Sa) fun fs Sb=>bnd (abz aa2 (aa9 L) 3002 fs Sb) fun ks Sc=>.inr (⟨2,s2,u,0,S.tl,ks⟩,Sc)):=za HP4
  clear HP4 hon4
  go_wp2_with fail
  refine Ret.call (afe (za HC4)) ?_ ?_
  ·intro f wz hf hx
   exact⟨rfl,Ret.inl ((za HPt).trans (zl hf)),(za HX4).trans hx⟩
  intro s5 S5 v w5 hf hv cx5 hx
  obtain rfl:v=.string s5:=hv
  have hon5:=acn (za HC4).ok hf
  have hd5:S5.dp=D:=hon5.same.dp.trans hd4
  have HP5:=zb ((za HPt).trans (zn hf))
  have HU5:=zb ((za HU4).ext hx fun j hj=>by omega)
  have HX5:=zb ((za HX4).trans hx)
  have HC5:=zb cx5
  clear hf hx cx5 HC4 HX4 hd4 HPt HU4
  obtain⟨t0,hb⟩:=(za HU5).cells
  have dq:w5.cell? ⟨w.heap.size,2,none⟩=some (.string zc):=zd hb 2
  have gq:=zp hb 2
  clear hb
  have HU6:=zb ((za HU5).put 2 (.string s5) (un':=s5) rfl)
  have HX6:=zb ((za HX5).setNew ⟨w.heap.size,2,none⟩ (Nat.le_refl _) (.string s5))
  have HC6:=zb ((za HC5).setCell hr0 2 (.string s5))
  have hd6:=hd5
  clear HU5 HX5 HC5
  clear hon5
  go_wp2_with fail
  refine Ret.call (acv (za HC6) ad3) ?_ ?_
  ·intro f wz hf hx
   exact⟨rfl,Ret.inl ((za HP5).trans (zl hf)),(za HX6).trans hx⟩
  intro a7 S7 v w7 hf hv cx7 hx
  obtain rfl:v=.tuple #[]:=hv
  have hon7:=aau (za HC6).ok hf
  have hd7:S7.dp=D:=hon7.same.dp.trans hd6
  have HP7:=zb ((za HP5).trans (zn hf))
  have HU7:=zb ((za HU6).ext hx fun j hj=>by omega)
  have HX7:=zb ((za HX6).trans hx)
  have HC7:=zb cx7
  clear hf hx cx7 HC6 HX6 hd6 HP5 HU6
  clear hon7
  go_wp2_with fail
  go_loopg [] 10 (fun gg wr=>∃(S':LS) (acc:List Tree) (ks:Value) (vs:List Value),Cx wr r S'∧S'.dp=D∧Hid (Und (fun j=>w.heap.size≤j) wr w.heap.size 2 s2 s5 0 S.tl acc ks vs)∧Hid (Ext r w wr)∧gg+acc.length=10∧acc.length≤8∧Hid ((bnd (adf gg acc S') fun fs S5=>bnd (abz aa2 (aa9 L) 3002 fs S5) fun ks S6=>.inr (⟨2,s2,s5,0,S.tl,ks⟩,S6))=ace L S))
  case atStart=>exact⟨S7,[],_,_,za HC7,hd7,za HU7,za HX7,rfl,by simp,(za HP7).symm⟩
  case round =>
   clear HC7 hd7 HU7 HX7 HP7
   obtain⟨S',acc,ks,vs,cx,hdp,HU,HX0,hgg,hacc,HE⟩:=hrel
   obtain⟨f,hgf⟩:∃f,gk=f+1:=⟨gk-1,by omega⟩
   subst hgf
   have HE0:Hid ((bnd (if S'.is ae6=true then bnd (ady acc.length S') fun t S1=>adf f (acc++[t]) S1 else .inr (acc,S')) fun fs S5=>bnd (abz aa2 (aa9 L) 3002 fs S5) fun ks S6=>.inr (⟨2,s2,s5,0,S.tl,ks⟩,S6))=ace L S):=za HE
   clear HE
   cases hq:S'.is ae6 with
   | false =>
    have HE1:Hid ((bnd (abz aa2 (aa9 L) 3002 acc S') fun ks S6=>.inr (⟨2,s2,s5,0,S.tl,ks⟩,S6))=ace L S):=by
     have:=za HE0
     rw[if_neg (by rw[hq];decide)] at this
     exact this
    clear HE0
    go_wp2_with fail
    refine(aah cx.rd ae6 hq).mono ?_
    rintro e wz ⟨rfl,rfl⟩
    clear hq
    go_wp2_with fail
    obtain⟨fs,hfs⟩:∃fs,fs=acc:=⟨_,rfl⟩
    obtain⟨S6,hS6⟩:∃S6,S6=S':=⟨_,rfl⟩
    subst hfs hS6
    go_loopg [] 3002 (fun gg wr=>∃(S':LS) (acc:List Tree) (ks:Value) (vs:List Value),Cx wr r S'∧S'.dp=D∧Hid (Und (fun j=>w.heap.size≤j) wr w.heap.size 2 s2 s5 0 S.tl acc ks vs)∧Hid (Ext r w wr)∧3002≤gg+S'.tp∧acc.length≤8+S'.tp∧Hid ((bnd (abz aa2 (aa9 L) gg acc S') fun ks S7=>.inr (⟨2,s2,s5,0,S.tl,ks⟩,S7))=ace L S))
    case atStart=>exact⟨S6,fs,_,_,cx,hdp,za HU,za HX0,by omega,by omega,za HE1⟩
    case round =>
     clear cx hdp HU HX0 HE1 hgg hacc
     obtain⟨S',acc,ks,vs,cx,hdp,HU,HX0,hgg,hacc,HE⟩:=hrel
     have htp:S'.tp≤3000:=Nat.le_trans cx.ok.tp (Nat.le_trans cx.ok.fit.pl cx.ok.fit.size)
     rename_i gm
     obtain⟨f2,hgf⟩:∃f2,gk=f2+1:=⟨gk-1,by omega⟩
     subst hgf
     have HE1:Hid ((bnd (bnd (aab aa2 S') fun b S1=>if b=true then .inr (acc,S1) else bnd (aa9 L S1) fun t S2=>abz aa2 (aa9 L) f2 (acc++[t]) S2) fun ks S7=>.inr (⟨2,s2,s5,0,S.tl,ks⟩,S7))=ace L S):=za HE
     clear HE
     go_wp2_with fail
     refine Ret.call (ac6 cx aa2) ?_ ?_
     ·intro fl w3 hf hx
      exact⟨rfl,Ret.inl ((za HE1).symm.trans (zl (zl hf))),(za HX0).trans hx⟩
     intro b S3 v w3 hf hv cx3 hx3
     obtain rfl:v=.bool b:=hv
     have hon:=ab4 cx.ok hf
     have HU3:=zb ((za HU).ext hx3 fun j hj=>by omega)
     have HX3:=zb ((za HX0).trans hx3)
     have HE3:=zb ((agx hf).symm.trans (za HE1))
     clear hf HU HX0 HE1 hx3 cx
     cases b with
     | true =>
      clear hon
      go_wp2_with fail
      go_ret
      exact⟨Ret.inr (za HE3).symm (za HU3).node cx3,za HX3⟩
     | false =>
      obtain rfl:=hon.2.2 rfl
      clear hon
      have hvs:vs.length≤3010:=by rw[(za HU3).len];omega
      obtain⟨t0,hb⟩:=(za HU3).cells
      have d5:w3.cell? ⟨w.heap.size,5,none⟩=some ks:=zd hb 5
      have g5:=zp hb 5
      have hent:=am3 r
      have HU:=HU3
      have HX0:=HX3
      have HC:=zb cx3
      have HE:Hid ((bnd (bnd (aa9 L S3) fun t S2=>abz aa2 (aa9 L) f2 (acc++[t]) S2) fun ks S7=>.inr (⟨2,s2,s5,0,S.tl,ks⟩,S7))=ace L S):=za HE3
      clear HU3 HX3 cx3 HE3 hb
      go_wp2_with fail
      go_region_law ((first | (refine step_append_lies _ (by rfl) _ _ _ (by rfl) 0 22 i0 (.pointer none) 1 8 underlying51 hi hz0 hz1 hz2 rfl (by decide) ks vs.length vs (by rfl) ((za HO2).alloc _) ⟨w2.heap.size,0,none⟩ 1 1 [.pointer (some ⟨kb,0,none⟩)] (by rfl) rfl (cell_one_new _ _ _) (fun u hu=>by simp at hu;subst hu;rfl) (by decide) (by unfold maxLen;omega) (by omega) (Nat.zero_le _) (w2.heap.size+1) (by simp) ?_;intro g cap w3 hown hgrow hat hlt;obtain⟨e6,f6,HU3,HX3,HC3⟩:=acq rfl (za HU).drew (za HU2) hr0 (za HC2) (za HX2) (za HV2) _ hown hgrow hat;clear hown hgrow hat hlt) | (refine aba rfl (by simp[Act.eval,hent,go_sem]) (Ret.call (am0 (za HC).drew hdp (za HL)) (fun f w2 hf hx=>⟨rfl,Ret.inl ((za HE).symm.trans (zl (zl hf))),((za HX0).drew).trans hx⟩) ?_);intro t S1 v w2 hf hv cx1 hx;obtain⟨kb,rfl⟩:=z7 hv;obtain⟨e5,e5a,HO2,HU2⟩:=abl (za HU).drew hx (by omega);have HV2:=zb hv;have HC2:=zb cx1;have HX2:=zb (((za HX0).drew).trans hx);have HF:=zb hf;clear hv cx1 hx hf)))
      all_goals
       have cx4:=za HC3
       have hon4:=ag9 (za HL).good _ _ _ (za HC).ok (za HF)
       have htp4:=hon4.tp
       have hd4:=hon4.same.dp.trans hdp
       have HE4:=zb ((agx (za HF)).symm.trans (za HE))
       clear d5 g5 hon4 HF HE HU HX0 HC e5 e5a e6 f6
       go_wp2_with fail
       go_roundg f2
       case measure=>omega
       case rel=>exact⟨_,acc++[t],_,_,cx4,hd4,za HU3,za HX3,by omega,by simp;omega,za HE4⟩
   | true =>
    have HE1:Hid ((bnd (bnd (ady acc.length S') fun t S1=>adf f (acc++[t]) S1) fun fs S5=>bnd (abz aa2 (aa9 L) 3002 fs S5) fun ks S6=>.inr (⟨2,s2,s5,0,S.tl,ks⟩,S6))=ace L S):=by
     have:=za HE0
     rw[if_pos hq] at this
     exact this
    have HK:=zb (aai hq)
    clear HE0
    go_wp2_with fail
    refine(aah cx.rd ae6 hq).mono ?_
    rintro e wz ⟨rfl,rfl⟩
    clear hq
    obtain⟨ka,kcap,rfl⟩:=(za HU).len_eq
    have hvs:vs.length≤8:=by rw[(za HU).len];exact hacc
    obtain⟨t0,hb⟩:=(za HU).cells
    have d5:wr.cell? ⟨w.heap.size,5,none⟩=some (.slice ka acc.length kcap):=zd hb 5
    have g5:=zp hb 5
    have hent:=apv r acc.length
    have HC:=zb cx
    clear hb cx
    go_wp2_with fail
    go_region_law ((first | (refine step_append_lies _ (by rfl) _ _ _ (by rfl) 0 22 i0 (.pointer none) 1 8 underlying51 hi hz0 hz1 hz2 rfl (by decide) (.slice ka acc.length kcap) vs.length vs (by rfl) ((za HO2).alloc _) ⟨w2.heap.size,0,none⟩ 1 1 [.pointer (some ⟨kb,0,none⟩)] (by rfl) rfl (cell_one_new _ _ _) (fun u hu=>by simp at hu;subst hu;rfl) (by decide) (by unfold maxLen;omega) (by omega) (Nat.zero_le _) (w2.heap.size+1) (by simp) ?_;intro g cap w3 hown hgrow hat hlt;obtain⟨e6,f6,HU3,HX3,HC3⟩:=acq rfl (za HU).drew (za HU2) hr0 (za HC2) (za HX2) (za HV2) _ hown hgrow hat;clear hown hgrow hat hlt) | (refine aba rfl (by simp[Act.eval,hent,go_sem]) (Ret.call (aps (za HC).drew hdp acc.length (za HK)) (fun f w2 hf hx=>⟨rfl,Ret.inl ((za HE1).symm.trans (zl (zl hf))),((za HX0).drew).trans hx⟩) ?_);intro t S1 v w2 hf hv cx1 hx;obtain⟨kb,rfl⟩:=z7 hv;obtain⟨e5,e5a,HO2,HU2⟩:=abl (za HU).drew hx (by omega);have HV2:=zb hv;have HC2:=zb cx1;have HX2:=zb (((za HX0).drew).trans hx);have HF:=zb hf;clear hv cx1 hx hf)))
    all_goals
     have cx4:=za HC3
     have hon4:=aiu (za HC).ok (za HK) (za HF)
     have hne8:=hon4.2
     have hd4:=hon4.1.same.dp.trans hdp
     have HE4:=zb ((agx (za HF)).symm.trans (za HE1))
     clear d5 g5 hon4 HF HE1 HU HX0 HC e5 e5a e6 f6
     go_wp2_with fail
     go_roundg f
     case measure=>omega
     case rel=>exact⟨_,acc++[t],_,_,cx4,hd4,za HU3,za HX3,by simp;omega,by simp;omega,za HE4⟩
end
end Go.Proofs.YtndgajlidckcdaaGreatDoor
