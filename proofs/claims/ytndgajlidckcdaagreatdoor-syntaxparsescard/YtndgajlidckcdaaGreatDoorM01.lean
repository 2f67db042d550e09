/- A part. -/
import Derived.Test.YtndgajlidckcdaaGreatDoorRows
import Derived.WalkKit
import Derived.WalkSpells
import Derived.WalkLawsBesides
import Derived.Deep.QuietTactic
import Derived.BigQuiet
import Derived.Deep.RegionHeld3
import Derived.Deep.LoopGhost
open Go.Proofs.Tryz
namespace Go.Proofs.YtndgajlidckcdaaGreatDoor
open Go.RowKit
set_option linter.unusedVariables false
set_option linter.unusedSimpArgs false
set_option maxRecDepth 100000
set_option maxHeartbeats 8000000
theorem sA {α:Type} (l:List α) (i:Nat) (a:α):l.toArray.setIfInBounds i a=(l.set i a).toArray:=List.setIfInBounds_toArray ..
theorem sB {α:Type} (x:α) (xs:List α) (a:α):(x :: xs).set 0 a=a :: xs:=List.set_cons_zero ..
theorem sC {α:Type} (x:α) (xs:List α) (n:Nat) (a:α):(x :: xs).set (n+1) a=x :: xs.set n a:=List.set_cons_succ ..
theorem gtE {α:Type} {xs:Array α} {i:Nat} {b:α} (h:xs[i]?=some b):∃h:i<xs.size,xs[i]=b:=Array.getElem?_eq_some_iff.1 h
theorem zb {p:Prop} (h:p):Hid p:=h
theorem za {p:Prop} (h:Hid p):p:=h
theorem rb {a b:Bool} (h:a=b):Ending.returned (.bool a)=.returned (.bool b):=by rw[h]
structure LS where
 src:ByteArray
 pl:Nat
 ln:Nat
 kd:Nat
 tp:Nat
 tl:Nat
 mrk:ByteArray
 tx:ByteArray
 nn:Int
 dp:Nat
 jn:Value
def LS.cells (S:LS):Array Value :=
 #[.string S.src,.int .i64 S.pl,.int .i64 S.ln,.int .i64 S.kd,.int .i64 S.tp,.int .i64 S.tl,.string S.mrk,.string S.tx,.int .i64 S.nn,.int .i64 S.dp,S.jn]
def Rd (w:World) (r:Nat) (S:LS):Prop:=∃t,w.heap[r]?=some (.cells S.cells t (0,0))
theorem Rd.cell {w:World} {r:Nat} {S:LS} (h:Rd w r S) (i:Nat):w.cell? ⟨r,i,none⟩=S.cells[i]?:=by
 obtain⟨t,h⟩:=h
 simp[World.cell?,h]
theorem Rd.frozen {w:World} {r:Nat} {S:LS} (h:Rd w r S) (i:Nat):w.frozen? ⟨r,i,none⟩=false:=by
 obtain⟨t,h⟩:=h
 simp[World.frozen?,h]
theorem Rd.lt {w:World} {r:Nat} {S:LS} (h:Rd w r S):r<w.heap.size:=by
 obtain⟨t,h⟩:=h
 exact(gtE h).1
theorem Rd.c0 {w:World} {r:Nat} {S:LS} (h:Rd w r S):w.cell? ⟨r,0,none⟩=some (.string S.src):=h.cell 0
theorem Rd.c1 {w:World} {r:Nat} {S:LS} (h:Rd w r S):w.cell? ⟨r,1,none⟩=some (.int .i64 S.pl):=h.cell 1
theorem Rd.c2 {w:World} {r:Nat} {S:LS} (h:Rd w r S):w.cell? ⟨r,2,none⟩=some (.int .i64 S.ln):=h.cell 2
theorem Rd.c3 {w:World} {r:Nat} {S:LS} (h:Rd w r S):w.cell? ⟨r,3,none⟩=some (.int .i64 S.kd):=h.cell 3
theorem Rd.c4 {w:World} {r:Nat} {S:LS} (h:Rd w r S):w.cell? ⟨r,4,none⟩=some (.int .i64 S.tp):=h.cell 4
theorem Rd.c5 {w:World} {r:Nat} {S:LS} (h:Rd w r S):w.cell? ⟨r,5,none⟩=some (.int .i64 S.tl):=h.cell 5
theorem Rd.c6 {w:World} {r:Nat} {S:LS} (h:Rd w r S):w.cell? ⟨r,6,none⟩=some (.string S.mrk):=h.cell 6
theorem Rd.c7 {w:World} {r:Nat} {S:LS} (h:Rd w r S):w.cell? ⟨r,7,none⟩=some (.string S.tx):=h.cell 7
theorem Rd.c8 {w:World} {r:Nat} {S:LS} (h:Rd w r S):w.cell? ⟨r,8,none⟩=some (.int .i64 S.nn):=h.cell 8
theorem Rd.c9 {w:World} {r:Nat} {S:LS} (h:Rd w r S):w.cell? ⟨r,9,none⟩=some (.int .i64 S.dp):=h.cell 9
theorem Rd.c10 {w:World} {r:Nat} {S:LS} (h:Rd w r S):w.cell? ⟨r,10,none⟩=some S.jn:=h.cell 10
theorem Rd.f1 {w:World} {r:Nat} {S:LS} (h:Rd w r S):w.frozen? ⟨r,1,none⟩=false:=h.frozen 1
theorem Rd.f2 {w:World} {r:Nat} {S:LS} (h:Rd w r S):w.frozen? ⟨r,2,none⟩=false:=h.frozen 2
theorem Rd.f3 {w:World} {r:Nat} {S:LS} (h:Rd w r S):w.frozen? ⟨r,3,none⟩=false:=h.frozen 3
theorem Rd.f9 {w:World} {r:Nat} {S:LS} (h:Rd w r S):w.frozen? ⟨r,9,none⟩=false:=h.frozen 9
theorem Rd.heap_setCell {w:World} {r:Nat} {S:LS} (h:Rd w r S) (i:Nat) (v:Value):∃t,(w.setCell ⟨r,i,none⟩ v).heap[r]?=some (.cells (S.cells.setIfInBounds i v) t (0,0)):=by
 obtain⟨t,h⟩:=h
 refine⟨t,?_⟩
 simp[World.setCell,h,Array.getElem?_modify]
theorem Rd.set1 {w:World} {r:Nat} {S:LS} (h:Rd w r S) (n:Nat):Rd (w.setCell ⟨r,1,none⟩ (.int .i64 n)) r { S with pl:=n }:=h.heap_setCell 1 _
theorem Rd.set2 {w:World} {r:Nat} {S:LS} (h:Rd w r S) (n:Nat):Rd (w.setCell ⟨r,2,none⟩ (.int .i64 n)) r { S with ln:=n }:=h.heap_setCell 2 _
theorem Rd.set3 {w:World} {r:Nat} {S:LS} (h:Rd w r S) (n:Nat):Rd (w.setCell ⟨r,3,none⟩ (.int .i64 n)) r { S with kd:=n }:=h.heap_setCell 3 _
theorem Rd.set4 {w:World} {r:Nat} {S:LS} (h:Rd w r S) (n:Nat):Rd (w.setCell ⟨r,4,none⟩ (.int .i64 n)) r { S with tp:=n }:=h.heap_setCell 4 _
theorem Rd.set5 {w:World} {r:Nat} {S:LS} (h:Rd w r S) (n:Nat):Rd (w.setCell ⟨r,5,none⟩ (.int .i64 n)) r { S with tl:=n }:=h.heap_setCell 5 _
theorem Rd.set6 {w:World} {r:Nat} {S:LS} (h:Rd w r S) (s:ByteArray):Rd (w.setCell ⟨r,6,none⟩ (.string s)) r { S with mrk:=s }:=h.heap_setCell 6 _
theorem Rd.set7 {w:World} {r:Nat} {S:LS} (h:Rd w r S) (s:ByteArray):Rd (w.setCell ⟨r,7,none⟩ (.string s)) r { S with tx:=s }:=h.heap_setCell 7 _
theorem Rd.set8 {w:World} {r:Nat} {S:LS} (h:Rd w r S) (n:Int):Rd (w.setCell ⟨r,8,none⟩ (.int .i64 n)) r { S with nn:=n }:=h.heap_setCell 8 _
theorem Rd.set9 {w:World} {r:Nat} {S:LS} (h:Rd w r S) (n:Nat):Rd (w.setCell ⟨r,9,none⟩ (.int .i64 n)) r { S with dp:=n }:=h.heap_setCell 9 _
theorem Rd.drew {w:World} {r:Nat} {S:LS} (h:Rd w r S):Rd w.drew r S:=h
theorem Rd.drewN {w:World} {r:Nat} {S:LS} (h:Rd w r S) (n:Nat):Rd (w.drewN n) r S:=h
theorem Rd.alloc {w:World} {r:Nat} {S:LS} (h:Rd w r S) (o:Obj):Rd (w.alloc o) r S:=by
 have hl:=h.lt
 obtain⟨t,h⟩:=h
 exact⟨t,by rw[Below.heap_alloc _ _ _ hl];exact h⟩
structure Ext (r:Nat) (w w':World):Prop where
 os:w'.os=w.os
 tape:w'.tape=w.tape
 output:w'.output=w.output
 size:w.heap.size≤w'.heap.size
 block:∀k,k<w.heap.size→k≠r→w'.heap[k]?=w.heap[k]?
theorem Ext.refl (r:Nat) (w:World):Ext r w w:=⟨rfl,rfl,rfl,Nat.le_refl _,fun _ _ _=>rfl⟩
theorem Ext.trans {r:Nat} {a b c:World} (h:Ext r a b) (k:Ext r b c):Ext r a c :=
 ⟨k.os.trans h.os,k.tape.trans h.tape,k.output.trans h.output,Nat.le_trans h.size k.size,fun i hi hr=>(k.block i (Nat.lt_of_lt_of_le hi h.size) hr).trans (h.block i hi hr)⟩
theorem Ext.drew {r:Nat} {a w:World} (h:Ext r a w):Ext r a w.drew:=⟨h.os,h.tape,h.output,h.size,h.block⟩
theorem Ext.drewN {r:Nat} {a w:World} (h:Ext r a w) (n:Nat):Ext r a (w.drewN n):=⟨h.os,h.tape,h.output,h.size,h.block⟩
theorem Ext.alloc {r:Nat} {a w:World} (h:Ext r a w) (o:Obj):Ext r a (w.alloc o) :=
 h.trans ⟨rfl,rfl,rfl,by simp,fun k hk _=>Below.heap_alloc _ _ _ hk⟩
theorem Ext.setCell {r:Nat} {a w:World} (h:Ext r a w) (i:Nat) (v:Value):Ext r a (w.setCell ⟨r,i,none⟩ v) :=
 h.trans ⟨rfl,rfl,rfl,by simp[World.setCell],fun k _ hr=>Below.heap_setCell _ _ _ _ hr⟩
theorem Ext.setNew {r:Nat} {a w:World} (h:Ext r a w) (p:Addr) (hp:a.heap.size≤p.block) (v:Value):Ext r a (w.setCell p v) :=
 ⟨h.os,h.tape,h.output,by simpa [World.setCell] using h.size,fun k hk hr=>(Below.heap_setCell _ _ _ _ (by omega)).trans (h.block k hk hr)⟩
def adq (e:Int) (p:Nat):List PanicEntry:=[{ v:=.iface 120 (.agg #[.int .i64 e,.int .i64 p]),recovered:=false }]
theorem is_any {w:World} {r:Nat} {S:LS} (h:Rd w r S) (m:ByteArray) :
  Calls prog 108 #[.pointer (some ⟨r,0,none⟩),.string m] w fun e w'=>e=.returned (.bool ((S.kd==1)&&(S.mrk.toList==m.toList)))∧w'=w:=by
 have c3:=h.c3
 have c6:=h.c6
 clear h
 cases hk:(S.kd==1)
 ·have hk':((S.kd:Int)==1)=false:=by rw[beq_eq_false_iff_ne] at hk ⊢;omega
  go_enter func108,ntmps108
  go_wp2
  go_ret
  exact⟨rfl,rfl⟩
 ·have hk':((S.kd:Int)==1)=true:=by rw[beq_iff_eq] at hk ⊢;omega
  go_enter func108,ntmps108
  go_wp2
  go_ret
  exact⟨rfl,rfl⟩
theorem aes {w:World} {r:Nat} {S:LS} (h:Rd w r S) (e0:Int) :
  Calls prog 175 #[.pointer (some ⟨r,0,none⟩),.int .i64 e0] w fun e w'=>e=.panicked (adq e0 S.tp)∧w'=w:=by
 have c4:=h.c4
 clear h
 go_enter func175,ntmps175
 go_wp2
 exact⟨rfl,rfl,rfl⟩
def ab0 (s:ByteArray):Nat→Nat→Nat→Nat×Nat
 | 0,p,l=>(p,l)
 | f+1,p,l=>if h:p<s.size then (if s[p].toNat=10 then ab0 s f (p+1) (l+1) else if s[p].toNat=32 then ab0 s f (p+1) l else (p,l)) else (p,l)
theorem aq9 {s:ByteArray} {f p l:Nat} (h:¬p<s.size):ab0 s f p l=(p,l):=by
 cases f with
 | zero=>rfl
 | succ f=>rw[ab0,dif_neg h]
theorem aph {s:ByteArray} {p l:Nat} (h:p<s.size) (h':s[p].toNat=10):ab0 s (s.size-p) p l=ab0 s (s.size-(p+1)) (p+1) (l+1):=by
 rw[show s.size-p=(s.size-(p+1))+1 by omega,ab0,dif_pos h,if_pos h']
theorem amr {s:ByteArray} {p l:Nat} (h:p<s.size) (h':s[p].toNat=32):ab0 s (s.size-p) p l=ab0 s (s.size-(p+1)) (p+1) l:=by
 rw[show s.size-p=(s.size-(p+1))+1 by omega,ab0,dif_pos h,if_neg (by omega),if_pos h']
theorem api {s:ByteArray} {f p l:Nat} (h:p<s.size) (h1:s[p].toNat≠10) (h2:s[p].toNat≠32):ab0 s f p l=(p,l):=by
 cases f with
 | zero=>rfl
 | succ f=>rw[ab0,dif_pos h,if_neg h1,if_neg h2]
def ab1 (s:ByteArray) (B:Int→Bool):Nat→Nat→Nat
 | 0,p=>p
 | f+1,p=>if h:p<s.size then (if B s[p].toNat=true then ab1 s B f (p+1) else p) else p
theorem aoi {s:ByteArray} {B:Int→Bool} {f p:Nat} (h:¬p<s.size):ab1 s B f p=p:=by
 cases f with
 | zero=>rfl
 | succ f=>rw[ab1,dif_neg h]
theorem ahe {s:ByteArray} {B:Int→Bool} {p:Nat} (h:p<s.size) (h':B s[p].toNat=true):ab1 s B (s.size-p) p=ab1 s B (s.size-(p+1)) (p+1):=by
 rw[show s.size-p=(s.size-(p+1))+1 by omega,ab1,dif_pos h,if_pos h']
theorem ara {s:ByteArray} {B:Int→Bool} {f p:Nat} (h:p<s.size) (h':B s[p].toNat=false):ab1 s B f p=p:=by
 cases f with
 | zero=>rfl
 | succ f=>rw[ab1,dif_pos h,h'];rfl
structure Fit (S:LS):Prop where
 size:S.src.size≤3000
 pl:S.pl≤S.src.size
 ln:S.ln≤S.pl+1
def dg (c:Int):Bool:=decide (48≤c)&&decide (c≤57)
def lt (c:Int):Bool:=decide (97≤c)&&decide (c≤122)||decide (65≤c)&&decide (c≤90)||decide (c=95)
theorem ajg (c:Int) (w:World):Calls prog 119 #[.int .u8 c] w fun e w'=>e=.returned (.bool (dg c))∧w'=w:=by
 rcases(by omega:(48≤c∧c≤57)∨c<48∨(48≤c∧57<c)) with ⟨h1,h2⟩ | h1 | ⟨h1,h2⟩
 all_goals
  go_enter func119,ntmps119
  go_wp2
  go_ret
  exact⟨rb (by rw[Bool.eq_iff_iff];simp[dg];omega),rfl⟩
theorem cases5 (c:Int):(97≤c∧c≤122)∨(65≤c∧c≤90)∨c=95∨c<65∨(90<c∧c<95)∨c=96∨122<c:=by omega
theorem avd (c:Int) (w:World):Calls prog 117 #[.int .u8 c] w fun e w'=>e=.returned (.bool (lt c))∧w'=w:=by
 rcases cases5 c with ⟨h1,h2⟩ | ⟨h1,h2⟩ | h1 | h1 | ⟨h1,h2⟩ | h1 | h1
 all_goals
  go_enter func117,ntmps117
  go_wp2
  go_ret
 all_goals exact⟨rb (by rw[Bool.eq_iff_iff];simp[lt];omega),rfl⟩
theorem nb_any (c:Int) (w:World):Calls prog 177 #[.int .u8 c] w fun e w'=>e=.returned (.bool (lt c||dg c))∧w'=w:=by
 cases hl:lt c
 all_goals
  go_enter func177,ntmps177
  go_wp2_with (first | (go_at_call 117;refine(avd _ _).mono ?_;rintro e w' ⟨rfl,rfl⟩) | (go_at_call 119;refine(ajg _ _).mono ?_;rintro e w' ⟨rfl,rfl⟩))
  go_ret
  exact⟨rb (by simp),rfl⟩
def nb (c:Int):Bool:=lt c||dg c
theorem al5 (c:Int) (w:World):Calls prog 177 #[.int .u8 c] w fun e w'=>e=.returned (.bool (nb c))∧w'=w:=nb_any c w
def ae9 (ws:List ByteArray) (s:ByteArray):Bool:=ws.any fun x=>x.toList==s.toList
theorem ams {ws:List ByteArray} {s:ByteArray} {k:Nat} (hk:k<ws.length) (h:((ws[k]?.getD ByteArray.empty).toList==s.toList)=true):ae9 ws s=true:=by
 simp only[ae9,List.any_eq_true]
 refine⟨ws[k],List.getElem_mem hk,?_⟩
 rw[List.getElem?_eq_getElem hk] at h
 exact h
theorem aln {ws:List ByteArray} {s:ByteArray} (h:∀j,j<ws.length→((ws[j]?.getD ByteArray.empty).toList==s.toList)=false):ae9 ws s=false:=by
 simp only[ae9,List.any_eq_false]
 intro x hm
 obtain⟨i,hi,he⟩:=List.mem_iff_getElem.1 hm
 have:=h i hi
 rw[List.getElem?_eq_getElem hi,he] at this
 simp only[Option.getD_some] at this
 rw[this]
 decide
theorem bbo (ws:List ByteArray) (hl:ws.length=20) (s:ByteArray) (w:World) (tt:TypeId) (fr:Nat×Nat) (hg:w.heap[9]?=some (.cells (ws.map Value.string).toArray tt fr)) :
  Calls prog 178 #[.string s] w fun e w'=>e=.returned (.bool (ae9 ws s))∧w'=w:=by
 have hsz:(prog.info? 241).map (·.size)=some (ws.map Value.string).toArray.size:=by
  rw[List.size_toArray,List.length_map,hl];kernel_rfl
 have hidx:∀(k:Nat),k<20→∀w1:World,(Instr.index 241 (.agg (ws.map Value.string).toArray) (.int .i64 k)).run prog w1=.ok (.string (ws[k]?.getD ByteArray.empty)) w1:=by
  intro k hk w1
  have hk':k<ws.length:=by omega
  simp[Instr.index,run_underlying underlying241,asIntOf,part,hk',go_sem]
  intro h;omega
 have HL:Hid (ws.length=20):=hl
 clear hl
 go_enter func178,ntmps178
 go_wp2_with (refine wpList_load_row rfl 241 _ rfl 9 rfl tt _ fr _ hg underlying241 rfl hsz ?_)
 go_loop [6] (fun i=>∃k:Nat,k≤20∧i=.int .i64 k∧∀j,j<k→((ws[j]?.getD ByteArray.empty).toList==s.toList)=false) (fun i=>20-(intOf i).toNat)
 case atStart=>exact⟨0,by omega,rfl,fun j h=>by omega⟩
 case round =>
  obtain⟨k,hk,rfl,hno⟩:=hrel
  have HN:=zb hno
  clear hno
  by_cases hlt:k<20
  ·have hi:=hidx k hlt
   cases hw:((ws[k]?.getD ByteArray.empty).toList==s.toList)
   ·have HW:=zb hw
    go_wp2
    go_round
    case rel =>
     refine⟨k+1,by omega,by go_num,fun j hj=>?_⟩
     by_cases e:j=k
     ·subst e;exact za HW
     ·exact za HN j (by omega)
    case measure=>simp[intOf];omega
   ·have HW:=zb hw
    go_wp2
    go_ret
    exact⟨rb (ams (by rw[HL.out];exact hlt) (za HW)).symm,rfl⟩
  ·go_wp2
   go_ret
   exact⟨rb (aln (fun j hj=>za HN j (by have:=HL.out;omega))).symm,rfl⟩
theorem bbp {w:World} {r:Nat} {S:LS} (h:Rd w r S) (fit:Fit S) :
  Calls prog 176 #[.pointer (some ⟨r,0,none⟩),.func (.func 177) #[] #[]] w fun e w'=>e=.returned (.string (S.src.extract S.pl (ab1 S.src nb (S.src.size-S.pl) S.pl))) ∧
   S.pl≤ab1 S.src nb (S.src.size-S.pl) S.pl∧Rd w' r { S with pl:=ab1 S.src nb (S.src.size-S.pl) S.pl }∧Fit { S with pl:=ab1 S.src nb (S.src.size-S.pl) S.pl }∧Ext r w w':=by
 obtain⟨z1,z2,z3⟩:=fit
 have c1:=h.c1
 go_enter func176,ntmps176
 go_wp2
 clear c1
 go_loopg [] (S.src.size-S.pl) (fun k wr=>∃p:Nat,Rd wr r { S with pl:=p }∧p≤S.src.size∧S.pl≤p∧k=S.src.size-p∧Hid (ab1 S.src nb (S.src.size-p) p=ab1 S.src nb (S.src.size-S.pl) S.pl)∧Ext r w wr)
 case atStart=>exact⟨S.pl,h,z2,Nat.le_refl _,rfl,rfl,Ext.refl _ _⟩
 case round =>
  clear h
  obtain⟨p,h,hp,hl,hk,HE,HX⟩:=hrel
  have c0:=h.c0
  have c1:=h.c1
  have f1:=h.f1
  have HR:=zb h
  clear h
  subst hk
  by_cases hlt:p<S.src.size
  ·have hlt':decide ((p:Int)<S.src.size)=true:=by simp;omega
   have hlt2:(p:Int)<S.src.size:=by omega
   cases hb:nb S.src[p].toNat
   ·have H1:=zb ((ara (B:=nb) hlt hb).symm.trans (za HE))
    clear HE
    go_wp2
    go_quiet ((go_at_call 177;exact Calls.quiet_of_same (al5 _ _)))
    go_wp2
    go_quiet (fail)
    go_wp2
    go_ret
    rw[←za H1]
    refine⟨?_,hl,((za HR).drewN _).drewN _,⟨z1,hp,?_⟩,(HX.drewN _).drewN _⟩
    ·simp
    ·show S.ln≤p+1
     omega
   ·have H1:=zb ((ahe (B:=nb) hlt hb).symm.trans (za HE))
    clear HE
    go_wp2
    go_quiet ((go_at_call 177;exact Calls.quiet_of_same (al5 _ _)))
    go_wp2
    go_roundg (S.src.size-(p+1))
    case measure=>omega
    case rel=>exact⟨p+1,((za HR).drewN _).set1 (p+1),by omega,by omega,rfl,H1,(HX.drewN _).setCell 1 _⟩
  ·have hlt':decide ((p:Int)<S.src.size)=false:=by simp;omega
   have H1:=zb ((aoi (B:=nb) hlt).symm.trans (za HE))
   clear HE
   go_wp2
   go_quiet ((go_at_call 177;exact Calls.quiet_of_same (al5 _ _)))
   go_wp2
   go_quiet (fail)
   go_wp2
   go_ret
   rw[←za H1]
   refine⟨?_,hl,((za HR).drewN _).drewN _,⟨z1,hp,?_⟩,(HX.drewN _).drewN _⟩
   ·simp
   ·show S.ln≤p+1
    omega
theorem av3 {w:World} {r:Nat} {S:LS} (h:Rd w r S) (fit:Fit S) :
  Calls prog 176 #[.pointer (some ⟨r,0,none⟩),.func (.func 119) #[] #[]] w fun e w'=>e=.returned (.string (S.src.extract S.pl (ab1 S.src dg (S.src.size-S.pl) S.pl))) ∧
   S.pl≤ab1 S.src dg (S.src.size-S.pl) S.pl∧Rd w' r { S with pl:=ab1 S.src dg (S.src.size-S.pl) S.pl }∧Fit { S with pl:=ab1 S.src dg (S.src.size-S.pl) S.pl }∧Ext r w w':=by
 obtain⟨z1,z2,z3⟩:=fit
 have c1:=h.c1
 go_enter func176,ntmps176
 go_wp2
 clear c1
 go_loopg [] (S.src.size-S.pl) (fun k wr=>∃p:Nat,Rd wr r { S with pl:=p }∧p≤S.src.size∧S.pl≤p∧k=S.src.size-p∧Hid (ab1 S.src dg (S.src.size-p) p=ab1 S.src dg (S.src.size-S.pl) S.pl)∧Ext r w wr)
 case atStart=>exact⟨S.pl,h,z2,Nat.le_refl _,rfl,rfl,Ext.refl _ _⟩
 case round =>
  clear h
  obtain⟨p,h,hp,hl,hk,HE,HX⟩:=hrel
  have c0:=h.c0
  have c1:=h.c1
  have f1:=h.f1
  have HR:=zb h
  clear h
  subst hk
  by_cases hlt:p<S.src.size
  ·have hlt':decide ((p:Int)<S.src.size)=true:=by simp;omega
   have hlt2:(p:Int)<S.src.size:=by omega
   cases hb:dg S.src[p].toNat
   ·have H1:=zb ((ara (B:=dg) hlt hb).symm.trans (za HE))
    clear HE
    go_wp2
    go_quiet ((go_at_call 119;exact Calls.quiet_of_same (ajg _ _)))
    go_wp2
    go_quiet (fail)
    go_wp2
    go_ret
    rw[←za H1]
    refine⟨?_,hl,((za HR).drewN _).drewN _,⟨z1,hp,?_⟩,(HX.drewN _).drewN _⟩
    ·simp
    ·show S.ln≤p+1
     omega
   ·have H1:=zb ((ahe (B:=dg) hlt hb).symm.trans (za HE))
    clear HE
    go_wp2
    go_quiet ((go_at_call 119;exact Calls.quiet_of_same (ajg _ _)))
    go_wp2
    go_roundg (S.src.size-(p+1))
    case measure=>omega
    case rel=>exact⟨p+1,((za HR).drewN _).set1 (p+1),by omega,by omega,rfl,H1,(HX.drewN _).setCell 1 _⟩
  ·have hlt':decide ((p:Int)<S.src.size)=false:=by simp;omega
   have H1:=zb ((aoi (B:=dg) hlt).symm.trans (za HE))
   clear HE
   go_wp2
   go_quiet ((go_at_call 119;exact Calls.quiet_of_same (ajg _ _)))
   go_wp2
   go_quiet (fail)
   go_wp2
   go_ret
   rw[←za H1]
   refine⟨?_,hl,((za HR).drewN _).drewN _,⟨z1,hp,?_⟩,(HX.drewN _).drewN _⟩
   ·simp
   ·show S.ln≤p+1
    omega
end Go.Proofs.YtndgajlidckcdaaGreatDoor
