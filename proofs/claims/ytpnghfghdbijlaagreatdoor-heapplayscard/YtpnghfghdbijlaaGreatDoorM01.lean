/- A part. -/
import Derived.Test.YtpnghfghdbijlaaGreatDoorRows
import Derived.WalkKit
import Derived.WalkSpells
import Derived.WalkLawsBesides
import Derived.Deep.QuietTactic
import Derived.BigQuiet
import Derived.Deep.RegionHeld3
import Derived.Deep.DeepCutAuto
import Derived.Deep.LoopGhost
import Derived.Deep.AppendLies
import Derived.Deep.OwnRows
open Go.Proofs.Tryz
namespace Go.Proofs.YtpnghfghdbijlaaGreatDoor
open Go.RowKit
set_option linter.unusedVariables false
set_option linter.unusedSimpArgs false
set_option maxRecDepth 100000
set_option maxHeartbeats 40000000
theorem sA {α:Type} (l:List α) (i:Nat) (a:α):l.toArray.setIfInBounds i a=(l.set i a).toArray:=List.setIfInBounds_toArray ..
theorem sB {α:Type} (x:α) (xs:List α) (a:α):(x :: xs).set 0 a=a :: xs:=List.set_cons_zero ..
theorem sC {α:Type} (x:α) (xs:List α) (n:Nat) (a:α):(x :: xs).set (n+1) a=x :: xs.set n a:=List.set_cons_succ ..
theorem gtE {α:Type} {xs:Array α} {i:Nat} {b:α} (h:xs[i]?=some b):∃h:i<xs.size,xs[i]=b:=Array.getElem?_eq_some_iff.1 h
theorem zc {p:Prop} (h:p):Hid p:=h
theorem za {p:Prop} (h:Hid p):p:=h
theorem rb {a b:Bool} (h:a=b):Ending.returned (.bool a)=.returned (.bool b):=by rw[h]
theorem ze {w:World} {a:Addr} {v:Value} (h:w.cell? a=some v):a.block<w.heap.size:=by
 rcases Nat.lt_or_ge a.block w.heap.size with k | k
 ·exact k
 ·simp[World.cell?,Array.getElem?_eq_none k] at h
theorem zj {B:Nat} {w w':World} (hb:Below B w w') {a:Addr} {v:Value} (h:w.cell? a=some v) (hl:a.block<B):w'.cell? a=some v:=(hb.cell hl).trans h
def iv (n:Int):Value:=.int .i64 n
def I64 (n:Int):Prop:=-9223372036854775808≤n∧n≤9223372036854775807
theorem zd {w:World} {b:Nat} {cs:Array Value} {t:TypeId} {fr:Nat×Nat} (h:w.heap[b]?=some (.cells cs t fr)) (i:Nat):w.cell? ⟨b,i,none⟩=cs[i]?:=by
 simp[World.cell?,h]
theorem zt {w:World} {b:Nat} {cs:Array Value} {t:TypeId} (h:w.heap[b]?=some (.cells cs t (0,0))) (i:Nat):w.frozen? ⟨b,i,none⟩=false:=by
 simp[World.frozen?,h]
theorem aad {w:World} {b:Nat} {cs:Array Value} {t:TypeId} {fr:Nat×Nat} (h:w.heap[b]?=some (.cells cs t fr)) (i:Nat) (v:Value):(w.setCell ⟨b,i,none⟩ v).heap[b]?=some (.cells (cs.setIfInBounds i v) t fr):=by
 simp[World.setCell,h,Array.getElem?_modify]
theorem zo {w:World} {b i:Nat} {j:Nat} (v:Value) (h:j≠b):(w.setCell ⟨b,i,none⟩ v).heap[j]?=w.heap[j]?:=Below.heap_setCell _ _ _ _ h
theorem hlt {w:World} {b:Nat} {o:Obj} (h:w.heap[b]?=some o):b<w.heap.size:=(gtE h).1
theorem aan (w:World) (o:Obj):(w.alloc o).heap[w.heap.size]?=some o:=by
 show (w.heap.push o)[w.heap.size]?=_
 simp
theorem afg {W:World} {H:Nat} (hH:W.heap.size=H) (cs:Array Value) (t:TypeId):∀j u,cs.toList[j]?=some u→(W.alloc (.cells cs t)).cell? ((⟨H,0,none⟩:Addr).add j)=some u :=
 World.news_of_block (B:=H) (by rw[←hH];exact aan _ _)
theorem ape (n:Int):∀u∈[Value.int .i64 n],u.oneCell'=true:=fun u hu=>by simp at hu;subst hu;rfl
theorem Bl.drewN {B:Nat} {a w:World} (h:Below B a w) (n:Nat):Below B a (w.drewN n):=⟨h.os,h.tape,h.output,h.size,h.block⟩
theorem aac {w:World} {a:Addr} {v:Value} (h:w.cell? a=some v):∀o,(w.alloc o).cell? a=some v:=fun o=>by
 rw[World.cell?_alloc_lt _ _ a (ze h)];exact h
theorem Below.drew {B:Nat} {w w':World} (h:Below B w w'):Below B w w'.drew:=⟨h.os,h.tape,h.output,h.size,h.block⟩
def afh (w:World) (e:Ending) (w':World):Prop:=(∃q,e=.returned (.tuple #[.int .i64 q,.bool false]))∧Below w.heap.size w w'
theorem aav {y:Int} (h1:-9223372036854775808≤y) (h2:y≤9223372036854775807):IntKind.i64.wrap y=y:=by
 rw[IntKind.wrap_i64];omega
theorem ajq {x q:Int} (h:IntKind.i64.wrap x=q) (hq:0≤q):IntKind.i64.wrap (q.tdiv 2)=q.tdiv 2∧decide (q.tdiv 2<0)=false:=by
 have h1:q≤9223372036854775807:=by
  rw[←h,IntKind.wrap_i64];omega
 have h2:=Int.tdiv_nonneg hq (show (0:Int)≤2 by decide)
 have h3:q.tdiv 2≤q:=Int.tdiv_le_self _ hq
 exact⟨aav (by omega) (by omega),by simp;omega⟩
structure Hp (w:World) (h mb:Nat) (vo vf:Value) (last:Int):Prop where
 blk:w.heap[h]?=some (.cells #[.int .i64 1,vo,vf,.int .i64 2,.slice none 0 0,.slice none 0 0,.int .i64 10,.int .i64 10,.slice none 0 0,.map (some mb),.int .i64 last,.int .i64 0,.int .i64 0] 51 (0,0))
theorem Hp.keep {w w':World} {h mb:Nat} {vo vf:Value} {last:Int} (k:Hp w h mb vo vf last) (hb:Below w.heap.size w w'):Hp w' h mb vo vf last:=⟨(hb.block h (hlt k.blk)).trans k.blk⟩
theorem ix0 (x y:Option Addr) (w:World):(Go.Instr.index 114 (.agg #[.pointer x,.pointer y]) (.int .i64 0)).run prog w=.ok (.pointer x) w:=by kernel_rfl
theorem ix1 (x y:Option Addr) (w:World):(Go.Instr.index 114 (.agg #[.pointer x,.pointer y]) (.int .i64 1)).run prog w=.ok (.pointer y) w:=by kernel_rfl
def NoPart (w:World) (e:Ending) (w':World):Prop:=e=.returned (.tuple #[.pointer none,.int .i64 0])∧Below w.heap.size w w'
def NumG (f a:Int) (n:Nat) (w:World) (e:Ending) (w':World):Prop:=∃(q:Int) (ok:Bool),e=.returned (.tuple #[.int .i64 q,.bool ok])∧Below w.heap.size w w'∧(ok=true→∃i:Nat,i<n∧q=i∧a=f+2*i)∧(ok=false→∀i:Nat,i<n→a≠f+2*i)
theorem apf {a f:Int} (ha:I64 a) (h0:0≤f) (h1:f≤4611686018427387904) {q:Int} (h:IntKind.i64.wrap (a-f)=q) (hq:0≤q) (hs:q<4611686018427387904):a=f+q:=by
 obtain⟨h2,h3⟩:=ha
 rw[IntKind.wrap_i64] at h
 omega
theorem way_of {a f:Int} {i n:Nat} (h0:0≤f) (h1:f+2*n≤4611686018427387904) (hi:i<n) (e:a=f+2*i):IntKind.i64.wrap (a-f)=2*i:=by
 rw[IntKind.wrap_i64]
 omega
theorem ae7 {w:World} {b o:Nat} {f a:Int} {g:Option Addr} {n cap:Nat} (h0:w.cell? ⟨b,o,none⟩=some (.int .i64 f)) (h1:w.cell? ⟨b,o+1,none⟩=some (.slice g n cap)) (ha:I64 a) (hf:0≤f) (hn:f+2*n≤4611686018427387904) :
  Calls prog 57 #[.pointer (some ⟨b,o,none⟩),.int .i64 a] w fun e w'=>NumG f a n w e w':=by
 obtain⟨q,hq⟩:∃q,IntKind.i64.wrap (a-f)=q:=⟨_,rfl⟩
 have HW:=zc (fun (i:Nat) (hi:i<n) (e:a=f+2*i)=>hq.symm.trans (way_of hf hn hi e))
 have HA:=zc ha
 have HF:=zc hf
 have HN:=zc hn
 have HQ:=zc hq
 clear ha hf hn
 by_cases hw:0≤q
 ·obtain⟨e1,_⟩:=ajq hq hw
  by_cases hm:Int.tmod q 2=0
  ·have d3:(Int.tmod q 2==0)=true:=by simpa using hm
   have HM:=zc hm
   have HP:=zc hw
   by_cases hl:q.tdiv 2<(n:Int)
   ·have d4:decide (q.tdiv 2<(n:Int))=true:=by simpa using hl
    have HL:=zc hl
    clear hl
    go_enter func57,ntmps57
    go_wp2_with fail
    refine wp_region_held_drew (S:=(fun w'=>w'.cell? ⟨b,o+1,none⟩=some (.slice g n cap))) (by kernel_rfl) (by go_keep) (fun hHeld=>?_)
    refine wpAnyH_take (i:=0) (oi:={ dst:=some 13,op:=_,type:=_,pos:=_,after:=_,guard:=_ }) (v:=?_) rfl (by kernel_rfl) (by kernel_rfl) (by kernel_rfl) (fun _ _ _ h=>h) (Or.inl ⟨by rfl,?_⟩) (by assumption) ?_
    case refine_2 =>
     intro w hSw
     try dsimp only at hSw
     go_simp
     try with_reducible rfl
    simp only[Act.put,sA,sB,sC]
    refine wpAnyH_take (i:=1) (oi:={ dst:=some 14,op:=_,type:=_,pos:=_,after:=_,guard:=_ }) (v:=?_) rfl (by kernel_rfl) (by kernel_rfl) (by kernel_rfl) (fun _ _ _ h=>h) (Or.inl ⟨by rfl,?_⟩) (by assumption) ?_
    case refine_2 =>
     intro w hSw
     try dsimp only at hSw
     go_simp
     try with_reducible rfl
    simp only[Act.put,sA,sB,sC]
    refine wpAnyH_take (i:=2) (oi:={ dst:=some 15,op:=_,type:=_,pos:=_,after:=_,guard:=_ }) (v:=?_) rfl (by kernel_rfl) (by kernel_rfl) (by kernel_rfl) (fun _ _ _ h=>h) (Or.inl ⟨by rfl,?_⟩) (by assumption) ?_
    case refine_2 =>
     intro w hSw
     try dsimp only at hSw
     go_simp
     try with_reducible rfl
    simp only[Act.put,sA,sB,sC]
    refine wpAnyH_take (i:=3) (oi:={ dst:=some 16,op:=_,type:=_,pos:=_,after:=_,guard:=_ }) (v:=?_) rfl (by kernel_rfl) (by kernel_rfl) (by kernel_rfl) (fun _ _ _ h=>h) (Or.inl ⟨by rfl,?_⟩) (by assumption) ?_
    case refine_2 =>
     intro w hSw
     try dsimp only at hSw
     go_simp
     try with_reducible rfl
    simp only[Act.put,sA,sB,sC]
    refine wpAnyH_take (i:=4) (oi:={ dst:=some 17,op:=_,type:=_,pos:=_,after:=_,guard:=_ }) (v:=?_) rfl (by kernel_rfl) (by kernel_rfl) (by kernel_rfl) (fun _ _ _ h=>h) (Or.inl ⟨by rfl,?_⟩) (by assumption) ?_
    case refine_2 =>
     intro w hSw
     try dsimp only at hSw
     go_simp
     try with_reducible rfl
    simp only[Act.put,sA,sB,sC]
    refine wpAnyH_take (i:=5) (oi:={ dst:=some 18,op:=_,type:=_,pos:=_,after:=_,guard:=_ }) (v:=?_) rfl (by kernel_rfl) (by kernel_rfl) (by kernel_rfl) (fun _ _ _ h=>h) (Or.inl ⟨by rfl,?_⟩) (by assumption) ?_
    case refine_2 =>
     intro w hSw
     try dsimp only at hSw
     go_simp
     try with_reducible rfl
    simp only[Act.put,sA,sB,sC]
    refine wpAnyH_take (i:=6) (oi:={ dst:=some 19,op:=_,type:=_,pos:=_,after:=_,guard:=_ }) (v:=?_) rfl (by kernel_rfl) (by kernel_rfl) (by kernel_rfl) (fun _ _ _ h=>h) (Or.inl ⟨by rfl,?_⟩) (by assumption) ?_
    case refine_2 =>
     intro w hSw
     try dsimp only at hSw
     go_simp
     try with_reducible rfl
    simp only[Act.put,sA,sB,sC]
    refine wpAnyH_take (i:=7) (oi:={ dst:=some 20,op:=_,type:=_,pos:=_,after:=_,guard:=_ }) (v:=?_) rfl (by kernel_rfl) (by kernel_rfl) (by kernel_rfl) (fun _ _ _ h=>h) (Or.inl ⟨by rfl,?_⟩) (by assumption) ?_
    case refine_2 =>
     intro w hSw
     try dsimp only at hSw
     go_simp
     try with_reducible rfl
    simp only[Act.put,sA,sB,sC]
    refine wpAnyH_take (i:=8) (oi:={ dst:=some 21,op:=_,type:=_,pos:=_,after:=_,guard:=_ }) (v:=?_) rfl (by kernel_rfl) (by kernel_rfl) (by kernel_rfl) (fun _ _ _ h=>h) (Or.inl ⟨by rfl,?_⟩) (by assumption) ?_
    case refine_2 =>
     intro w hSw
     try dsimp only at hSw
     go_simp
     try with_reducible rfl
    simp only[Act.put,sA,sB,sC]
    refine wpAnyH_take (i:=9) (oi:={ dst:=some 22,op:=_,type:=_,pos:=_,after:=_,guard:=_ }) (v:=?_) rfl (by kernel_rfl) (by kernel_rfl) (by kernel_rfl) (fun _ _ _ h=>h) (Or.inl ⟨by rfl,?_⟩) (by assumption) ?_
    case refine_2 =>
     intro w hSw
     try dsimp only at hSw
     go_simp
     try with_reducible rfl
    simp only[Act.put,sA,sB,sC]
    refine wpAnyH_take (i:=10) (oi:={ dst:=some 23,op:=_,type:=_,pos:=_,after:=_,guard:=_ }) (v:=?_) rfl (by kernel_rfl) (by kernel_rfl) (by kernel_rfl) (fun _ _ _ h=>h) (Or.inl ⟨by rfl,?_⟩) (by assumption) ?_
    case refine_2 =>
     intro w hSw
     try dsimp only at hSw
     go_simp
     try with_reducible rfl
    simp only[Act.put,sA,sB,sC]
    refine wpAnyH_take (i:=11) (oi:={ dst:=some 24,op:=_,type:=_,pos:=_,after:=_,guard:=_ }) (v:=?_) rfl (by kernel_rfl) (by kernel_rfl) (by kernel_rfl) (fun _ _ _ h=>h) (Or.inl ⟨by rfl,?_⟩) (by assumption) ?_
    case refine_2 =>
     intro w hSw
     try dsimp only at hSw
     go_simp
     try with_reducible rfl
    simp only[Act.put,sA,sB,sC]
    refine wpAnyH_take (i:=12) (oi:={ dst:=some 25,op:=_,type:=_,pos:=_,after:=_,guard:=_ }) (v:=?_) rfl (by kernel_rfl) (by kernel_rfl) (by kernel_rfl) (fun _ _ _ h=>h) (Or.inl ⟨by rfl,?_⟩) (by assumption) ?_
    case refine_2 =>
     intro w hSw
     try dsimp only at hSw
     go_simp
     try with_reducible rfl
    simp only[Act.put,sA,sB,sC]
    refine wpAnyH_take (i:=13) (oi:={ dst:=some 26,op:=_,type:=_,pos:=_,after:=_,guard:=_ }) (v:=?_) rfl (by kernel_rfl) (by kernel_rfl) (by kernel_rfl) (fun _ _ _ h=>h) (Or.inl ⟨by rfl,?_⟩) (by assumption) ?_
    case refine_2 =>
     intro w hSw
     try dsimp only at hSw
     go_simp
     try with_reducible rfl
    simp only[Act.put,sA,sB,sC]
    refine wpAnyH_take (i:=14) (oi:={ dst:=some 27,op:=_,type:=_,pos:=_,after:=_,guard:=_ }) (v:=?_) rfl (by kernel_rfl) (by kernel_rfl) (by kernel_rfl) (fun _ _ _ h=>h) (Or.inl ⟨by rfl,?_⟩) (by assumption) ?_
    case refine_2 =>
     intro w hSw
     try dsimp only at hSw
     go_simp
     try with_reducible rfl
    simp only[Act.put,sA,sB,sC]
    refine wpAnyH_take (i:=15) (oi:={ dst:=some 28,op:=_,type:=_,pos:=_,after:=_,guard:=_ }) (v:=?_) rfl (by kernel_rfl) (by kernel_rfl) (by kernel_rfl) (fun _ _ _ h=>h) (Or.inl ⟨by rfl,?_⟩) (by assumption) ?_
    case refine_2 =>
     intro w hSw
     try dsimp only at hSw
     go_simp
     try with_reducible rfl
    simp only[Act.put,sA,sB,sC]
    refine wpAnyH_take (i:=16) (oi:={ dst:=some 29,op:=_,type:=_,pos:=_,after:=_,guard:=_ }) (v:=?_) rfl (by kernel_rfl) (by kernel_rfl) (by kernel_rfl) (fun _ _ _ h=>h) (Or.inl ⟨by rfl,?_⟩) (by assumption) ?_
    case refine_2 =>
     intro w hSw
     try dsimp only at hSw
     go_simp
     try with_reducible rfl
    simp only[Act.put,sA,sB,sC]
    refine wpAnyH_take (i:=17) (oi:={ dst:=some 30,op:=_,type:=_,pos:=_,after:=_,guard:=_ }) (v:=?_) rfl (by kernel_rfl) (by kernel_rfl) (by kernel_rfl) (fun _ _ _ h=>h) (Or.inl ⟨by rfl,?_⟩) (by assumption) ?_
    case refine_2 =>
     intro w hSw
     try dsimp only at hSw
     go_simp
     try with_reducible rfl
    simp only[Act.put,sA,sB,sC]
    refine wpAnyH_take (i:=18) (oi:={ dst:=some 31,op:=_,type:=_,pos:=_,after:=_,guard:=_ }) (v:=?_) rfl (by kernel_rfl) (by kernel_rfl) (by kernel_rfl) (fun _ _ _ h=>h) (Or.inl ⟨by rfl,?_⟩) (by assumption) ?_
    case refine_2 =>
     intro w hSw
     try dsimp only at hSw
     go_simp
     try with_reducible rfl
    simp only[Act.put,sA,sB,sC]
    refine wpAnyH_take (i:=19) (oi:={ dst:=some 4,op:=_,type:=_,pos:=_,after:=_,guard:=_ }) (v:=?_) rfl (by kernel_rfl) (by kernel_rfl) (by kernel_rfl) (fun _ _ _ h=>h) (Or.inl ⟨by rfl,?_⟩) (by assumption) ?_
    case refine_2 =>
     intro w hSw
     try dsimp only at hSw
     go_simp
     try with_reducible rfl
    simp only[Act.put,sA,sB,sC]
    refine wpAnyH_take (i:=20) (oi:={ dst:=some 5,op:=_,type:=_,pos:=_,after:=_,guard:=_ }) (v:=?_) rfl (by kernel_rfl) (by kernel_rfl) (by kernel_rfl) (fun _ _ _ h=>h) (Or.inl ⟨by rfl,?_⟩) (by assumption) ?_
    case refine_2 =>
     intro w hSw
     try dsimp only at hSw
     go_simp
     try with_reducible rfl
    simp only[Act.put,sA,sB,sC]
    refine wpAnyH_done (by kernel_rfl) ?_ _
    go_wp2_with fail
    go_ret2
    refine⟨_,_,rfl,Below.drew (Below.refl _ _),fun _=>?_,fun q=>by cases q⟩
    have p1:=za HP
    have p2:=za HM
    have p3:=za HL
    rw[Int.tmod_eq_emod_of_nonneg p1] at p2
    rw[Int.tdiv_eq_ediv_of_nonneg p1] at p3
    have p4:=za HN
    have p5:=za HF
    have p6:=apf (za HA) p5 (by omega) (za HQ) p1 (by omega)
    refine⟨(q / 2).toNat,by omega,?_,by omega⟩
    show q.tdiv 2=_
    rw[Int.tdiv_eq_ediv_of_nonneg p1]
    omega
   ·have d4:decide (q.tdiv 2<(n:Int))=false:=by simpa using hl
    have HL:=zc hl
    clear hl
    go_enter func57,ntmps57
    go_wp2_with fail
    refine wp_region_held_drew (S:=(fun w'=>w'.cell? ⟨b,o+1,none⟩=some (.slice g n cap))) (by kernel_rfl) (by go_keep) (fun hHeld=>?_)
    refine wpAnyH_take (i:=0) (oi:={ dst:=some 13,op:=_,type:=_,pos:=_,after:=_,guard:=_ }) (v:=?_) rfl (by kernel_rfl) (by kernel_rfl) (by kernel_rfl) (fun _ _ _ h=>h) (Or.inl ⟨by rfl,?_⟩) (by assumption) ?_
    case refine_2 =>
     intro w hSw
     try dsimp only at hSw
     go_simp
     try with_reducible rfl
    simp only[Act.put,sA,sB,sC]
    refine wpAnyH_take (i:=1) (oi:={ dst:=some 14,op:=_,type:=_,pos:=_,after:=_,guard:=_ }) (v:=?_) rfl (by kernel_rfl) (by kernel_rfl) (by kernel_rfl) (fun _ _ _ h=>h) (Or.inl ⟨by rfl,?_⟩) (by assumption) ?_
    case refine_2 =>
     intro w hSw
     try dsimp only at hSw
     go_simp
     try with_reducible rfl
    simp only[Act.put,sA,sB,sC]
    refine wpAnyH_take (i:=2) (oi:={ dst:=some 15,op:=_,type:=_,pos:=_,after:=_,guard:=_ }) (v:=?_) rfl (by kernel_rfl) (by kernel_rfl) (by kernel_rfl) (fun _ _ _ h=>h) (Or.inl ⟨by rfl,?_⟩) (by assumption) ?_
    case refine_2 =>
     intro w hSw
     try dsimp only at hSw
     go_simp
     try with_reducible rfl
    simp only[Act.put,sA,sB,sC]
    refine wpAnyH_take (i:=3) (oi:={ dst:=some 16,op:=_,type:=_,pos:=_,after:=_,guard:=_ }) (v:=?_) rfl (by kernel_rfl) (by kernel_rfl) (by kernel_rfl) (fun _ _ _ h=>h) (Or.inl ⟨by rfl,?_⟩) (by assumption) ?_
    case refine_2 =>
     intro w hSw
     try dsimp only at hSw
     go_simp
     try with_reducible rfl
    simp only[Act.put,sA,sB,sC]
    refine wpAnyH_take (i:=4) (oi:={ dst:=some 17,op:=_,type:=_,pos:=_,after:=_,guard:=_ }) (v:=?_) rfl (by kernel_rfl) (by kernel_rfl) (by kernel_rfl) (fun _ _ _ h=>h) (Or.inl ⟨by rfl,?_⟩) (by assumption) ?_
    case refine_2 =>
     intro w hSw
     try dsimp only at hSw
     go_simp
     try with_reducible rfl
    simp only[Act.put,sA,sB,sC]
    refine wpAnyH_take (i:=5) (oi:={ dst:=some 18,op:=_,type:=_,pos:=_,after:=_,guard:=_ }) (v:=?_) rfl (by kernel_rfl) (by kernel_rfl) (by kernel_rfl) (fun _ _ _ h=>h) (Or.inl ⟨by rfl,?_⟩) (by assumption) ?_
    case refine_2 =>
     intro w hSw
     try dsimp only at hSw
     go_simp
     try with_reducible rfl
    simp only[Act.put,sA,sB,sC]
    refine wpAnyH_take (i:=6) (oi:={ dst:=some 19,op:=_,type:=_,pos:=_,after:=_,guard:=_ }) (v:=?_) rfl (by kernel_rfl) (by kernel_rfl) (by kernel_rfl) (fun _ _ _ h=>h) (Or.inl ⟨by rfl,?_⟩) (by assumption) ?_
    case refine_2 =>
     intro w hSw
     try dsimp only at hSw
     go_simp
     try with_reducible rfl
    simp only[Act.put,sA,sB,sC]
    refine wpAnyH_take (i:=7) (oi:={ dst:=some 20,op:=_,type:=_,pos:=_,after:=_,guard:=_ }) (v:=?_) rfl (by kernel_rfl) (by kernel_rfl) (by kernel_rfl) (fun _ _ _ h=>h) (Or.inl ⟨by rfl,?_⟩) (by assumption) ?_
    case refine_2 =>
     intro w hSw
     try dsimp only at hSw
     go_simp
     try with_reducible rfl
    simp only[Act.put,sA,sB,sC]
    refine wpAnyH_take (i:=8) (oi:={ dst:=some 21,op:=_,type:=_,pos:=_,after:=_,guard:=_ }) (v:=?_) rfl (by kernel_rfl) (by kernel_rfl) (by kernel_rfl) (fun _ _ _ h=>h) (Or.inl ⟨by rfl,?_⟩) (by assumption) ?_
    case refine_2 =>
     intro w hSw
     try dsimp only at hSw
     go_simp
     try with_reducible rfl
    simp only[Act.put,sA,sB,sC]
    refine wpAnyH_take (i:=9) (oi:={ dst:=some 22,op:=_,type:=_,pos:=_,after:=_,guard:=_ }) (v:=?_) rfl (by kernel_rfl) (by kernel_rfl) (by kernel_rfl) (fun _ _ _ h=>h) (Or.inl ⟨by rfl,?_⟩) (by assumption) ?_
    case refine_2 =>
     intro w hSw
     try dsimp only at hSw
     go_simp
     try with_reducible rfl
    simp only[Act.put,sA,sB,sC]
    refine wpAnyH_take (i:=10) (oi:={ dst:=some 23,op:=_,type:=_,pos:=_,after:=_,guard:=_ }) (v:=?_) rfl (by kernel_rfl) (by kernel_rfl) (by kernel_rfl) (fun _ _ _ h=>h) (Or.inl ⟨by rfl,?_⟩) (by assumption) ?_
    case refine_2 =>
     intro w hSw
     try dsimp only at hSw
     go_simp
     try with_reducible rfl
    simp only[Act.put,sA,sB,sC]
    refine wpAnyH_take (i:=11) (oi:={ dst:=some 24,op:=_,type:=_,pos:=_,after:=_,guard:=_ }) (v:=?_) rfl (by kernel_rfl) (by kernel_rfl) (by kernel_rfl) (fun _ _ _ h=>h) (Or.inl ⟨by rfl,?_⟩) (by assumption) ?_
    case refine_2 =>
     intro w hSw
     try dsimp only at hSw
     go_simp
     try with_reducible rfl
    simp only[Act.put,sA,sB,sC]
    refine wpAnyH_take (i:=12) (oi:={ dst:=some 25,op:=_,type:=_,pos:=_,after:=_,guard:=_ }) (v:=?_) rfl (by kernel_rfl) (by kernel_rfl) (by kernel_rfl) (fun _ _ _ h=>h) (Or.inl ⟨by rfl,?_⟩) (by assumption) ?_
    case refine_2 =>
     intro w hSw
     try dsimp only at hSw
     go_simp
     try with_reducible rfl
    simp only[Act.put,sA,sB,sC]
    refine wpAnyH_take (i:=13) (oi:={ dst:=some 26,op:=_,type:=_,pos:=_,after:=_,guard:=_ }) (v:=?_) rfl (by kernel_rfl) (by kernel_rfl) (by kernel_rfl) (fun _ _ _ h=>h) (Or.inl ⟨by rfl,?_⟩) (by assumption) ?_
    case refine_2 =>
     intro w hSw
     try dsimp only at hSw
     go_simp
     try with_reducible rfl
    simp only[Act.put,sA,sB,sC]
    refine wpAnyH_take (i:=14) (oi:={ dst:=some 27,op:=_,type:=_,pos:=_,after:=_,guard:=_ }) (v:=?_) rfl (by kernel_rfl) (by kernel_rfl) (by kernel_rfl) (fun _ _ _ h=>h) (Or.inl ⟨by rfl,?_⟩) (by assumption) ?_
    case refine_2 =>
     intro w hSw
     try dsimp only at hSw
     go_simp
     try with_reducible rfl
    simp only[Act.put,sA,sB,sC]
    refine wpAnyH_take (i:=15) (oi:={ dst:=some 28,op:=_,type:=_,pos:=_,after:=_,guard:=_ }) (v:=?_) rfl (by kernel_rfl) (by kernel_rfl) (by kernel_rfl) (fun _ _ _ h=>h) (Or.inl ⟨by rfl,?_⟩) (by assumption) ?_
    case refine_2 =>
     intro w hSw
     try dsimp only at hSw
     go_simp
     try with_reducible rfl
    simp only[Act.put,sA,sB,sC]
    refine wpAnyH_take (i:=16) (oi:={ dst:=some 29,op:=_,type:=_,pos:=_,after:=_,guard:=_ }) (v:=?_) rfl (by kernel_rfl) (by kernel_rfl) (by kernel_rfl) (fun _ _ _ h=>h) (Or.inl ⟨by rfl,?_⟩) (by assumption) ?_
    case refine_2 =>
     intro w hSw
     try dsimp only at hSw
     go_simp
     try with_reducible rfl
    simp only[Act.put,sA,sB,sC]
    refine wpAnyH_take (i:=17) (oi:={ dst:=some 30,op:=_,type:=_,pos:=_,after:=_,guard:=_ }) (v:=?_) rfl (by kernel_rfl) (by kernel_rfl) (by kernel_rfl) (fun _ _ _ h=>h) (Or.inl ⟨by rfl,?_⟩) (by assumption) ?_
    case refine_2 =>
     intro w hSw
     try dsimp only at hSw
     go_simp
     try with_reducible rfl
    simp only[Act.put,sA,sB,sC]
    refine wpAnyH_take (i:=18) (oi:={ dst:=some 31,op:=_,type:=_,pos:=_,after:=_,guard:=_ }) (v:=?_) rfl (by kernel_rfl) (by kernel_rfl) (by kernel_rfl) (fun _ _ _ h=>h) (Or.inl ⟨by rfl,?_⟩) (by assumption) ?_
    case refine_2 =>
     intro w hSw
     try dsimp only at hSw
     go_simp
     try with_reducible rfl
    simp only[Act.put,sA,sB,sC]
    refine wpAnyH_take (i:=19) (oi:={ dst:=some 4,op:=_,type:=_,pos:=_,after:=_,guard:=_ }) (v:=?_) rfl (by kernel_rfl) (by kernel_rfl) (by kernel_rfl) (fun _ _ _ h=>h) (Or.inl ⟨by rfl,?_⟩) (by assumption) ?_
    case refine_2 =>
     intro w hSw
     try dsimp only at hSw
     go_simp
     try with_reducible rfl
    simp only[Act.put,sA,sB,sC]
    refine wpAnyH_take (i:=20) (oi:={ dst:=some 5,op:=_,type:=_,pos:=_,after:=_,guard:=_ }) (v:=?_) rfl (by kernel_rfl) (by kernel_rfl) (by kernel_rfl) (fun _ _ _ h=>h) (Or.inl ⟨by rfl,?_⟩) (by assumption) ?_
    case refine_2 =>
     intro w hSw
     try dsimp only at hSw
     go_simp
     try with_reducible rfl
    simp only[Act.put,sA,sB,sC]
    refine wpAnyH_done (by kernel_rfl) ?_ _
    go_wp2_with fail
    go_ret2
    refine⟨_,_,rfl,Below.drew (Below.refl _ _),fun q=>(by cases q),fun _ i hi e=>?_⟩
    have p1:=za HP
    have p3:=za HL
    rw[Int.tdiv_eq_ediv_of_nonneg p1] at p3
    have:=za HW i hi e
    omega
  ·have d3:(Int.tmod q 2==0)=false:=by simpa using hm
   have HM:=zc hm
   have HP:=zc hw
   go_enter func57,ntmps57
   go_wp2_with fail
   refine wp_region_held_drew (S:=(fun w'=>w'.cell? ⟨b,o+1,none⟩=some (.slice g n cap))) (by kernel_rfl) (by go_keep) (fun hHeld=>?_)
   refine wpAnyH_take (i:=0) (oi:={ dst:=some 13,op:=_,type:=_,pos:=_,after:=_,guard:=_ }) (v:=?_) rfl (by kernel_rfl) (by kernel_rfl) (by kernel_rfl) (fun _ _ _ h=>h) (Or.inl ⟨by rfl,?_⟩) (by assumption) ?_
   case refine_2 =>
    intro w hSw
    try dsimp only at hSw
    go_simp
    try with_reducible rfl
   simp only[Act.put,sA,sB,sC]
   refine wpAnyH_take (i:=1) (oi:={ dst:=some 14,op:=_,type:=_,pos:=_,after:=_,guard:=_ }) (v:=?_) rfl (by kernel_rfl) (by kernel_rfl) (by kernel_rfl) (fun _ _ _ h=>h) (Or.inl ⟨by rfl,?_⟩) (by assumption) ?_
   case refine_2 =>
    intro w hSw
    try dsimp only at hSw
    go_simp
    try with_reducible rfl
   simp only[Act.put,sA,sB,sC]
   refine wpAnyH_take (i:=2) (oi:={ dst:=some 15,op:=_,type:=_,pos:=_,after:=_,guard:=_ }) (v:=?_) rfl (by kernel_rfl) (by kernel_rfl) (by kernel_rfl) (fun _ _ _ h=>h) (Or.inl ⟨by rfl,?_⟩) (by assumption) ?_
   case refine_2 =>
    intro w hSw
    try dsimp only at hSw
    go_simp
    try with_reducible rfl
   simp only[Act.put,sA,sB,sC]
   refine wpAnyH_take (i:=3) (oi:={ dst:=some 16,op:=_,type:=_,pos:=_,after:=_,guard:=_ }) (v:=?_) rfl (by kernel_rfl) (by kernel_rfl) (by kernel_rfl) (fun _ _ _ h=>h) (Or.inl ⟨by rfl,?_⟩) (by assumption) ?_
   case refine_2 =>
    intro w hSw
    try dsimp only at hSw
    go_simp
    try with_reducible rfl
   simp only[Act.put,sA,sB,sC]
   refine wpAnyH_take (i:=4) (oi:={ dst:=some 17,op:=_,type:=_,pos:=_,after:=_,guard:=_ }) (v:=?_) rfl (by kernel_rfl) (by kernel_rfl) (by kernel_rfl) (fun _ _ _ h=>h) (Or.inl ⟨by rfl,?_⟩) (by assumption) ?_
   case refine_2 =>
    intro w hSw
    try dsimp only at hSw
    go_simp
    try with_reducible rfl
   simp only[Act.put,sA,sB,sC]
   refine wpAnyH_take (i:=5) (oi:={ dst:=some 18,op:=_,type:=_,pos:=_,after:=_,guard:=_ }) (v:=?_) rfl (by kernel_rfl) (by kernel_rfl) (by kernel_rfl) (fun _ _ _ h=>h) (Or.inl ⟨by rfl,?_⟩) (by assumption) ?_
   case refine_2 =>
    intro w hSw
    try dsimp only at hSw
    go_simp
    try with_reducible rfl
   simp only[Act.put,sA,sB,sC]
   refine wpAnyH_take (i:=6) (oi:={ dst:=some 19,op:=_,type:=_,pos:=_,after:=_,guard:=_ }) (v:=?_) rfl (by kernel_rfl) (by kernel_rfl) (by kernel_rfl) (fun _ _ _ h=>h) (Or.inl ⟨by rfl,?_⟩) (by assumption) ?_
   case refine_2 =>
    intro w hSw
    try dsimp only at hSw
    go_simp
    try with_reducible rfl
   simp only[Act.put,sA,sB,sC]
   refine wpAnyH_take (i:=7) (oi:={ dst:=some 20,op:=_,type:=_,pos:=_,after:=_,guard:=_ }) (v:=?_) rfl (by kernel_rfl) (by kernel_rfl) (by kernel_rfl) (fun _ _ _ h=>h) (Or.inl ⟨by rfl,?_⟩) (by assumption) ?_
   case refine_2 =>
    intro w hSw
    try dsimp only at hSw
    go_simp
    try with_reducible rfl
   simp only[Act.put,sA,sB,sC]
   refine wpAnyH_take (i:=8) (oi:={ dst:=some 21,op:=_,type:=_,pos:=_,after:=_,guard:=_ }) (v:=?_) rfl (by kernel_rfl) (by kernel_rfl) (by kernel_rfl) (fun _ _ _ h=>h) (Or.inl ⟨by rfl,?_⟩) (by assumption) ?_
   case refine_2 =>
    intro w hSw
    try dsimp only at hSw
    go_simp
    try with_reducible rfl
   simp only[Act.put,sA,sB,sC]
   refine wpAnyH_take (i:=9) (oi:={ dst:=some 22,op:=_,type:=_,pos:=_,after:=_,guard:=_ }) (v:=?_) rfl (by kernel_rfl) (by kernel_rfl) (by kernel_rfl) (fun _ _ _ h=>h) (Or.inl ⟨by rfl,?_⟩) (by assumption) ?_
   case refine_2 =>
    intro w hSw
    try dsimp only at hSw
    go_simp
    try with_reducible rfl
   simp only[Act.put,sA,sB,sC]
   refine wpAnyH_take (i:=10) (oi:={ dst:=some 23,op:=_,type:=_,pos:=_,after:=_,guard:=_ }) (v:=undef) rfl (by kernel_rfl) (by kernel_rfl) (by kernel_rfl) (fun _ _ _ h=>h) (Or.inr ⟨by rfl,rfl⟩) (by assumption) ?_
   simp only[Act.put,sA,sB,sC]
   refine wpAnyH_take (i:=11) (oi:={ dst:=some 24,op:=_,type:=_,pos:=_,after:=_,guard:=_ }) (v:=undef) rfl (by kernel_rfl) (by kernel_rfl) (by kernel_rfl) (fun _ _ _ h=>h) (Or.inr ⟨by rfl,rfl⟩) (by assumption) ?_
   simp only[Act.put,sA,sB,sC]
   refine wpAnyH_take (i:=12) (oi:={ dst:=some 25,op:=_,type:=_,pos:=_,after:=_,guard:=_ }) (v:=undef) rfl (by kernel_rfl) (by kernel_rfl) (by kernel_rfl) (fun _ _ _ h=>h) (Or.inr ⟨by rfl,rfl⟩) (by assumption) ?_
   simp only[Act.put,sA,sB,sC]
   refine wpAnyH_take (i:=13) (oi:={ dst:=some 26,op:=_,type:=_,pos:=_,after:=_,guard:=_ }) (v:=undef) rfl (by kernel_rfl) (by kernel_rfl) (by kernel_rfl) (fun _ _ _ h=>h) (Or.inr ⟨by rfl,rfl⟩) (by assumption) ?_
   simp only[Act.put,sA,sB,sC]
   refine wpAnyH_take (i:=14) (oi:={ dst:=some 27,op:=_,type:=_,pos:=_,after:=_,guard:=_ }) (v:=undef) rfl (by kernel_rfl) (by kernel_rfl) (by kernel_rfl) (fun _ _ _ h=>h) (Or.inr ⟨by rfl,rfl⟩) (by assumption) ?_
   simp only[Act.put,sA,sB,sC]
   refine wpAnyH_take (i:=15) (oi:={ dst:=some 28,op:=_,type:=_,pos:=_,after:=_,guard:=_ }) (v:=undef) rfl (by kernel_rfl) (by kernel_rfl) (by kernel_rfl) (fun _ _ _ h=>h) (Or.inr ⟨by rfl,rfl⟩) (by assumption) ?_
   simp only[Act.put,sA,sB,sC]
   refine wpAnyH_take (i:=16) (oi:={ dst:=some 29,op:=_,type:=_,pos:=_,after:=_,guard:=_ }) (v:=undef) rfl (by kernel_rfl) (by kernel_rfl) (by kernel_rfl) (fun _ _ _ h=>h) (Or.inr ⟨by rfl,rfl⟩) (by assumption) ?_
   simp only[Act.put,sA,sB,sC]
   refine wpAnyH_take (i:=17) (oi:={ dst:=some 30,op:=_,type:=_,pos:=_,after:=_,guard:=_ }) (v:=undef) rfl (by kernel_rfl) (by kernel_rfl) (by kernel_rfl) (fun _ _ _ h=>h) (Or.inr ⟨by rfl,rfl⟩) (by assumption) ?_
   simp only[Act.put,sA,sB,sC]
   refine wpAnyH_take (i:=18) (oi:={ dst:=some 31,op:=_,type:=_,pos:=_,after:=_,guard:=_ }) (v:=?_) rfl (by kernel_rfl) (by kernel_rfl) (by kernel_rfl) (fun _ _ _ h=>h) (Or.inl ⟨by rfl,?_⟩) (by assumption) ?_
   case refine_2 =>
    intro w hSw
    try dsimp only at hSw
    go_simp
    try with_reducible rfl
   simp only[Act.put,sA,sB,sC]
   refine wpAnyH_take (i:=19) (oi:={ dst:=some 4,op:=_,type:=_,pos:=_,after:=_,guard:=_ }) (v:=?_) rfl (by kernel_rfl) (by kernel_rfl) (by kernel_rfl) (fun _ _ _ h=>h) (Or.inl ⟨by rfl,?_⟩) (by assumption) ?_
   case refine_2 =>
    intro w hSw
    try dsimp only at hSw
    go_simp
    try with_reducible rfl
   simp only[Act.put,sA,sB,sC]
   refine wpAnyH_take (i:=20) (oi:={ dst:=some 5,op:=_,type:=_,pos:=_,after:=_,guard:=_ }) (v:=?_) rfl (by kernel_rfl) (by kernel_rfl) (by kernel_rfl) (fun _ _ _ h=>h) (Or.inl ⟨by rfl,?_⟩) (by assumption) ?_
   case refine_2 =>
    intro w hSw
    try dsimp only at hSw
    go_simp
    try with_reducible rfl
   simp only[Act.put,sA,sB,sC]
   refine wpAnyH_done (by kernel_rfl) ?_ _
   go_wp2_with fail
   go_ret2
   refine⟨_,_,rfl,Below.drew (Below.refl _ _),fun q=>(by cases q),fun _ i hi e=>?_⟩
   have p1:=za HP
   have p3:=za HM
   rw[Int.tmod_eq_emod_of_nonneg p1] at p3
   have:=za HW i hi e
   omega
 ·have d1:decide (0≤q)=false:=by simpa using hw
  have HP:=zc hw
  go_enter func57,ntmps57
  go_wp2_with fail
  refine wp_region_held_drew (S:=(fun w'=>w'.cell? ⟨b,o+1,none⟩=some (.slice g n cap))) (by kernel_rfl) (by go_keep) (fun hHeld=>?_)
  refine wpAnyH_take (i:=0) (oi:={ dst:=some 13,op:=_,type:=_,pos:=_,after:=_,guard:=_ }) (v:=?_) rfl (by kernel_rfl) (by kernel_rfl) (by kernel_rfl) (fun _ _ _ h=>h) (Or.inl ⟨by rfl,?_⟩) (by assumption) ?_
  case refine_2 =>
   intro w hSw
   try dsimp only at hSw
   go_simp
   try with_reducible rfl
  simp only[Act.put,sA,sB,sC]
  refine wpAnyH_take (i:=1) (oi:={ dst:=some 14,op:=_,type:=_,pos:=_,after:=_,guard:=_ }) (v:=?_) rfl (by kernel_rfl) (by kernel_rfl) (by kernel_rfl) (fun _ _ _ h=>h) (Or.inl ⟨by rfl,?_⟩) (by assumption) ?_
  case refine_2 =>
   intro w hSw
   try dsimp only at hSw
   go_simp
   try with_reducible rfl
  simp only[Act.put,sA,sB,sC]
  refine wpAnyH_take (i:=2) (oi:={ dst:=some 15,op:=_,type:=_,pos:=_,after:=_,guard:=_ }) (v:=?_) rfl (by kernel_rfl) (by kernel_rfl) (by kernel_rfl) (fun _ _ _ h=>h) (Or.inl ⟨by rfl,?_⟩) (by assumption) ?_
  case refine_2 =>
   intro w hSw
   try dsimp only at hSw
   go_simp
   try with_reducible rfl
  simp only[Act.put,sA,sB,sC]
  refine wpAnyH_take (i:=3) (oi:={ dst:=some 16,op:=_,type:=_,pos:=_,after:=_,guard:=_ }) (v:=?_) rfl (by kernel_rfl) (by kernel_rfl) (by kernel_rfl) (fun _ _ _ h=>h) (Or.inl ⟨by rfl,?_⟩) (by assumption) ?_
  case refine_2 =>
   intro w hSw
   try dsimp only at hSw
   go_simp
   try with_reducible rfl
  simp only[Act.put,sA,sB,sC]
  refine wpAnyH_take (i:=4) (oi:={ dst:=some 17,op:=_,type:=_,pos:=_,after:=_,guard:=_ }) (v:=?_) rfl (by kernel_rfl) (by kernel_rfl) (by kernel_rfl) (fun _ _ _ h=>h) (Or.inl ⟨by rfl,?_⟩) (by assumption) ?_
  case refine_2 =>
   intro w hSw
   try dsimp only at hSw
   go_simp
   try with_reducible rfl
  simp only[Act.put,sA,sB,sC]
  refine wpAnyH_take (i:=5) (oi:={ dst:=some 18,op:=_,type:=_,pos:=_,after:=_,guard:=_ }) (v:=undef) rfl (by kernel_rfl) (by kernel_rfl) (by kernel_rfl) (fun _ _ _ h=>h) (Or.inr ⟨by rfl,rfl⟩) (by assumption) ?_
  simp only[Act.put,sA,sB,sC]
  refine wpAnyH_take (i:=6) (oi:={ dst:=some 19,op:=_,type:=_,pos:=_,after:=_,guard:=_ }) (v:=undef) rfl (by kernel_rfl) (by kernel_rfl) (by kernel_rfl) (fun _ _ _ h=>h) (Or.inr ⟨by rfl,rfl⟩) (by assumption) ?_
  simp only[Act.put,sA,sB,sC]
  refine wpAnyH_take (i:=7) (oi:={ dst:=some 20,op:=_,type:=_,pos:=_,after:=_,guard:=_ }) (v:=undef) rfl (by kernel_rfl) (by kernel_rfl) (by kernel_rfl) (fun _ _ _ h=>h) (Or.inr ⟨by rfl,rfl⟩) (by assumption) ?_
  simp only[Act.put,sA,sB,sC]
  refine wpAnyH_take (i:=8) (oi:={ dst:=some 21,op:=_,type:=_,pos:=_,after:=_,guard:=_ }) (v:=?_) rfl (by kernel_rfl) (by kernel_rfl) (by kernel_rfl) (fun _ _ _ h=>h) (Or.inl ⟨by rfl,?_⟩) (by assumption) ?_
  case refine_2 =>
   intro w hSw
   try dsimp only at hSw
   go_simp
   try with_reducible rfl
  simp only[Act.put,sA,sB,sC]
  refine wpAnyH_take (i:=9) (oi:={ dst:=some 22,op:=_,type:=_,pos:=_,after:=_,guard:=_ }) (v:=?_) rfl (by kernel_rfl) (by kernel_rfl) (by kernel_rfl) (fun _ _ _ h=>h) (Or.inl ⟨by rfl,?_⟩) (by assumption) ?_
  case refine_2 =>
   intro w hSw
   try dsimp only at hSw
   go_simp
   try with_reducible rfl
  simp only[Act.put,sA,sB,sC]
  refine wpAnyH_take (i:=10) (oi:={ dst:=some 23,op:=_,type:=_,pos:=_,after:=_,guard:=_ }) (v:=undef) rfl (by kernel_rfl) (by kernel_rfl) (by kernel_rfl) (fun _ _ _ h=>h) (Or.inr ⟨by rfl,rfl⟩) (by assumption) ?_
  simp only[Act.put,sA,sB,sC]
  refine wpAnyH_take (i:=11) (oi:={ dst:=some 24,op:=_,type:=_,pos:=_,after:=_,guard:=_ }) (v:=undef) rfl (by kernel_rfl) (by kernel_rfl) (by kernel_rfl) (fun _ _ _ h=>h) (Or.inr ⟨by rfl,rfl⟩) (by assumption) ?_
  simp only[Act.put,sA,sB,sC]
  refine wpAnyH_take (i:=12) (oi:={ dst:=some 25,op:=_,type:=_,pos:=_,after:=_,guard:=_ }) (v:=undef) rfl (by kernel_rfl) (by kernel_rfl) (by kernel_rfl) (fun _ _ _ h=>h) (Or.inr ⟨by rfl,rfl⟩) (by assumption) ?_
  simp only[Act.put,sA,sB,sC]
  refine wpAnyH_take (i:=13) (oi:={ dst:=some 26,op:=_,type:=_,pos:=_,after:=_,guard:=_ }) (v:=undef) rfl (by kernel_rfl) (by kernel_rfl) (by kernel_rfl) (fun _ _ _ h=>h) (Or.inr ⟨by rfl,rfl⟩) (by assumption) ?_
  simp only[Act.put,sA,sB,sC]
  refine wpAnyH_take (i:=14) (oi:={ dst:=some 27,op:=_,type:=_,pos:=_,after:=_,guard:=_ }) (v:=undef) rfl (by kernel_rfl) (by kernel_rfl) (by kernel_rfl) (fun _ _ _ h=>h) (Or.inr ⟨by rfl,rfl⟩) (by assumption) ?_
  simp only[Act.put,sA,sB,sC]
  refine wpAnyH_take (i:=15) (oi:={ dst:=some 28,op:=_,type:=_,pos:=_,after:=_,guard:=_ }) (v:=undef) rfl (by kernel_rfl) (by kernel_rfl) (by kernel_rfl) (fun _ _ _ h=>h) (Or.inr ⟨by rfl,rfl⟩) (by assumption) ?_
  simp only[Act.put,sA,sB,sC]
  refine wpAnyH_take (i:=16) (oi:={ dst:=some 29,op:=_,type:=_,pos:=_,after:=_,guard:=_ }) (v:=undef) rfl (by kernel_rfl) (by kernel_rfl) (by kernel_rfl) (fun _ _ _ h=>h) (Or.inr ⟨by rfl,rfl⟩) (by assumption) ?_
  simp only[Act.put,sA,sB,sC]
  refine wpAnyH_take (i:=17) (oi:={ dst:=some 30,op:=_,type:=_,pos:=_,after:=_,guard:=_ }) (v:=undef) rfl (by kernel_rfl) (by kernel_rfl) (by kernel_rfl) (fun _ _ _ h=>h) (Or.inr ⟨by rfl,rfl⟩) (by assumption) ?_
  simp only[Act.put,sA,sB,sC]
  refine wpAnyH_take (i:=18) (oi:={ dst:=some 31,op:=_,type:=_,pos:=_,after:=_,guard:=_ }) (v:=?_) rfl (by kernel_rfl) (by kernel_rfl) (by kernel_rfl) (fun _ _ _ h=>h) (Or.inl ⟨by rfl,?_⟩) (by assumption) ?_
  case refine_2 =>
   intro w hSw
   try dsimp only at hSw
   go_simp
   try with_reducible rfl
  simp only[Act.put,sA,sB,sC]
  refine wpAnyH_take (i:=19) (oi:={ dst:=some 4,op:=_,type:=_,pos:=_,after:=_,guard:=_ }) (v:=?_) rfl (by kernel_rfl) (by kernel_rfl) (by kernel_rfl) (fun _ _ _ h=>h) (Or.inl ⟨by rfl,?_⟩) (by assumption) ?_
  case refine_2 =>
   intro w hSw
   try dsimp only at hSw
   go_simp
   try with_reducible rfl
  simp only[Act.put,sA,sB,sC]
  refine wpAnyH_take (i:=20) (oi:={ dst:=some 5,op:=_,type:=_,pos:=_,after:=_,guard:=_ }) (v:=?_) rfl (by kernel_rfl) (by kernel_rfl) (by kernel_rfl) (fun _ _ _ h=>h) (Or.inl ⟨by rfl,?_⟩) (by assumption) ?_
  case refine_2 =>
   intro w hSw
   try dsimp only at hSw
   go_simp
   try with_reducible rfl
  simp only[Act.put,sA,sB,sC]
  refine wpAnyH_done (by kernel_rfl) ?_ _
  go_wp2_with fail
  go_ret2
  refine⟨_,_,rfl,Below.drew (Below.refl _ _),fun q=>(by cases q),fun _ i hi e=>?_⟩
  have p1:=za HP
  have:=za HW i hi e
  omega
structure HV where
 kind:Int
 n:Int
 s:ByteArray
structure HO where
 kind:Int
 tag:Int
 id:Int
 fs:List HV
 noted:Bool
def aaw (v:HV):List Value:=[.int .i64 v.kind,.int .i64 v.n,.string v.s]
def aaz (b:Nat) (x:HO):List Value:=[.int .i64 x.kind,.int .i64 x.tag,.int .i64 x.id,.int .i64 b,.int .i64 x.fs.length,.bool x.noted]
def aa7:Nat→List HO→List Value
 | _,[]=>[]
 | b,x :: r=>aaz b x++aa7 (b+x.fs.length) r
def zg (l:List HO):List HV:=l.flatMap HO.fs
def acg (l:List HO):List Value:=(zg l).flatMap aaw
theorem ah2:∀(b:Nat) (l:List HO),(aa7 b l).length=l.length*6
 | _,[]=>rfl
 | b,x :: r=>by
  rw[aa7,List.length_append,ah2 _ r,List.length_cons]
  simp[aaz]
  omega
theorem adf:∀l:List HV,(l.flatMap aaw).length=l.length*3
 | []=>rfl
 | v :: r=>by
  rw[List.flatMap_cons,List.length_append,adf r,List.length_cons]
  simp[aaw]
  omega
theorem af8:∀(b:Nat) (l r:List HO),aa7 b (l++r)=aa7 b l++aa7 (b+(zg l).length) r
 | b,[],r=>by simp[aa7,zg]
 | b,x :: l,r=>by
  rw[List.cons_append,aa7,aa7,af8 _ l r,List.append_assoc]
  congr 2
  simp[zg,Nat.add_assoc]
def zm (l:List HO) (i:Nat):Nat:=(zg (l.take i)).length
theorem agn {l:List HO} {i:Nat} {x:HO} (h:l[i]?=some x) {j:Nat} (hj:j<6):(aa7 0 l)[i*6+j]?=(aaz (zm l i) x)[j]?:=by
 have hi:=(List.getElem?_eq_some_iff.1 h).1
 have h2:l=l.take i++x :: l.drop (i+1):=by
  have:=(List.getElem?_eq_some_iff.1 h).2
  rw[←this,List.getElem_cons_drop,List.take_append_drop]
 have h3:(aa7 0 (l.take i)).length=i*6:=by rw[ah2,List.length_take];omega
 have h4:aa7 0 l=aa7 0 (l.take i)++(aaz (zm l i) x++aa7 (zm l i+x.fs.length) (l.drop (i+1))):=by
  have:=af8 0 (l.take i) (x :: l.drop (i+1))
  rw[←h2] at this
  rw[this,aa7,Nat.zero_add]
  rfl
 rw[h4,List.getElem?_append_right (by omega),h3,show i*6+j-i*6=j by omega,List.getElem?_append_left (by simp[aaz];omega)]
theorem ac6:∀{l:List HV} {i:Nat} {v:HV},l[i]?=some v→∀{j:Nat},j<3→(l.flatMap aaw)[i*3+j]?=(aaw v)[j]?
 | v :: r,0,_,h,j,hj=>by
  cases h
  rw[List.flatMap_cons,Nat.zero_mul,Nat.zero_add,List.getElem?_append_left (by simp[aaw];omega)]
 | u :: r,i+1,v,h,j,hj=>by
  rw[List.flatMap_cons,List.getElem?_append_right (by simp[aaw];omega),←ac6 (l:=r) (i:=i) (by simpa using h) hj]
  congr 1
  simp[aaw]
  omega
theorem aef {l:List HO} {i:Nat} {x:HO} (h:l[i]?=some x) {k:Nat} (hk:k<x.fs.length):(zg l)[zm l i+k]?=x.fs[k]?:=by
 have h2:l=l.take i++x :: l.drop (i+1):=by
  have:=(List.getElem?_eq_some_iff.1 h).2
  rw[←this,List.getElem_cons_drop,List.take_append_drop]
 have h4:zg l=zg (l.take i)++(x.fs++zg (l.drop (i+1))):=by
  have:=congrArg zg h2
  rw[this]
  simp[zg]
 rw[h4]
 unfold zm
 rw[List.getElem?_append_right (by omega),Nat.add_sub_cancel_left,List.getElem?_append_left hk]
theorem ach {l:List HO} {i:Nat} {x:HO} (h:l[i]?=some x):zm l i+x.fs.length≤(zg l).length:=by
 have h2:l=l.take i++x :: l.drop (i+1):=by
  have:=(List.getElem?_eq_some_iff.1 h).2
  rw[←this,List.getElem_cons_drop,List.take_append_drop]
 have h4:zg l=zg (l.take i)++(x.fs++zg (l.drop (i+1))):=by
  have:=congrArg zg h2
  rw[this]
  simp[zg]
 rw[h4]
 unfold zm
 simp only[List.length_append]
 omega
structure Pt (B:Nat) (w:World) (b o:Nat) (first:Int) (vo vf:Value) (l:List HO):Prop where
 c0:w.cell? ⟨b,o,none⟩=some (.int .i64 first)
 c1:w.cell? ⟨b,o+1,none⟩=some vo
 c2:w.cell? ⟨b,o+2,none⟩=some vf
 objs:w.ownsRow B 61 6 vo l.length (aa7 0 l)
 flds:w.ownsRow B 69 3 vf (zg l).length (acg l)
theorem aa1 {w:World} {B:Nat} {e:TypeId} {k:Nat} {v:Value} {n:Nat} {xs:List Value} (h:w.ownsRow B e k v n xs) {j:Nat} (hj:j<n*k):∃g cap,v=.slice (some ⟨g,0,none⟩) n cap∧n≤cap∧w.cell? ⟨g,j,none⟩=xs[j]?∧w.frozen? ⟨g,j,none⟩=false:=by
 rcases h.2 with ⟨rfl,rfl⟩ | ⟨g,cap,cur,rfl,h2,h3,h4,h5,h6,h7⟩
 ·omega
 ·refine⟨g,cap,rfl,h4,?_,zt h3 j⟩
  rw[zd h3 j,←h7,List.getElem?_take_of_lt hj]
  simp
end Go.Proofs.YtpnghfghdbijlaaGreatDoor
