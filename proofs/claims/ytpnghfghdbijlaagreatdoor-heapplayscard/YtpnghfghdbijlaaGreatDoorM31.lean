/- A part. -/
import Derived.Test.YtpnghfghdbijlaaGreatDoorM28
import Derived.Test.YtpnghfghdbijlaaGreatDoorM30
open Go.Proofs.Tryz
namespace Go.Proofs.YtpnghfghdbijlaaGreatDoor
open Go.RowKit
set_option linter.unusedVariables false
set_option linter.unusedSimpArgs false
set_option maxRecDepth 100000
set_option maxHeartbeats 40000000
section
open Go.RowKit Go.Maps
theorem HpG.lower {B B':Nat} {w:World} {hp mb:Nat} {P:PHp} {D:DataW Unit} {n:Nat} {vyo vyf voo vof vn:Value} (h:HpG B w hp mb P D n vyo vyf voo vof vn) (hb:B'≤B):HpG B' w hp mb P D n vyo vyf voo vof vn:=by
 obtain⟨a,b,c,d,e,f,g,i,j,k,l,m⟩:=h
 exact⟨⟨a.blk,Go.Joins.ownsRow_le a.yo hb,Go.Joins.ownsRow_le a.yf hb,Go.Joins.ownsRow_le a.oo hb,Go.Joins.ownsRow_le a.of' hb,Go.Joins.ownsRow_le a.nt hb⟩,b,c,d,e,f,g,i,j,k,l,Nat.le_trans hb m⟩
def aed:Value:=.slice none 0 0
def m0 (h mb:Nat):ZM:=⟨h,mb,0,aed,aed,aed,aed,aed,aed,aed,aed,aed,[],[]⟩
def s0 (n o:Int):ZS:=⟨acc n o,.map [],[],[],[],[],fun _=>0⟩
theorem aqt (n o:Int):Zi (acc n o) (.map []) [] [] [] [] (fun _=>0):=by
 refine⟨⟨rfl,fun i t ht=>(by simp at ht),fun i j hi=>(by simp at hi),fun a x hx=>?_,fun i t ht=>(by simp at ht)⟩,rfl,rfl,fun i hi=>(by simp at hi),fun i t ht=>(by simp at ht),rfl,?_,fun a=>⟨fun h=>?_,?_⟩,fun i t ht=>(by simp at ht),⟨fun z hz=>(by cases hz),List.nodup_nil,fun j x hx=>(by simp[acc] at hx),fun j x hx=>(by simp[acc] at hx)⟩,fun t ht=>(by cases ht),fun t ht=>(by cases ht),fun t ht=>(by cases ht)⟩
 ·rcases acj hx with ⟨j,hj,_⟩ | ⟨j,hj,_⟩
  ·simp[acc] at hj
  ·simp[acc] at hj
 ·exact⟨[],rfl⟩
 ·have e:Maps.has (.map []:DataW Unit) (.int .i64 a)=false:=rfl
  rw[e] at h
  cases h
 ·rintro ⟨i,t,ht,_⟩
  simp at ht
theorem ZAt.start {w w1:World} {h mb:Nat} {n o:Int} (hb:Below w.heap.size w w1) (hlh:w.heap.size≤h) (hlm:w.heap.size≤mb) (hm:w1.heap[mb]?=some (.map #[] 0)) (hh:w1.heap[h]?=some (.cells (zx (acc n o) aed aed aed aed aed mb) 51 (0,0))) (hr:abt n o=false) :
  ZAt w.heap.size 0 (w1.alloc (.cells (adc (m0 h mb) (aau (acc n o))) 35)) w1.heap.size (m0 h mb) (s0 n o):=by
 have hr':1≤n∧n≤65536∧1≤o∧o≤1048576:=by
  unfold abt at hr
  simp only[Bool.or_eq_false_iff,decide_eq_false_iff_not] at hr
  omega
 refine⟨(HpG.new hh hm hb.size).keep ((Below.refl _ _).alloc (Nat.le_refl _) _),⟨aan _ _,World.ownsRow_nil _ _ _ _,World.ownsRow_nil _ _ _ _,World.ownsRow_nil _ _ _ _,World.ownsRow_nil _ _ _ _,rfl,rfl,fun i t b vi ht=>(by simp[s0] at ht),fun i j b hb=>(by simp[m0] at hb),fun i j vi vj g hv=>(by simp[m0] at hv),fun g hg=>(by cases hg),hb.size,fun b hb=>(by cases hb),⟨hlh,hlm⟩,fun g hg=>(by cases hg),fun vi hv=>(by cases hv)⟩,aqt n o,⟨by omega,Nat.le_refl _,by simp[s0,acc],by simp[s0,acc,zg],by simp[s0,acc],by simp[s0,acc],Nat.zero_le _,by simp[s0,acc],hr'⟩⟩
structure Out1 (m:ZM) (w w':World):Prop where
 bk:∀k,k<w.heap.size→OutH m k→w'.heap[k]?=w.heap[k]?
 sz:w.heap.size≤w'.heap.size
 os:w'.os=w.os
 tp:w'.tape=w.tape
 out:w'.output=w.output
theorem al1 {B k:Nat} {w:World} {m:ZM} {P:PHp} {D:DataW Unit} {T:List Th} (h:HpG B w m.hp m.mb P D m.n m.vyo m.vyf m.voo m.vof m.vn) (hf:Few' k P T m.n) (hl0:0≤P.last) (hl1:P.last≤1000) :
  Calls prog 7 #[.pointer (some ⟨m.hp,0,none⟩),.int .i64 2,.int .i64 0,.int .i64 0] w fun e w'=>(∃a b,e=.returned (.tuple #[a,b]))∧Out1 m w w':=by
 by_cases hroom:(P.Y.length+(zg P.Y).length:Int)+1+((0:Nat):Int)≤P.ry
 ·refine(ald (kd:=2) (tag:=0) (sz:=0) h hf hl0 hl1 ⟨by omega,by omega⟩ (by omega) hroom).mono ?_
  rintro e w' ⟨rfl,P',D',n',id,vo,vf,q1,q2,q3,q4,q5,q6,q7,q8,q9,q10⟩
  exact⟨⟨_,_,rfl⟩,q5,q7,q8,q9,q10⟩
 ·refine(ai4 (kd:=2) (tag:=0) (sz:=0) h (by omega) (by omega) (by omega) (by omega)).mono ?_
  rintro e w' ⟨rfl,hb⟩
  exact⟨⟨_,_,rfl⟩,fun k hk _=>hb.block k hk,hb.size,hb.os,hb.tape,hb.output⟩
theorem ZAt.copied {B k:Nat} {w w' w3:World} {zb:Nat} {m:ZM} {s:ZS} (h:ZAt B k w zb m s) {hq mq:Nat} {vyo vyf voo vof vn:Value} (h1:w.heap.size≤hq) (h2:w.heap.size≤mq) (hg:HpG w.heap.size w' hq mq s.P s.D m.n vyo vyf voo vof vn) (hb:Below w.heap.size w w') (ho:Out1 m (w'.setCell ⟨zb,0,none⟩ (.pointer (some ⟨hq,0,none⟩))) w3) :
  (∃m',ZAt B k w3 zb m' s)∧Below B w w3:=by
 have hzl:=hlt h.zr.blk
 have hzB:=h.zr.zl
 have hs2:(w'.setCell ⟨zb,0,none⟩ (.pointer (some ⟨hq,0,none⟩))).heap.size=w'.heap.size:=by simp[World.setCell]
 have hB:=h.hg.hB
 obtain⟨m',hm'⟩:∃m':ZM,m'={ m with hp:=hq,mb:=mq,vyo:=vyo,vyf:=vyf,voo:=voo,vof:=vof,vn:=vn }:=⟨_,rfl⟩
 have gm:HpG w.heap.size w' m'.hp m'.mb s.P s.D m'.n m'.vyo m'.vyf m'.voo m'.vof m'.vn:=by rw[hm'];exact hg
 -- what is not the copy's
 have far:∀j,j<w.heap.size→OutH m' j:=fun j hj=>by
  refine⟨?_,?_,fun e=>?_,fun e=>?_,fun e=>?_,fun e=>?_,fun e=>?_⟩
  ·rw[hm'];show j≠hq;omega
  ·rw[hm'];show j≠mq;omega
  ·have:=(zp gm.at'.yo j e).1;omega
  ·have:=(zp gm.at'.yf j e).1;omega
  ·have:=(zp gm.at'.oo j e).1;omega
  ·have:=(zp gm.at'.of' j e).1;omega
  ·have:=(zp gm.at'.nt j e).1;omega
 -- what is new is not the elder heap's
 have new:∀j,w.heap.size≤j→OutH m j:=fun j hj=>by
  refine⟨fun e=>?_,fun e=>?_,fun e=>?_,fun e=>?_,fun e=>?_,fun e=>?_,fun e=>?_⟩
  ·have:=hlt h.hg.at'.blk;omega
  ·have:=h.hg.own.lt;omega
  ·have:=(zp h.hg.at'.yo j e).2.1;omega
  ·have:=(zp h.hg.at'.yf j e).2.1;omega
  ·have:=(zp h.hg.at'.oo j e).2.1;omega
  ·have:=(zp h.hg.at'.of' j e).2.1;omega
  ·have:=(zp h.hg.at'.nt j e).2.1;omega
 have g3:HpG w.heap.size w3 m'.hp m'.mb s.P s.D m'.n m'.vyo m'.vyf m'.voo m'.vof m'.vn:=gm.far (fun j hj hn=>by
  have hj2:w.heap.size≤j:=by
   by_cases e:j<w.heap.size
   ·exact absurd (far j e) hn
   ·omega
  exact(ho.bk j (by rw[hs2];exact hj) (new j hj2)).trans (zo _ (by omega))) (by have:=ho.sz;omega)
 have zblk:∀j,ae6 zb m j→j≠zb→w3.heap[j]?=w.heap[j]?:=fun j hj hne=>by
  have hl:=(h.zr.lt hj).2
  exact(ho.bk j (by rw[hs2];exact Nat.lt_of_lt_of_le hl hb.size) (h.zr.out h.hg hj)).trans ((zo _ hne).trans (hb.block j hl))
 have hz3:w3.heap[zb]?=some (.cells (adc m' (aau s.P)) 35 (0,0)):=by
  rw[ho.bk zb (by rw[hs2];exact Nat.lt_of_lt_of_le hzl hb.size) (h.zr.out h.hg (Or.inl rfl))]
  have:=aad ((hb.block zb hzl).trans h.zr.blk) 0 (.pointer (some ⟨hq,0,none⟩))
  rw[this,hm']
  rfl
 have z:=h.zr
 have nz:∀{e:TypeId} {v:Value} {n k:Nat} {xs:List Value},w.ownsRow B e k v n xs→e≠35→∀j,v.ownBlock=some j→j≠zb:=fun hr hne j hj e=>z.zbt hr hne (e ▸ hj)
 refine⟨⟨m',g3.lower hB,?_,h.zi,by rw[hm'];exact h.fw⟩,?_⟩
 ·have vt:m'.vt=m.vt:=by rw[hm']
  have vw:m'.vw=m.vw:=by rw[hm']
  have vh:m'.vh=m.vh:=by rw[hm']
  have vk:m'.vk=m.vk:=by rw[hm']
  have bs:m'.bs=m.bs:=by rw[hm']
  have vis:m'.vis=m.vis:=by rw[hm']
  refine⟨hz3,?_,?_,?_,?_,by rw[bs];exact z.lb,by rw[vis];exact z.lv,?_,?_,?_,by rw[vh,vk];exact z.hk,z.zl,by rw[bs];exact z.bl,?_,?_,?_⟩
  ·rw[vt,bs];exact zs z.th fun j hj=>zblk j (Or.inr (Or.inl hj)) (nz z.th (by decide) j hj)
  ·rw[vw];exact zs z.wr fun j hj=>zblk j (Or.inr (Or.inr (Or.inl hj))) (nz z.wr (by decide) j hj)
  ·rw[vh];exact zs z.hr fun j hj=>zblk j (Or.inr (Or.inr (Or.inr (Or.inl hj)))) (nz z.hr (by decide) j hj)
  ·rw[vk];exact zs z.kr fun j hj=>zblk j (Or.inr (Or.inr (Or.inr (Or.inr (Or.inl hj))))) (nz z.kr (by decide) j hj)
  ·intro i t b vi ht hb1 hv1
   rw[bs] at hb1
   rw[vis] at hv1
   obtain⟨q1,q2⟩:=z.ob i t b vi ht hb1 hv1
   refine⟨(zblk b (Or.inr (Or.inr (Or.inr (Or.inr (Or.inr (Or.inl (List.mem_of_getElem? hb1))))))) (fun e=>?_)).trans q1,zs q2 fun j hj=>zblk j (Or.inr (Or.inr (Or.inr (Or.inr (Or.inr (Or.inr ⟨vi,List.mem_of_getElem? hv1,hj⟩)))))) (nz q2 (by decide) j hj)⟩
   rw[e,z.blk] at q1
   injection q1 with q1
   injection q1 with _ q1 _
   exact absurd q1 (by decide)
  ·rw[bs];exact z.nb
  ·rw[vis];exact z.ni
  ·rw[hm']
   exact⟨Nat.le_trans hB h1,Nat.le_trans hB h2⟩
  ·intro g hg
   rw[vw] at hg
   have hl:=(h.zr.lt (Or.inr (Or.inr (Or.inl hg)))).2
   exact⟨(far g hl).yf,(far g hl).of'⟩
  ·intro vi hv g hg
   rw[vis] at hv
   exact(far g (h.zr.lt (Or.inr (Or.inr (Or.inr (Or.inr (Or.inr (Or.inr ⟨vi,hv,hg⟩))))))).2).nt
 ·refine(hb.mono hB).trans ⟨ho.os,ho.tp,ho.out,by have:=ho.sz;omega,fun j hj=>?_⟩
  exact(ho.bk j (by rw[hs2];have:=hb.size;omega) (ahz h.zr h.hg hj)).trans (zo _ (by omega))
end
theorem ans {B:Nat} {w:World} {h mb:Nat} {P:PHp} {vyo vyf voo vof vn:Value} (k:HpAt B w h mb P vyo vyf voo vof vn) (hs:Small P) (hfw:Few P) {a:Int} (ha:I64 a) :
  Calls prog 21 #[.pointer (some ⟨h,0,none⟩),.int .i64 a] w fun e w'=>∃r,Found P a r∧e=.returned (.int .i64 (match aa5 P r with | some (_,x)=>x.kind | none=>0))∧Below w.heap.size w w':=by
 have hf:∀(x0 x1 x2 x3 x4:Int) (x5:Bool) (w:World),(Go.Instr.field 61 (.agg #[.int .i64 x0,.int .i64 x1,.int .i64 x2,.int .i64 x3,.int .i64 x4,.bool x5]) 0).run prog w=.ok (.int .i64 x0) w:=fun _ _ _ _ _ _ w=>by kernel_rfl
 go_enter func21,ntmps21
 go_wp2_with fail
 refine(ac7 k hs hfw ha).mono ?_
 rintro e w1 ⟨r,hr,rfl,hb1⟩
 have HB:=zc hb1
 have HR:=zc hr
 clear hb1 hr
 cases hx:aa5 P r with
 | none =>
  simp only[adi,aaz,ae9]
  go_wp2_with fail
  go_ret
  exact⟨r,za HR,by rw[hx];rfl,za HB⟩
 | some bx =>
  obtain⟨b,x⟩:=bx
  simp only[adi,aaz]
  go_wp2_with fail
  go_ret
  exact⟨r,za HR,by rw[hx];rfl,za HB⟩
theorem ao1 {B:Nat} {w:World} {h mb:Nat} {P:PHp} {vyo vyf voo vof vn:Value} (k:HpAt B w h mb P vyo vyf voo vof vn) (hs:Small P) (hfw:Few P) {a:Int} (ha:I64 a) :
  Calls prog 22 #[.pointer (some ⟨h,0,none⟩),.int .i64 a] w fun e w'=>∃r,Found P a r∧e=.returned (.int .i64 (match aa5 P r with | some (_,x)=>x.tag | none=>0))∧Below w.heap.size w w':=by
 have hf:∀(x0 x1 x2 x3 x4:Int) (x5:Bool) (w:World),(Go.Instr.field 61 (.agg #[.int .i64 x0,.int .i64 x1,.int .i64 x2,.int .i64 x3,.int .i64 x4,.bool x5]) 1).run prog w=.ok (.int .i64 x1) w:=fun _ _ _ _ _ _ w=>by kernel_rfl
 go_enter func22,ntmps22
 go_wp2_with fail
 refine(ac7 k hs hfw ha).mono ?_
 rintro e w1 ⟨r,hr,rfl,hb1⟩
 have HB:=zc hb1
 have HR:=zc hr
 clear hb1 hr
 cases hx:aa5 P r with
 | none =>
  simp only[adi,aaz,ae9]
  go_wp2_with fail
  go_ret
  exact⟨r,za HR,by rw[hx];rfl,za HB⟩
 | some bx =>
  obtain⟨b,x⟩:=bx
  simp only[adi,aaz]
  go_wp2_with fail
  go_ret
  exact⟨r,za HR,by rw[hx];rfl,za HB⟩
theorem aqu {B:Nat} {w:World} {h mb:Nat} {P:PHp} {vyo vyf voo vof vn:Value} (k:HpAt B w h mb P vyo vyf voo vof vn) (hs:Small P) (hfw:Few P) {a:Int} (ha:I64 a) :
  Calls prog 23 #[.pointer (some ⟨h,0,none⟩),.int .i64 a] w fun e w'=>∃r,Found P a r∧e=.returned (.int .i64 (match aa5 P r with | some (_,x)=>x.id | none=>0))∧Below w.heap.size w w':=by
 have hf:∀(x0 x1 x2 x3 x4:Int) (x5:Bool) (w:World),(Go.Instr.field 61 (.agg #[.int .i64 x0,.int .i64 x1,.int .i64 x2,.int .i64 x3,.int .i64 x4,.bool x5]) 2).run prog w=.ok (.int .i64 x2) w:=fun _ _ _ _ _ _ w=>by kernel_rfl
 go_enter func23,ntmps23
 go_wp2_with fail
 refine(ac7 k hs hfw ha).mono ?_
 rintro e w1 ⟨r,hr,rfl,hb1⟩
 have HB:=zc hb1
 have HR:=zc hr
 clear hb1 hr
 cases hx:aa5 P r with
 | none =>
  simp only[adi,aaz,ae9]
  go_wp2_with fail
  go_ret
  exact⟨r,za HR,by rw[hx];rfl,za HB⟩
 | some bx =>
  obtain⟨b,x⟩:=bx
  simp only[adi,aaz]
  go_wp2_with fail
  go_ret
  exact⟨r,za HR,by rw[hx];rfl,za HB⟩
section
open Go.RowKit Go.Maps
theorem Zi.told {P:PHp} {D:DataW Unit} {T:List Th} {wh:List HV} {here known:List Bool} {ad:Nat→Int} (z:Zi P D T wh here known ad) {q:Nat} {t:Th} (ht:T[q]?=some t) {hq:Bool} (hh:here[q]?=some hq) (hp:0<t.id):Maps.has D (.int .i64 t.id)=hq∧(hq=true→atV D t.id=ad q):=by
 cases hq with
 | true =>
  refine⟨(z.has _).2 ⟨q,_,ht,hh,rfl,hp⟩,fun _=>?_⟩
  have:=z.at' q _ ht hh hp
  unfold atV
  rw[this]
 | false =>
  refine⟨?_,fun e=>(by cases e)⟩
  cases hd:Maps.has D (.int .i64 t.id) with
  | false=>rfl
  | true =>
   obtain⟨i,u,hu,hi,eu,_⟩:=(z.has _).1 hd
   have:=ahy z.ids hu ht eu (by rw[eu];exact hp)
   subst this
   rw[hh] at hi
   cases hi
section
variable {B:Nat} {w:World} {hp mb:Nat} {P:PHp} {D:DataW Unit} {n:Nat} {vyo vyf voo vof vn:Value}
theorem kindAt (h:HpG B w hp mb P D n vyo vyf voo vof vn) {a:Int} {x:HO} (hx:aao P a=some x):Calls prog 21 #[.pointer (some ⟨hp,0,none⟩),.int .i64 a] w fun e w'=>e=.returned (.int .i64 x.kind)∧Below w.heap.size w w':=by
 refine(ans h.at' h.small h.few (ada h.small hx)).mono ?_
 rintro e w' ⟨r,hr,he,hb⟩
 obtain⟨y,hy⟩:=adr h.small hx hr
 rw[hy] at he
 exact⟨he,hb⟩
theorem tagAt (h:HpG B w hp mb P D n vyo vyf voo vof vn) {a:Int} {x:HO} (hx:aao P a=some x):Calls prog 22 #[.pointer (some ⟨hp,0,none⟩),.int .i64 a] w fun e w'=>e=.returned (.int .i64 x.tag)∧Below w.heap.size w w':=by
 refine(ao1 h.at' h.small h.few (ada h.small hx)).mono ?_
 rintro e w' ⟨r,hr,he,hb⟩
 obtain⟨y,hy⟩:=adr h.small hx hr
 rw[hy] at he
 exact⟨he,hb⟩
theorem idAt (h:HpG B w hp mb P D n vyo vyf voo vof vn) {a:Int} {x:HO} (hx:aao P a=some x):Calls prog 23 #[.pointer (some ⟨hp,0,none⟩),.int .i64 a] w fun e w'=>e=.returned (.int .i64 x.id)∧Below w.heap.size w w':=by
 refine(aqu h.at' h.small h.few (ada h.small hx)).mono ?_
 rintro e w' ⟨r,hr,he,hb⟩
 obtain⟨y,hy⟩:=adr h.small hx hr
 rw[hy] at he
 exact⟨he,hb⟩
theorem sizeAt (h:HpG B w hp mb P D n vyo vyf voo vof vn) {a:Int} {x:HO} (hx:aao P a=some x):Calls prog 24 #[.pointer (some ⟨hp,0,none⟩),.int .i64 a] w fun e w'=>e=.returned (.int .i64 (x.fs.length:Nat))∧Below w.heap.size w w':=by
 refine(ap1 h.at' h.small h.few (ada h.small hx)).mono ?_
 rintro e w' ⟨r,hr,he,hb⟩
 obtain⟨y,hy⟩:=adr h.small hx hr
 rw[hy] at he
 exact⟨he,hb⟩
theorem getAt (h:HpG B w hp mb P D n vyo vyf voo vof vn) {a:Int} {x:HO} (hx:aao P a=some x) {k:Nat} {v:HV} (hv:x.fs[k]?=some v):Calls prog 25 #[.pointer (some ⟨hp,0,none⟩),.int .i64 a,.int .i64 (k:Int)] w fun e w'=>e=.returned (.tuple #[.agg #[.int .i64 v.kind,.int .i64 v.n,.string v.s],.nilIface])∧Below w.heap.size w w':=by
 refine(aeh h.at' h.small h.few (ada h.small hx)).mono ?_
 rintro e w' ⟨r,hr,he,hb⟩
 obtain⟨y,hy⟩:=adr h.small hx hr
 rw[hy] at he
 unfold acx at he
 dsimp only at he
 rw[if_pos (by omega),Int.toNat_natCast,hv] at he
 exact⟨he,hb⟩
theorem getEnd (h:HpG B w hp mb P D n vyo vyf voo vof vn) {a:Int} {x:HO} (hx:aao P a=some x) {k:Nat} (hk:k=x.fs.length):Calls prog 25 #[.pointer (some ⟨hp,0,none⟩),.int .i64 a,.int .i64 (k:Int)] w fun e w'=>e=.returned (.tuple #[adu,ac8 2])∧Below w.heap.size w w':=by
 refine(aeh h.at' h.small h.few (ada h.small hx)).mono ?_
 rintro e w' ⟨r,hr,he,hb⟩
 obtain⟨y,hy⟩:=adr h.small hx hr
 rw[hy,ai3 (Or.inr (by omega))] at he
 exact⟨he,hb⟩
end
end
section
open Go.RowKit Go.Maps Go.Sort Go.Shelf
theorem sortsA (m:Nat):AnyZI.SortsIn prog Tryz.sortedA_ren Fence.wide m :=
 ⟨fun blk off cap ss W hH hblk hsz=>callsIn_wide.2 (AnyM.slices_Sort_int Tryz.sortA blk off cap ss W hH hblk hsz),
 fun p cap W=>callsIn_wide.2 (AnyM.slices_Sort_int_none Tryz.sortA p cap W)⟩
def IdsRow (D:DataW Unit) (w:World) (e:Ending) (w':World):Prop:=∃(v:Value) (ss:List Int),e=.returned v∧ss.Perm (intKeys D)∧w'.ownsRow w.heap.size 3 1 v ss.length ((ss.mergeSort (fun x y=>decide (x≤y))).map encZ)∧Below w.heap.size w w'
theorem ids_row {B:Nat} {w:World} {hp mb:Nat} {P:PHp} {D:DataW Unit} {n:Nat} {vyo vyf voo vof vn:Value} (h:HpG B w hp mb P D n vyo vyf voo vof vn) (hmax:Maps.size D≤1000000) :
  Calls prog 27 #[.pointer (some ⟨hp,0,none⟩)] w fun e w'=>IdsRow D w e w':=by
 refine(callsIn_wide (n:=6)).1 ?_
 have hown:=h.own
 have c9:w.cell? ⟨hp,9,none⟩=some (.map (some mb)):=zd h.at'.blk 9
 have hbl:=hown.lt
 have hseq:SeqGives Fence.wide 2 prog 60 #[.pointer (some ⟨w.heap.size,0,none⟩)] encZ (fun ss=>ss.Perm (intKeys D)) (Maps.size D) (w.alloc (.cells #[.map (some mb)] 48)) :=
  AnyZI.keys_gives (ρ:=Tryz.keysA_ren) { Tryz.keysA with } Fence.wide _ trivial rfl (by omega) w.heap.size mb n D _ (by simp) (by simp) (by
   obtain⟨es,clock,hb,Ft,hs,hD⟩:=hown
   exact⟨es,clock,(Below.heap_alloc _ _ mb hbl).trans hb,Ft,hs,hD⟩)
 have cK:∀mb W,CallsIn Fence.wide 5 prog 46 #[.map mb] W fun e w'=>e=.returned (.func (.func 60) #[] #[.pointer (some ⟨W.heap.size,0,none⟩)])∧w'=W.alloc (.cells #[.map mb] 48):=fun mb W=>AnyZI.keys_in Tryz.keysA Fence.wide 5 trivial rfl mb W
 have cS:=AnyZI.sorted_in Tryz.sortedA Fence.wide 5 trivial trivial trivial trivial rfl (by omega) (sortsA _) (enters_of func59 (by kernel_rfl) rfl) 60 #[.pointer (some ⟨w.heap.size,0,none⟩)] trivial (enters_of func60 (by kernel_rfl) rfl) _ _ (Nat.le_trans hmax (by decide)) (by omega) _ hseq
 change CallsIn _ _ prog 45 _ _ _ at cS
 have hfK:Fence.wide.fn 46:=trivial
 have hfS:Fence.wide.fn 45:=trivial
 clear hseq
 refine callsIn_of_wp func27 rfl trivial ?_ rfl
 simp only[ntmps27,List.size_toArray,List.length_cons,List.length_nil,Nat.reduceAdd,Nat.reduceSub,Array.replicate_succ,Array.replicate_zero,List.push_toArray,List.append_toArray,List.nil_append,List.cons_append]
 gi_wp2_with (first
  | (gi_at_call 46;refine(cK _ _).mono ?_;rintro e w' ⟨rfl,rfl⟩)
  | (gi_at_call 45;refine cS.mono ?_;rintro e w' ⟨v,ss,rfl,hS,hrow,hnil,hb⟩))
 go_ret
 exact⟨v,ss,rfl,hS,ads hrow (by simp),((Below.refl _ w).alloc (Nat.le_refl _) _).trans (hb.mono (by simp))⟩
end
section
open Go.RowKit Go.Maps
def ab3 (T:List Th) (here:List Bool):List Int:=((T.zip here).filter fun p=>decide (0<p.1.id)&&p.2).map fun p=>p.1.id
theorem aqv {T:List Th} {here:List Bool} (hids:∀(i:Nat) (t:Th),T[i]?=some t→t.id=0∨t.id=1+(idC (T.take i):Int)):(ab3 T here).Pairwise (·<·):=by
 unfold ab3
 refine List.pairwise_map.2 ?_
 have h0:(T.zip here).Pairwise (fun p q=>0<p.1.id→0<q.1.id→p.1.id<q.1.id):=by
  rw[List.pairwise_iff_getElem]
  intro i j hi hj hij hp hq
  rw[List.length_zip] at hi hj
  have e1:T[i]?=some T[i]:=List.getElem?_eq_getElem (by omega)
  have e2:T[j]?=some T[j]:=List.getElem?_eq_getElem (by omega)
  rw[List.getElem_zip] at hp hq ⊢
  rw[List.getElem_zip]
  have a1:=hids i _ e1
  have a2:=hids j _ e2
  have a3:=ag0 e1 hp hij
  dsimp only at hp hq ⊢
  omega
 refine(h0.filter _).imp_of_mem (fun {p q} hp hq r=>?_)
 have p1:=(List.mem_filter.1 hp).2
 have q1:=(List.mem_filter.1 hq).2
 simp only[Bool.and_eq_true,decide_eq_true_eq] at p1 q1
 exact r p1.1 q1.1
theorem ao2 {T:List Th} {here:List Bool} {x:Int}:x∈ab3 T here↔∃(i:Nat) (t:Th),T[i]?=some t∧here[i]?=some true∧t.id=x∧0<x:=by
 unfold ab3
 rw[List.mem_map]
 constructor
 ·rintro ⟨⟨t,b⟩,hp,rfl⟩
  obtain⟨h1,h2⟩:=List.mem_filter.1 hp
  simp only[Bool.and_eq_true,decide_eq_true_eq] at h2
  obtain⟨i,hi⟩:=List.getElem?_of_mem h1
  rw[List.getElem?_zip_eq_some] at hi
  exact⟨i,t,hi.1,by rw[hi.2,h2.2],rfl,h2.1⟩
 ·rintro ⟨i,t,h1,h2,rfl,h3⟩
  refine⟨(t,true),List.mem_filter.2 ⟨List.mem_of_getElem? (i:=i) (List.getElem?_zip_eq_some.2 ⟨h1,h2⟩),?_⟩,rfl⟩
  simp only[Bool.and_eq_true,decide_eq_true_eq]
  exact⟨h3,trivial⟩
theorem Zi.idsRow {P:PHp} {D:DataW Unit} {T:List Th} {wh:List HV} {here known:List Bool} {ad:Nat→Int} (z:Zi P D T wh here known ad) {w:World} {mb n:Nat} (ho:w.ownsMap prog 3 (plainElem prog 3) mb n D) {ss:List Int} (hp:ss.Perm (intKeys D)):ss.mergeSort (fun x y=>decide (x≤y))=ab3 T here:=by
 have up:=aqv (here:=here) z.ids
 have hc:CollectedI D (fun _=>false) (ab3 T here):=⟨up.imp (fun h=>by omega),fun x=>by
  rw[ao2,z.has]
  simp only[and_true]⟩
 have pm:=hc.perm ho ac3 underlying3 (fun _=>rfl)
 have e:=mergeSort_of_perm_i (hp.trans pm.symm)
 refine e.trans (List.mergeSort_of_pairwise (up.imp (fun h=>?_)))
 simp only[leI,decide_eq_true_eq]
 omega
theorem ao3 {T:List Th} {i:Nat} {t:Th} (hids:t.id=0∨t.id=1+(idC (T.take i):Int)) (ht:T[i]?=some t):max (idC (T.take i):Int) t.id=idC (T.take (i+1)):=by
 have e:T.take (i+1)=T.take i++[t]:=by rw[List.take_add_one,ht];rfl
 rw[e,agz]
 by_cases hp:0<t.id
 ·rw[if_pos hp]
  omega
 ·rw[if_neg hp]
  omega
theorem ajd {T:List Th} {here:List Bool} {i:Nat} {t:Th} {b:Bool} (ht:T[i]?=some t) (hb:here[i]?=some b):ab3 (T.take (i+1)) (here.take (i+1))=ab3 (T.take i) (here.take i)++(if (decide (0<t.id)&&b)=true then [t.id] else []):=by
 have e:T.take (i+1)=T.take i++[t]:=by rw[List.take_add_one,ht];rfl
 have e2:here.take (i+1)=here.take i++[b]:=by rw[List.take_add_one,hb];rfl
 have l1:=(List.getElem?_eq_some_iff.1 ht).1
 have l2:=(List.getElem?_eq_some_iff.1 hb).1
 unfold ab3
 rw[e,e2,List.zip_append (by rw[List.length_take,List.length_take];omega),List.filter_append,List.map_append]
 congr 1
 by_cases h:(decide (0<t.id)&&b)=true
 ·rw[if_pos h]
  show ((List.filter _ [(t,b)]).map _)=_
  rw[List.filter_cons,if_pos h]
  rfl
 ·rw[if_neg h]
  show ((List.filter _ [(t,b)]).map _)=_
  rw[List.filter_cons,if_neg h]
  rfl
theorem Zi.past {P:PHp} {D:DataW Unit} {T:List Th} {wh:List HV} {here known:List Bool} {ad:Nat→Int} (z:Zi P D T wh here known ad):Maps.has D (.int .i64 ((idC T:Int)+1))=false:=by
 cases h:Maps.has D (.int .i64 ((idC T:Int)+1)) with
 | false=>rfl
 | true =>
  obtain⟨i,t,ht,_,e,_⟩:=(z.has _).1 h
  have:=ahl z.ids ht
  omega
end
section
open Go.RowKit Go.Maps
structure Tj (w wx:World) (T:List Th) (here:List Bool) (j:Nat) (v:Value):Prop where
 ow:wx.ownsRow w.heap.size 3 1 v (ab3 (T.take j) (here.take j)).length ((ab3 (T.take j) (here.take j)).map iv)
 bl:Below w.heap.size w wx
section
variable {w wx w':World} {T:List Th} {here:List Bool} {j:Nat} {v:Value}
theorem Tj.keep (h:Tj w wx T here j v) (hb:Below wx.heap.size wx w'):Tj w w' T here j v:=⟨aa8 h.ow hb,h.bl.trans (hb.mono h.bl.size)⟩
theorem Tj.start:Tj w w T here 0 (.slice none 0 0):=⟨World.ownsRow_nil _ _ _ _,Below.refl _ _⟩
theorem ao4 (T:List Th) (here:List Bool):(ab3 T here).length≤T.length:=by
 unfold ab3
 rw[List.length_map]
 refine Nat.le_trans (List.length_filter_le _ _) ?_
 rw[List.length_zip]
 exact Nat.min_le_left _ _
theorem ag6 (T:List Th) (here:List Bool) (j:Nat):(ab3 (T.take j) (here.take j)).length≤T.length:=by
 refine Nat.le_trans (ao4 _ _) ?_
 rw[List.length_take]
 exact Nat.min_le_right _ _
theorem Tj.skip (h:Tj w wx T here j v) {t:Th} {b:Bool} (ht:T[j]?=some t) (hb:here[j]?=some b) (hn:(decide (0<t.id)&&b)=false):Tj w wx T here (j+1) v:=by
 refine⟨?_,h.bl⟩
 rw[ajd ht hb,if_neg (by rw[hn];decide),List.append_nil]
 exact h.ow
theorem Tj.more (h:Tj w wx T here j v) {t:Th} {b:Bool} (ht:T[j]?=some t) (hb:here[j]?=some b) (hn:(decide (0<t.id)&&b)=true) {v':Value} {n':Nat} (ho:w'.ownsRow w.heap.size 3 1 v' n' ((ab3 (T.take j) (here.take j)).map iv++[.int .i64 t.id])) (hl:n'=(ab3 (T.take j) (here.take j)).length+1) (hg:wx.grownBy w' v.ownBlock):Tj w w' T here (j+1) v':=by
 refine⟨?_,aex h.bl hg (fun k hk=>(zp h.ow k hk).1) h.bl.size⟩
 rw[ajd ht hb,if_pos hn]
 subst hl
 simpa [iv] using ho
end
theorem Zi.obj {P:PHp} {D:DataW Unit} {T:List Th} {wh:List HV} {here known:List Bool} {ad:Nat→Int} (z:Zi P D T wh here known ad) {q:Nat} {t:Th} (ht:T[q]?=some t) (hk:known[q]?=some true):∃x,aao P (ad q)=some x∧IsTh here ad t x∧wh[q]?=some (toA (ad q)):=by
 obtain⟨h1,h2⟩:=z.kn q hk
 obtain⟨x,hx,hi⟩:=z.rep.obj q t ht h1
 exact⟨x,hx,hi,h2⟩
theorem Zi.ledTo {P:PHp} {D:DataW Unit} {T:List Th} {wh:List HV} {here known:List Bool} {ad:Nat→Int} (z:Zi P D T wh here known ad) {c:Int} {v:HV} (hf:Fld here ad c v) (hc:0<c):∃(q:Nat) (o:Th) (y:HO),c=(q:Int)+1∧T[q]?=some o∧v=toA (ad q)∧aao P (ad q)=some y∧IsTh here ad o y∧(known[q]?=some true→wh[q]?=some (toA (ad q))):=by
 obtain⟨h1,h2⟩:=hf.2.2 hc
 obtain⟨q,hq⟩:∃q:Nat,(c-1).toNat=q:=⟨_,rfl⟩
 rw[hq] at h1 h2
 obtain⟨o,ho⟩:=z.rep.th h2
 obtain⟨y,hy,hi⟩:=z.rep.obj q o ho h2
 exact⟨q,o,y,by omega,ho,h1,hy,hi,fun hk=>(z.kn q hk).2⟩
theorem Tj.form {w wx:World} {T:List Th} {here:List Bool} {j:Nat} {v:Value} (h:Tj w wx T here j v):∃g n c,v=.slice g n c∧n=(ab3 (T.take j) (here.take j)).length∧n≤T.length:=by
 obtain⟨g,c,e⟩:=aaa h.ow
 exact⟨g,_,c,e,rfl,ag6 T here j⟩
section
variable {B:Nat} {w:World} {hp mb:Nat} {P:PHp} {D:DataW Unit} {n:Nat} {vyo vyf voo vof vn:Value} {here:List Bool} {ad:Nat→Int} {t:Th} {x:HO} {a:Int}
theorem alm (h:HpG B w hp mb P D n vyo vyf voo vof vn) (hx:aao P a=some x∧IsTh here ad t x):Calls prog 21 #[.pointer (some ⟨hp,0,none⟩),.int .i64 a] w fun e w'=>e=.returned (.int .i64 t.kind)∧Below w.heap.size w w':=by
 rw[←hx.2.kind]
 exact kindAt h hx.1
theorem tagTh (h:HpG B w hp mb P D n vyo vyf voo vof vn) (hx:aao P a=some x∧IsTh here ad t x):Calls prog 22 #[.pointer (some ⟨hp,0,none⟩),.int .i64 a] w fun e w'=>e=.returned (.int .i64 t.tag)∧Below w.heap.size w w':=by
 rw[←hx.2.tag]
 exact tagAt h hx.1
theorem idTh (h:HpG B w hp mb P D n vyo vyf voo vof vn) (hx:aao P a=some x∧IsTh here ad t x):Calls prog 23 #[.pointer (some ⟨hp,0,none⟩),.int .i64 a] w fun e w'=>e=.returned (.int .i64 t.id)∧Below w.heap.size w w':=by
 rw[←hx.2.id]
 exact idAt h hx.1
theorem aln (h:HpG B w hp mb P D n vyo vyf voo vof vn) (hx:aao P a=some x∧IsTh here ad t x):Calls prog 24 #[.pointer (some ⟨hp,0,none⟩),.int .i64 a] w fun e w'=>e=.returned (.int .i64 (t.is.length:Nat))∧Below w.heap.size w w':=by
 rw[←hx.2.len]
 exact sizeAt h hx.1
theorem alo (h:HpG B w hp mb P D n vyo vyf voo vof vn) (hx:aao P a=some x∧IsTh here ad t x):Calls prog 25 #[.pointer (some ⟨hp,0,none⟩),.int .i64 a,.int .i64 (t.is.length:Int)] w fun e w'=>e=.returned (.tuple #[.agg #[.int .i64 0,.int .i64 0,.string ⟨#[]⟩],ac8 2])∧Below w.heap.size w w':=getEnd h hx.1 hx.2.len.symm
end
end
end Go.Proofs.YtpnghfghdbijlaaGreatDoor
