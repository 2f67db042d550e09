/- A part. -/
import Derived.Test.YtndgajlidckcdaaGreatDoorM35
open Go.Proofs.Tryz
namespace Go.Proofs.YtndgajlidckcdaaGreatDoor
open Go.RowKit
set_option linter.unusedVariables false
set_option linter.unusedSimpArgs false
set_option maxRecDepth 100000
set_option maxHeartbeats 8000000
theorem tkc {P:Program} {ops:Array Oper} {Q:Exit→Act→World→Prop} {md:Region.Mode} {S:World→Prop} {c:Nat} (i s:Nat) {op:Op} {ty:TypeId} {pos:String} {af:Array Edge} {gd:Option (Nat×Bool)} {v:Value} {n:Nat} {l:Array Bool} {tmps:Array Value} {df:List Deferred} {w:World} (hi:ops[i]?=some ⟨some s,op,ty,pos,af,gd⟩)
  (h:afd P md ops Q S c n (l.setIfInBounds i true) ⟨tmps.setIfInBounds s v,df⟩ w)
  (hy:∀w':World,True→(execOp (Act.eval ⟨tmps,df⟩) ⟨some s,op,ty,pos,af,gd⟩).run P w'=.ok (.value v) w':=by (intro w h;(try dsimp only at h);go_simp;(try with_reducible rfl))) (hs:Region.noSelect ops=true:=by kernel_rfl) (hf:Region.free md ops l i=true:=by kernel_rfl) (hr:(Region.ready md ops l).contains i=true:=by kernel_rfl) (hic:(i==c)=false:=by rfl) (hQ:∀p a w,Q (.panic p) (Act.put a (some s) v) w→Q (.panic p) a w:=by exact fun _ _ _ h=>h) (hw:Region.wanted ⟨some s,op,ty,pos,af,gd⟩ (yielded ops tmps)=true:=by rfl) (hS:S w:=by assumption):afd P md ops Q S c (n+1) l ⟨tmps,df⟩ w :=
 ax2 hi hs hf hr hic hQ (Or.inl ⟨hw,hy⟩) hS h
end Go.Proofs.YtndgajlidckcdaaGreatDoor
