/-
  Names that were told, and scopes.
  Scopes: names that are seen.
  A program's table in memory, and what is looked for in it.
  Table.Method: a method of a class, or of one above it.
-/
import Derived.Test.YtjcoobkpmpjpbaaGreatDoorM17
import Derived.Maps.OwnSet
namespace Go.Proofs.YtjcoobkpmpjpbaaGreatDoor
open Go.RowKit Go.Maps

theorem keyStr : Keyed Tryz.prog 9 := string_keyed Tryz.underlying9
theorem zeroUnit (w : World) : (zeroValue 101).run Tryz.prog w = .ok (.agg #[]) w := by kernel_rfl
def sl (s : ByteArray) : Lit := .string s.data.toList
theorem sl_lit (s : ByteArray) : WideAt.IsKeyLit (sl s) := by simp [sl, WideAt.IsKeyLit]
theorem sl_ne {s t : ByteArray} (h : s ≠ t) : sl s ≠ sl t := fun e => h (by
  unfold sl at e
  injection e with e
  cases s
  cases t
  simp only at e
  congr 1
  exact Array.toList_inj.1 e)
theorem sl_key {s : ByteArray} (h : s.size ≤ 300) : keyOf Tryz.prog 9 (.string s) = some (sl s) := Go.WideMaps.keyOf_string_mk Tryz.underlying9 (by unfold maxLen; omega)
/-- Names, in a map. -/
def NamesAt (w : World) (b : Nat) (o : List ByteArray) : Prop := ∃ D : DataW Unit, w.ownsMap Tryz.prog 9 unitElem b o.length D ∧ ∀ s, Maps.has D (sl s) = hasName o s
theorem NamesAt.move {w w' : World} {b : Nat} {o : List ByteArray} (h : NamesAt w b o) (hb : w'.heap[b]? = w.heap[b]?) : NamesAt w' b o := by
  obtain ⟨D, ⟨es, clock, h1, h2⟩, h3⟩ := h
  exact ⟨D, ⟨es, clock, hb.trans h1, h2⟩, h3⟩
theorem NamesAt.lt {w : World} {b : Nat} {o : List ByteArray} (h : NamesAt w b o) : b < w.heap.size := by
  obtain ⟨D, h1, _⟩ := h
  exact h1.lt
theorem NamesAt.look {w : World} {b : Nat} {o : List ByteArray} (h : NamesAt w b o) {s : ByteArray} (hs : s.size ≤ 300) :
    (Go.Instr.lookup 66 (.map (some b)) (.string s) true).run Tryz.prog w = .ok (.tuple #[.agg #[], .bool (hasName o s)]) w := by
  obtain ⟨D, h1, h2⟩ := h
  obtain ⟨v, ps, hrun, hv⟩ := h1.look_ok keyStr Tryz.underlying66 (zeroUnit w) unitElem_mk (sl_key hs)
  obtain ⟨rfl, _⟩ := unitElem_inv hv
  rw [hrun, h2 s]
theorem NamesAt.put {w : World} {b : Nat} {o : List ByteArray} (h : NamesAt w b o) {s : ByteArray} (hs : s.size ≤ 300) (hn : o.length ≤ 1000000) :
    ∃ w', (Go.Instr.mapUpdate 66 (.map (some b)) (.string s) (.agg #[])).run Tryz.prog w = .ok () w' ∧ NamesAt w' b (s :: o) ∧ w.grownBy w' (some b) := by
  obtain ⟨D, h1, h2⟩ := h
  obtain ⟨w', hrun, hown, hg⟩ := h1.update keyStr Tryz.underlying66 (by unfold maxLen; omega) (sl_key hs) unitElem_mk
  refine ⟨w', hrun, ⟨_, hown, fun t => ?_⟩, hg⟩
  unfold hasName
  rw [List.any_cons]
  by_cases e : s = t
  · subst e
    rw [Maps.has_put_same h1.isMap (sl_lit s)]
    simp
  · rw [Maps.has_put_other (sl_ne (fun q => e q.symm)), h2 t]
    simp [hasName, e]
theorem NamesAt.made (w : World) : NamesAt (w.alloc (.map #[] 0)) w.heap.size [] := ⟨_, World.ownsMap_made w _ _ _, fun _ => rfl⟩
def NewNamesPost (w : World) (e : Ending) (w' : World) : Prop := e = .returned (.map (some w.heap.size)) ∧ w' = w.alloc (.map #[] 0)

set_option maxRecDepth 100000 in
set_option maxHeartbeats 2000000 in
theorem newNames_any (w : World) : Calls Tryz.prog 22 #[] w fun e w' => NewNamesPost w e w' := by
  have mm : (Go.Instr.makeMap 66 none).run Tryz.prog w = .ok (.map (some w.heap.size)) (w.alloc (.map #[] 0)) := rfl
  go_enter Tryz.func22, Tryz.ntmps22
  go_wp2_with fail
  go_ret
  exact ⟨rfl, rfl⟩
/-- A name is told: whether it is new; then it is there. -/
def AddPost (w : World) (b : Nat) (o : List ByteArray) (s : ByteArray) (e : Ending) (w' : World) : Prop := e = .returned (.bool (!hasName o s)) ∧ NamesAt w' b (if hasName o s then o else s :: o) ∧ w.grownBy w' (some b)

set_option maxRecDepth 100000 in
set_option maxHeartbeats 2000000 in
theorem add_name {w : World} {b : Nat} {o : List ByteArray} (h : NamesAt w b o) {s : ByteArray} (hs : s.size ≤ 300) (hn : o.length ≤ 1000000) : Calls Tryz.prog 23 #[.map (some b), .string s] w fun e w' => AddPost w b o s e w' := by
  have HN := hide h
  have lk := h.look hs
  by_cases hh : hasName o s = true
  · rw [hh] at lk
    have HH := hide hh
    clear h hh
    go_enter Tryz.func23, Tryz.ntmps23
    go_wp2_with fail
    go_ret
    have hb := fun o => (Below.refl w.heap.size w).alloc (Nat.le_refl _) o
    refine ⟨by rw [unhide HH]; rfl, ?_, ?_⟩
    · rw [if_pos (unhide HH)]
      exact (unhide HN).move ((hb _).block _ (unhide HN).lt)
    · exact ⟨(hb _).os, (hb _).tape, (hb _).output, (hb _).size, fun k hk _ => (hb _).block k hk⟩
  · have hh' : hasName o s = false := by simpa using hh
    rw [hh'] at lk
    have HH := hide hh'
    have hb := fun o => (Below.refl w.heap.size w).alloc (Nat.le_refl _) o
    obtain ⟨w2, hput, hn2, hg2⟩ := (h.move ((hb (.cells #[] 101)).block _ h.lt)).put hs hn
    have HN2 := hide hn2
    have HG2 := hide (show w.grownBy w2 (some b) from ⟨hg2.os.trans (hb _).os, hg2.tape.trans (hb _).tape, hg2.output.trans (hb _).output, Nat.le_trans (hb _).size hg2.size, fun k hk hne => (hg2.block k (Nat.lt_of_lt_of_le hk (hb _).size) hne).trans ((hb _).block k hk)⟩)
    clear h hh hh' hn2 hg2 hb
    go_enter Tryz.func23, Tryz.ntmps23
    go_wp2_with fail
    go_ret
    exact ⟨by rw [unhide HH]; rfl, by rw [if_neg (by rw [unhide HH]; decide)]; exact unhide HN2, unhide HG2⟩
end Go.Proofs.YtjcoobkpmpjpbaaGreatDoor

namespace Go.Proofs.YtjcoobkpmpjpbaaGreatDoor
open Go.RowKit Go.Maps

/-- A function that looks for names in scopes; all of it lies below N. -/
def SeesAt (w : World) : Nat → Value → List (List ByteArray) → Prop
  | _, f, [] => f = .func (.func 43) #[] #[]
  | N, f, o :: r => ∃ c1 c2 b f' N', f = .func (.func 70) #[] #[.pointer (some ⟨c1, 0, none⟩), .pointer (some ⟨c2, 0, none⟩)] ∧ w.heap[c1]? = some (.cells #[.map (some b)] 66 (0, 0)) ∧ w.heap[c2]? = some (.cells #[f'] 40 (0, 0)) ∧ NamesAt w b o ∧ N' ≤ b ∧ b < N ∧ c1 < N ∧ c2 < N ∧ SeesAt w N' f' r
theorem SeesAt.keep {w w' : World} : ∀ {env : List (List ByteArray)} {N : Nat} {f : Value}, SeesAt w N f env → (∀ k, k < N → w'.heap[k]? = w.heap[k]?) → SeesAt w' N f env
  | [], _, _, h, _ => h
  | o :: r, N, f, h, hk => by
    obtain ⟨c1, c2, b, f', N', h1, h2, h3, h4, h5, h6, h7, h8, h9⟩ := h
    exact ⟨c1, c2, b, f', N', h1, (hk c1 h7).trans h2, (hk c2 h8).trans h3, h4.move (hk b h6), h5, h6, h7, h8, h9.keep (fun k hk' => hk k (by omega))⟩
theorem SeesAt.mono {w : World} : ∀ {env : List (List ByteArray)} {N N' : Nat} {f : Value}, SeesAt w N f env → N ≤ N' → SeesAt w N' f env
  | [], _, _, _, h, _ => h
  | o :: r, N, N', f, h, hl => by
    obtain ⟨c1, c2, b, f', M, h1, h2, h3, h4, h5, h6, h7, h8, h9⟩ := h
    exact ⟨c1, c2, b, f', M, h1, h2, h3, h4, h5, by omega, by omega, by omega, h9⟩
def SeesPost (w : World) (b : Bool) (e : Ending) (w' : World) : Prop := e = .returned (.bool b) ∧ Below w.heap.size w w'

set_option maxRecDepth 100000 in
set_option maxHeartbeats 2000000 in
theorem alone_none (s : ByteArray) (w : World) : Calls Tryz.prog 43 #[.string s] w fun e w' => SeesPost w false e w' := by
  go_enter Tryz.func43, Tryz.ntmps43
  go_wp2_with fail
  go_ret
  exact ⟨rfl, Below.refl _ _⟩

set_option maxRecDepth 100000 in
set_option maxHeartbeats 4000000 in
theorem within_sees {w : World} {c1 c2 b : Nat} {f' : Value} {o : List ByteArray} {s : ByteArray} (hs : s.size ≤ 300) {rb : Bool} (h2 : w.heap[c1]? = some (.cells #[.map (some b)] 66 (0, 0))) (h3 : w.heap[c2]? = some (.cells #[f'] 40 (0, 0))) (h4 : NamesAt w b o) {F : FuncId} {cap : Array Value} (hf : f' = .func (.func F) #[] cap) (hent : ∀ w : World, Sem.run Tryz.prog (callFunc F (#[.string s] ++ cap)) w = .ok (.enter F (#[.string s] ++ cap)) w)
    (hr : ∀ w', Below w.heap.size w w' → Calls Tryz.prog F (#[.string s] ++ cap) w' fun e w'' => SeesPost w' rb e w'') :
    Calls Tryz.prog 70 #[.string s, .pointer (some ⟨c1, 0, none⟩), .pointer (some ⟨c2, 0, none⟩)] w fun e w' => SeesPost w (hasName o s || rb) e w' := by
  subst hf
  have lk := h4.look hs
  have k1 := hcell h2 0
  have k2 := hcell h3 0
  have HR := hide hr
  have l2 : c2 < w.heap.size := (Array.getElem?_eq_some_iff.1 h3).1
  have l3 : c2 ≠ w.heap.size := Nat.ne_of_lt l2
  have HB := hide (fun o => (Below.refl w.heap.size w).alloc (Nat.le_refl _) o)
  clear h2 h3 h4 hr
  cases hb : hasName o s with
  | true =>
    rw [hb] at lk
    go_enter Tryz.func70, Tryz.ntmps70
    go_wp2_with fail
    go_ret
    exact ⟨rfl, unhide HB _⟩
  | false =>
    rw [hb] at lk
    go_enter Tryz.func70, Tryz.ntmps70
    go_wp2_with fail
    refine (unhide HR _ (unhide HB _)).mono ?_
    rintro e w2 ⟨rfl, hb2⟩
    have HB2 := hide ((unhide HB _).trans (hb2.mono (by simp)))
    clear hb2
    go_wp2_with fail
    go_ret
    exact ⟨rfl, unhide HB2⟩
theorem ent_within (s : ByteArray) (a b : Value) (w : World) : Sem.run Tryz.prog (callFunc 70 (#[.string s] ++ #[a, b])) w = .ok (.enter 70 (#[.string s] ++ #[a, b])) w := by kernel_rfl
theorem ent_alone (s : ByteArray) (w : World) : Sem.run Tryz.prog (callFunc 43 (#[.string s] ++ #[])) w = .ok (.enter 43 (#[.string s] ++ #[])) w := by kernel_rfl
/-- Whether a name is seen. -/
theorem sees_any {s : ByteArray} (hs : s.size ≤ 300) : ∀ (env : List (List ByteArray)) (N : Nat) (f : Value) (w : World), SeesAt w N f env → N ≤ w.heap.size → ∃ F cap, f = .func (.func F) #[] cap ∧ (∀ w : World, Sem.run Tryz.prog (callFunc F (#[.string s] ++ cap)) w = .ok (.enter F (#[.string s] ++ cap)) w) ∧ Calls Tryz.prog F (#[.string s] ++ cap) w fun e w' => SeesPost w (seesP env s) e w'
  | [], N, f, w, h, _ => ⟨_, _, h, ent_alone s, alone_none s w⟩
  | o :: r, N, f, w, h, hN => by
    obtain ⟨c1, c2, b, f', N', h1, h2, h3, h4, h5, h6, h7, h8, h9⟩ := h
    obtain ⟨F, cap, e1, e2, _⟩ := sees_any hs r N' f' w h9 (by omega)
    refine ⟨_, _, h1, ent_within s _ _, ?_⟩
    refine within_sees hs h2 h3 h4 e1 e2 fun w' hb => ?_
    obtain ⟨F', cap', e1', _, e3⟩ := sees_any hs r N' f' w' (h9.keep fun k hk => hb.block k (by omega)) (Nat.le_trans (by omega) hb.size)
    rw [e1] at e1'
    cases e1'
    exact e3
/-- A scope: its own names, and what it sees; b: the map of its own names. -/
def ScopeAt (w : World) (N sp b : Nat) (env : List (List ByteArray)) : Prop := ∃ f o r, env = o :: r ∧ w.heap[sp]? = some (.cells #[.map (some b), f] 111 (0, 0)) ∧ sp < N ∧ N ≤ w.heap.size ∧
  ∃ c1 c2 f' N', f = .func (.func 70) #[] #[.pointer (some ⟨c1, 0, none⟩), .pointer (some ⟨c2, 0, none⟩)] ∧ w.heap[c1]? = some (.cells #[.map (some b)] 66 (0, 0)) ∧ w.heap[c2]? = some (.cells #[f'] 40 (0, 0)) ∧ NamesAt w b o ∧ N' ≤ b ∧ b < N ∧ c1 < N ∧ c2 < N ∧ SeesAt w N' f' r
theorem ScopeAt.sees {w : World} {N sp b : Nat} {env : List (List ByteArray)} (h : ScopeAt w N sp b env) : ∃ f, w.heap[sp]? = some (.cells #[.map (some b), f] 111 (0, 0)) ∧ SeesAt w N f env := by
  obtain ⟨f, o, r, rfl, h1, _, _, c1, c2, f', N', h2⟩ := h
  exact ⟨f, h1, c1, c2, b, f', N', h2⟩
theorem ScopeAt.own {w : World} {N sp b : Nat} {env : List (List ByteArray)} (h : ScopeAt w N sp b env) : NamesAt w b (env.headD []) := by
  obtain ⟨f, o, r, rfl, h1, _, _, c1, c2, f', N', _, _, _, h2, _⟩ := h
  exact h2
theorem ScopeAt.keep {w w' : World} {N sp b : Nat} {env : List (List ByteArray)} (h : ScopeAt w N sp b env) (hk : ∀ k, k < N → w'.heap[k]? = w.heap[k]?) (hs : w.heap.size ≤ w'.heap.size) : ScopeAt w' N sp b env := by
  obtain ⟨f, o, r, rfl, h1, h2, h3, c1, c2, f', N', a1, a2, a3, a4, a5, a6, a7, a8, a9⟩ := h
  exact ⟨f, o, r, rfl, (hk sp h2).trans h1, h2, Nat.le_trans h3 hs, c1, c2, f', N', a1, (hk c1 a7).trans a2, (hk c2 a8).trans a3, a4.move (hk b a6), a5, a6, a7, a8, a9.keep (fun k hk' => hk k (by omega))⟩
/-- Its own names have turned, nothing else. -/
theorem ScopeAt.put {w w' : World} {N sp b : Nat} {env : List (List ByteArray)} (h : ScopeAt w N sp b env) {o' : List ByteArray} (hn : NamesAt w' b o') (hg : w.grownBy w' (some b)) : ScopeAt w' N sp b (o' :: env.tail) := by
  obtain ⟨f, o, r, rfl, h1, h2, h3, c1, c2, f', N', a1, a2, a3, a4, a5, a6, a7, a8, a9⟩ := h
  obtain ⟨_, ⟨es, cl, m1, _⟩, _⟩ := a4
  have ne : ∀ {k : Nat} {cs : Array Value} {t : TypeId} {fr : Nat × Nat}, w.heap[k]? = some (.cells cs t fr) → w'.heap[k]? = some (.cells cs t fr) := fun {k cs t fr} hk => (hg.block k (Array.getElem?_eq_some_iff.1 hk).1 (fun e => by
    have e : k = b := Option.some.inj e
    rw [e, m1] at hk
    cases hk)).trans hk
  exact ⟨f, o', r, rfl, ne h1, h2, Nat.le_trans h3 hg.size, c1, c2, f', N', a1, ne a2, ne a3, hn, a5, a6, a7, a8, a9.keep (fun k hk' => hg.block k (by omega) (fun e => by have := Option.some.inj e; omega))⟩
theorem sees_form {w : World} {N : Nat} {f : Value} : ∀ {env : List (List ByteArray)}, SeesAt w N f env → ∃ F cap, f = .func (.func F) #[] cap
  | [], h => ⟨_, _, h⟩
  | _ :: _, h => by
    obtain ⟨c1, c2, b, f', N', h1, _⟩ := h
    exact ⟨_, _, h1⟩

theorem hnewK (w : World) (o : Obj) {n : Nat} (hn : w.heap.size = n) : (w.alloc o).heap[n]? = some o := by
  rw [← hn]; exact hnew w o
theorem alloc4 (w : World) (a b c d : Obj) : (((((w.alloc a).alloc b).alloc c).alloc d).heap[w.heap.size]? = some a) ∧ (((((w.alloc a).alloc b).alloc c).alloc d).heap[w.heap.size + 1]? = some b) ∧ (((((w.alloc a).alloc b).alloc c).alloc d).heap[w.heap.size + 1 + 1]? = some c) ∧ (((((w.alloc a).alloc b).alloc c).alloc d).heap[w.heap.size + 1 + 1 + 1]? = some d) ∧ Below w.heap.size w ((((w.alloc a).alloc b).alloc c).alloc d) ∧ ((((w.alloc a).alloc b).alloc c).alloc d).heap.size = w.heap.size + 4 :=
  ⟨(Below.heap_alloc _ _ _ (by simp <;> omega)).trans ((Below.heap_alloc _ _ _ (by simp <;> omega)).trans ((Below.heap_alloc _ _ _ (by simp)).trans (hnew w a))),
   (Below.heap_alloc _ _ _ (by simp <;> omega)).trans ((Below.heap_alloc _ _ _ (by simp)).trans (hnewK _ _ (by simp))),
   (Below.heap_alloc _ _ _ (by simp)).trans (hnewK _ _ (by simp)), hnewK _ _ (by simp),
   ((((Below.refl _ _).alloc (Nat.le_refl _) _).alloc (by simp) _).alloc (by simp <;> omega) _).alloc (by simp <;> omega) _, by simp⟩
/-- A scope within another one. -/
def WithinPost (w : World) (env : List (List ByteArray)) (e : Ending) (w' : World) : Prop := ∃ N sp b, e = .returned (.pointer (some ⟨sp, 0, none⟩)) ∧ w.heap.size ≤ sp ∧ w.heap.size ≤ b ∧ ScopeAt w' N sp b ([] :: env) ∧ Below w.heap.size w w'

set_option maxRecDepth 100000 in
set_option maxHeartbeats 4000000 in
theorem within_any {w : World} {N : Nat} {f : Value} {env : List (List ByteArray)} (h : SeesAt w N f env) (hN : N ≤ w.heap.size) : Calls Tryz.prog 42 #[f] w fun e w' => WithinPost w env e w' := by
  have H := hide h
  obtain ⟨F, cap, rfl⟩ := sees_form h
  clear h
  go_enter Tryz.func42, Tryz.ntmps42
  go_wp2_with fail
  refine (newNames_any _).mono ?_
  rintro e w1 ⟨rfl, rfl⟩
  go_wp2_with fail
  go_ret
  obtain ⟨q0, q1, q2, q3, q4, q5⟩ := alloc4 w (.cells #[.func (.func F) #[] cap] 40) (.map #[] 0) (.cells #[.map (some (w.heap.size + 1))] 66) (.cells #[.map (some (w.heap.size + 1)), .func (.func 70) #[] #[.pointer (some ⟨w.heap.size + 1 + 1, 0, none⟩), .pointer (some ⟨w.heap.size, 0, none⟩)]] 111)
  refine ⟨w.heap.size + 4, _, w.heap.size + 1, rfl, by omega, by omega, ⟨_, [], env, rfl, q3, by omega, by rw [q5]; exact Nat.le_refl _, w.heap.size + 1 + 1, w.heap.size, _, w.heap.size, rfl, q2, q0, ?_, by omega, by omega, by omega, by omega, ((unhide H).keep fun k hk => q4.block k (by omega)).mono hN⟩, q4⟩
  have hm := NamesAt.made (w.alloc (.cells #[.func (.func F) #[] cap] 40))
  have e : (w.alloc (.cells #[.func (.func F) #[] cap] 40)).heap.size = w.heap.size + 1 := by simp
  rw [e] at hm
  exact hm.move (q1.trans (hnewK _ _ e).symm)

set_option maxRecDepth 100000 in
set_option maxHeartbeats 4000000 in
theorem alone_any (w : World) : Calls Tryz.prog 29 #[] w fun e w' => WithinPost w [] e w' := by
  go_enter Tryz.func29, Tryz.ntmps29
  go_wp2_with fail
  refine (within_any (N := 0) (f := .func (.func 43) #[] #[]) (env := []) rfl (Nat.zero_le _)).mono ?_
  rintro e w1 ⟨N, sp, b, rfl, h1, h2, h3, h4⟩
  go_wp2_with fail
  go_ret
  exact ⟨N, sp, b, rfl, h1, h2, h3, h4⟩
end Go.Proofs.YtjcoobkpmpjpbaaGreatDoor

namespace Go.Proofs.YtjcoobkpmpjpbaaGreatDoor
open Go.RowKit Go.Maps

/-- Nodes one behind the other, all below M. -/
def ListAt (M : Nat) (w : World) (v : Value) (l : List Tree) : Prop := ∃ g cap, v = .slice g l.length cap ∧ l.length ≤ maxLen ∧ ∀ (i : Nat) (t : Tree), l[i]? = some t → ∃ a b, g = some ⟨a, 0, none⟩ ∧ a < M ∧ w.cell? ⟨a, i, none⟩ = some (.pointer (some ⟨b, 0, none⟩)) ∧ NodeAt (fun k => k < M) w (.pointer (some ⟨b, 0, none⟩)) t
theorem node_ptr {A : Nat → Prop} {w : World} {v : Value} {t : Tree} (h : NodeAt A w v t) : ∃ b, v = .pointer (some ⟨b, 0, none⟩) := by
  rw [NodeAt_iff] at h
  obtain ⟨b, _, _, _, rfl, _⟩ := h
  exact ⟨b, rfl⟩
theorem list_of_row {M : Nat} {w : World} {ks : Value} {vs : List Value} {l : List Tree} (hr : Row (fun k => k < M) w ks vs) (hl : vs.length = l.length) (hk : ∀ (i : Nat) (h : i < l.length), NodeAt (fun k => k < M) w (vs.getD i undef) l[i]) : ListAt M w ks l := by
  rcases hr with ⟨rfl, rfl⟩ | ⟨g, cap, cur, rfl, hg, h3, h4, h5, h6, h7⟩
  · have h0 : l.length = 0 := hl.symm
    refine ⟨none, 0, by rw [h0], by rw [h0]; exact Nat.zero_le _, fun i t h => ?_⟩
    have := (List.getElem?_eq_some_iff.1 h).1
    omega
  · refine ⟨some ⟨g, 0, none⟩, cap, by rw [hl], by omega, fun i t h => ?_⟩
    have hi := (List.getElem?_eq_some_iff.1 h).1
    have ht := (List.getElem?_eq_some_iff.1 h).2
    have hn := hk i hi
    rw [ht] at hn
    obtain ⟨b, e⟩ := node_ptr hn
    refine ⟨g, b, rfl, hg, ?_, by rw [← e]; exact hn⟩
    rw [hcell h3 i, ← e]
    have q : (cur.toList.take vs.length)[i]? = vs[i]? := by rw [h7]
    rw [List.getElem?_take_of_lt (by omega)] at q
    rw [← Array.getElem?_toList, q, List.getD_eq_getElem?_getD, List.getElem?_eq_getElem (by omega)]
    rfl
/-- What a node's cells hold. -/
structure NodeC (M : Nat) (w : World) (b : Nat) (t : Tree) (ks : Value) : Prop where
  lt : b < M
  c0 : w.cell? ⟨b, 0, none⟩ = some (.int .i64 t.kind)
  c1 : w.cell? ⟨b, 1, none⟩ = some (.string t.text)
  c2 : w.cell? ⟨b, 2, none⟩ = some (.string t.under)
  c4 : w.cell? ⟨b, 4, none⟩ = some (.int .i64 t.line)
  c5 : w.cell? ⟨b, 5, none⟩ = some ks
  kids : ListAt M w ks t.kids
theorem node_view {M : Nat} {w : World} {b : Nat} {t : Tree} (h : NodeAt (fun k => k < M) w (.pointer (some ⟨b, 0, none⟩)) t) : ∃ ks, NodeC M w b t ks := by
  rw [NodeAt_iff] at h
  obtain ⟨b', ty, ks, vs, e, h2, h3, h4, h5, h6⟩ := h
  cases e
  exact ⟨ks, h2, hcell h3 0, hcell h3 1, hcell h3 2, hcell h3 4, hcell h3 5, list_of_row h4 h5 h6⟩
theorem node_keep {M : Nat} {w w' : World} {v : Value} {t : Tree} (h : NodeAt (fun k => k < M) w v t) (hk : ∀ k, k < M → w'.heap[k]? = w.heap[k]?) : NodeAt (fun k => k < M) w' v t := NodeAt.keep (fun _ h => h) (fun k hk' _ => hk k hk') t v h
theorem ListAt.keep {M : Nat} {w w' : World} {v : Value} {l : List Tree} (h : ListAt M w v l) (hk : ∀ k, k < M → w'.heap[k]? = w.heap[k]?) : ListAt M w' v l := by
  obtain ⟨g, cap, h1, h2, h3⟩ := h
  refine ⟨g, cap, h1, h2, fun i t ht => ?_⟩
  obtain ⟨a, b, e, ha, hc, hn⟩ := h3 i t ht
  exact ⟨a, b, e, ha, (World.cell?_of_block (hk a ha)).trans hc, node_keep hn hk⟩
def clsV (o : Option Nat) : Int := match o with
  | none => -1
  | some i => i
/-- A program's table. -/
structure TabAt (M : Nat) (w : World) (tp : Nat) (T : Tab) (vc vf : Value) : Prop where
  lt : tp < M
  blk : w.heap[tp]? = some (.cells #[vc, vf] 39 (0, 0))
  fns : ListAt M w vf T.fns
  form : ∃ g cap, vc = .slice g T.cs.length cap
  many : T.cs.length ≤ 1000000
  cls : ∀ (i : Nat) (c : Tree), T.cs[i]? = some c → ∃ g cap vl vm, vc = .slice (some ⟨g, 0, none⟩) T.cs.length cap ∧ g < M ∧ w.cell? ⟨g, i * 4, none⟩ = some (.string c.text) ∧ w.cell? ⟨g, i * 4 + 1, none⟩ = some (.int .i64 (clsV (numF T.cs c.under))) ∧ w.cell? ⟨g, i * 4 + 2, none⟩ = some vl ∧ w.cell? ⟨g, i * 4 + 3, none⟩ = some vm ∧ (∃ a n k, vl = .slice a n k) ∧ ListAt M w vm (methodsIn c)
theorem TabAt.keep {M : Nat} {w w' : World} {tp : Nat} {T : Tab} {vc vf : Value} (h : TabAt M w tp T vc vf) (hk : ∀ k, k < M → w'.heap[k]? = w.heap[k]?) : TabAt M w' tp T vc vf := by
  refine ⟨h.lt, (hk tp h.lt).trans h.blk, h.fns.keep hk, h.form, h.many, fun i c hc => ?_⟩
  obtain ⟨g, cap, vl, vm, e, hg, a0, a1, a2, a3, a4, a5⟩ := h.cls i c hc
  have q := fun j => World.cell?_of_block (a := ⟨g, j, none⟩) (hk g hg)
  exact ⟨g, cap, vl, vm, e, hg, (q _).trans a0, (q _).trans a1, (q _).trans a2, (q _).trans a3, a4, a5.keep hk⟩
theorem toList_data (a : ByteArray) : a.toList = a.data.toList := ByteArray.toList_eq a
theorem beq_text (a b : ByteArray) : (a.toList == b.toList) = decide (a = b) := by
  rw [toList_data, toList_data]
  by_cases h : a = b
  · subst h
    simp
  · rw [decide_eq_false h]
    have : a.data.toList ≠ b.data.toList := fun e => h (WideShapes.bytes_inj e)
    simpa using this
theorem first_none {l : List Tree} {s : ByteArray} : firstOf l s = none ↔ ∀ (i : Nat) (t : Tree), l[i]? = some t → t.text ≠ s := by
  unfold firstOf
  rw [List.findIdx?_eq_none_iff]
  constructor
  · intro h i t ht e
    have := h t (List.mem_of_getElem? ht)
    simp [e] at this
  · intro h t ht
    obtain ⟨i, hi⟩ := List.getElem?_of_mem ht
    simpa using h i t hi
theorem first_some {l : List Tree} {s : ByteArray} {i : Nat} {t : Tree} (h : l[i]? = some t) (e : t.text = s) (hb : ∀ (j : Nat) (u : Tree), j < i → l[j]? = some u → u.text ≠ s) : firstOf l s = some i := by
  unfold firstOf
  have hi := (List.getElem?_eq_some_iff.1 h).1
  rw [List.findIdx?_eq_some_iff_getElem]
  refine ⟨hi, ?_, fun j hj => ?_⟩
  · rw [(List.getElem?_eq_some_iff.1 h).2]
    simpa using e
  · simpa using hb j _ hj (List.getElem?_eq_getElem (by omega))

set_option maxRecDepth 100000 in
set_option maxHeartbeats 4000000 in
/-- The number of a function. -/
theorem tabFn_any {M : Nat} {w : World} {tp : Nat} {T : Tab} {vc vf : Value} (h : TabAt M w tp T vc vf) (s : ByteArray) : Calls Tryz.prog 7 #[.pointer (some ⟨tp, 0, none⟩), .string s] w fun e w' => e = .returned (.int .i64 (clsV (firstOf T.fns s))) ∧ Below w.heap.size w w' := by
  have c1 : w.cell? ⟨tp, 1, none⟩ = some vf := hcell h.blk 1
  obtain ⟨g, cap, rfl, hmax, hat⟩ := h.fns
  have HAT := hide hat
  obtain ⟨N, hN⟩ : ∃ N, T.fns.length = N := ⟨_, rfl⟩
  have HN := hide hN
  rw [hN] at c1 hmax
  unfold maxLen at hmax
  clear h hat
  go_enter Tryz.func7, Tryz.ntmps7
  go_wp2_with fail
  go_loopg [14] N (fun gg iv wr => ∃ (i : Nat), i ≤ N ∧ gg = N - i ∧ iv = .int .i64 i ∧ wr = w ∧ Hid (∀ (j : Nat) (u : Tree), j < i → T.fns[j]? = some u → u.text ≠ s))
  case atStart => exact ⟨0, Nat.zero_le _, rfl, rfl, rfl, fun j u hj => absurd hj (Nat.not_lt_zero j)⟩
  case round =>
    obtain ⟨i, hi, rfl, rfl, rfl, HB⟩ := hrel
    by_cases hlt2 : i < N
    · have hlt3 : (i : Int) < (N : Int) := by omega
      obtain ⟨t, ht⟩ : ∃ t, T.fns[i]? = some t := ⟨_, List.getElem?_eq_getElem (by have := unhide HN; omega)⟩
      obtain ⟨a, b, rfl, ha, hc, hn⟩ := unhide HAT i t ht
      obtain ⟨ks, hv⟩ := node_view hn
      have k1 := hv.c1
      have HT := hide ht
      clear hn hv ht
      have hbt := beq_text t.text s
      by_cases he : t.text = s
      · rw [decide_eq_true he] at hbt
        have HE := hide he
        clear he
        go_wp2_with fail
        go_ret
        refine ⟨?_, Below.refl _ _⟩
        rw [first_some (unhide HT) (unhide HE) (unhide HB)]
        rfl
      · rw [decide_eq_false he] at hbt
        have HE := hide he
        clear he
        go_wp2_with fail
        go_roundg (N - (i + 1))
        case measure => omega
        case rel =>
          refine ⟨i + 1, by omega, rfl, by go_num, rfl, fun j u hj hu => ?_⟩
          by_cases e : j = i
          · subst e
            rw [unhide HT] at hu
            cases hu
            exact unhide HE
          · exact unhide HB j u (by omega) hu
    · obtain rfl : i = N := by omega
      have hlt3 : decide ((i : Int) < (i : Int)) = false := by simp
      go_wp2_with fail
      go_ret
      refine ⟨?_, Below.refl _ _⟩
      have : firstOf T.fns s = none := first_none.2 fun j u hu => unhide HB j u (by have := (List.getElem?_eq_some_iff.1 hu).1; have := unhide HN; omega) hu
      rw [this]
      rfl

set_option maxRecDepth 100000 in
set_option maxHeartbeats 4000000 in
/-- The number of a class. -/
theorem tabClass_any {M : Nat} {w : World} {tp : Nat} {T : Tab} {vc vf : Value} (h : TabAt M w tp T vc vf) (hM : M ≤ w.heap.size) (s : ByteArray) : Calls Tryz.prog 8 #[.pointer (some ⟨tp, 0, none⟩), .string s] w fun e w' => e = .returned (.int .i64 (clsV (firstOf T.cs s))) ∧ Below w.heap.size w w' := by
  have c1 : w.cell? ⟨tp, 0, none⟩ = some vc := hcell h.blk 0
  obtain ⟨g, cap, rfl⟩ := h.form
  have hmany := h.many
  have HM := hide hM
  have HT := hide h
  obtain ⟨N, hN⟩ : ∃ N, T.cs.length = N := ⟨_, rfl⟩
  have HN := hide hN
  rw [hN] at c1 hmany
  clear h hM
  go_enter Tryz.func8, Tryz.ntmps8
  go_wp2_with fail
  go_loopg [14] N (fun gg iv wr => ∃ (i : Nat), i ≤ N ∧ gg = N - i ∧ iv = .int .i64 i ∧ Hid (Below w.heap.size w wr) ∧ Hid (∀ (j : Nat) (u : Tree), j < i → T.cs[j]? = some u → u.text ≠ s))
  case atStart => exact ⟨0, Nat.zero_le _, rfl, rfl, Below.refl _ _, fun j u hj => absurd hj (Nat.not_lt_zero j)⟩
  case round =>
    obtain ⟨i, hi, rfl, rfl, HW, HB⟩ := hrel
    by_cases hlt2 : i < N
    · have hlt3 : (i : Int) < (N : Int) := by omega
      obtain ⟨t, ht⟩ : ∃ t, T.cs[i]? = some t := ⟨_, List.getElem?_eq_getElem (by have := unhide HN; omega)⟩
      obtain ⟨g1, cap1, vl, vm, e1, hg, a0, a1, a2, a3, ⟨x1, x2, x3, rfl⟩, hml⟩ := ((unhide HT).keep fun k hk => (unhide HW).block k (Nat.lt_of_lt_of_le hk (unhide HM))).cls i t ht
      obtain ⟨y1, y2, rfl, _, _⟩ := hml
      cases e1
      have HT1 := hide ht
      have lg : g1 < wr.heap.size := Nat.lt_of_lt_of_le hg (Nat.le_trans (unhide HM) (unhide HW).size)
      clear ht hg
      have hbt := beq_text t.text s
      have HWA := hide (fun o => (unhide HW).alloc (unhide HW).size o)
      by_cases he : t.text = s
      · rw [decide_eq_true he] at hbt
        have HE := hide he
        clear he
        go_wp2_with fail
        go_ret
        refine ⟨?_, unhide HWA _⟩
        rw [first_some (unhide HT1) (unhide HE) (unhide HB)]
        rfl
      · rw [decide_eq_false he] at hbt
        have HE := hide he
        clear he
        go_wp2_with fail
        go_roundg (N - (i + 1))
        case measure => omega
        case rel =>
          refine ⟨i + 1, by omega, rfl, by go_num, unhide HWA _, fun j u hj hu => ?_⟩
          by_cases e : j = i
          · subst e
            rw [unhide HT1] at hu
            cases hu
            exact unhide HE
          · exact unhide HB j u (by omega) hu
    · obtain rfl : i = N := by omega
      have hlt3 : decide ((i : Int) < (i : Int)) = false := by simp
      go_wp2_with fail
      go_ret
      refine ⟨?_, unhide HW⟩
      have : firstOf T.cs s = none := first_none.2 fun j u hu => unhide HB j u (by have := (List.getElem?_eq_some_iff.1 hu).1; have := unhide HN; omega) hu
      rw [this]
      rfl

set_option maxRecDepth 100000 in
set_option maxHeartbeats 4000000 in
/-- How many values a function takes. -/
theorem takes_any {M : Nat} {w : World} {b : Nat} {t p : Tree} {r : List Tree} (h : NodeAt (fun k => k < M) w (.pointer (some ⟨b, 0, none⟩)) t) (hk : t.kids = p :: r) : Calls Tryz.prog 94 #[.pointer (some ⟨b, 0, none⟩)] w fun e w' => e = .returned (.int .i64 (takesN t)) ∧ Below w.heap.size w w' := by
  obtain ⟨ks, hv⟩ := node_view h
  have c5 := hv.c5
  obtain ⟨g, cap, rfl, hmax, hat⟩ := hv.kids
  rw [hk] at c5 hmax hat
  obtain ⟨a, b1, rfl, ha, hc, hn⟩ := hat 0 p rfl
  obtain ⟨ks1, hv1⟩ := node_view hn
  have d5 := hv1.c5
  obtain ⟨g1, cap1, rfl, hmax1, _⟩ := hv1.kids
  have htk : takesN t = p.kids.length := by unfold takesN; rw [hk]
  have HTK := hide htk
  have hlen : (0 : Int) < ((p :: r).length : Int) := by simp
  generalize (p :: r).length = N at *
  clear h hv hv1 hat hn htk hmax1
  go_enter Tryz.func94, Tryz.ntmps94
  go_wp2_with fail
  go_ret
  exact ⟨by rw [unhide HTK]; rfl, Below.refl _ _⟩
end Go.Proofs.YtjcoobkpmpjpbaaGreatDoor

namespace Go.Proofs.YtjcoobkpmpjpbaaGreatDoor
open Go.RowKit Go.Maps

def MethPost (M : Nat) (w : World) (r : Option Tree) (e : Ending) (w' : World) : Prop := w' = w ∧ ((r = none ∧ e = .returned (.tuple #[.pointer none, .int .i64 (-1)])) ∨ ∃ m b k, r = some m ∧ e = .returned (.tuple #[.pointer (some ⟨b, 0, none⟩), .int .i64 k]) ∧ NodeAt (fun k => k < M) w (.pointer (some ⟨b, 0, none⟩)) m)
theorem find_hit {l : List Tree} {s : ByteArray} {i : Nat} {t : Tree} (h : l[i]? = some t) (e : t.text = s) (hb : ∀ (j : Nat) (u : Tree), j < i → l[j]? = some u → u.text ≠ s) : (l.find? fun m => decide (m.text = s)) = some t := by
  rw [List.find?_eq_some_iff_getElem]
  have hi := (List.getElem?_eq_some_iff.1 h).1
  refine ⟨by simpa using e, i, hi, (List.getElem?_eq_some_iff.1 h).2, fun j hj => ?_⟩
  simpa using hb j _ hj (List.getElem?_eq_getElem (by omega))
theorem find_miss {l : List Tree} {s : ByteArray} (hb : ∀ (j : Nat) (u : Tree), l[j]? = some u → u.text ≠ s) : (l.find? fun m => decide (m.text = s)) = none := by
  rw [List.find?_eq_none]
  intro t ht
  obtain ⟨i, hi⟩ := List.getElem?_of_mem ht
  simpa using hb i t hi

set_option maxRecDepth 100000 in
set_option maxHeartbeats 8000000 in
theorem tabMethod_any {M : Nat} {w : World} {tp : Nat} {T : Tab} {vc vf : Value} (h : TabAt M w tp T vc vf) {o : Option Nat} (ho : ClsOk T.cs o) (s : ByteArray) :
    Calls Tryz.prog 95 #[.pointer (some ⟨tp, 0, none⟩), .int .i64 (clsV o), .string s] w fun e w' => MethPost M w (methodUp T.cs s T.cs.length o) e w' := by
  have c1 : w.cell? ⟨tp, 0, none⟩ = some vc := hcell h.blk 0
  obtain ⟨g, cap, rfl⟩ := h.form
  have hmany := h.many
  have HT := hide h
  have HO := hide ho
  obtain ⟨N, hN⟩ : ∃ N, T.cs.length = N := ⟨_, rfl⟩
  have HN := hide hN
  rw [hN] at c1 hmany ⊢
  clear h ho
  go_enter Tryz.func95, Tryz.ntmps95
  go_wp2_with fail
  go_loopg [1, 17] N (fun gg cv iv wr => ∃ (i : Nat) (o' : Option Nat), i ≤ N ∧ gg = N - i ∧ iv = .int .i64 i ∧ cv = .int .i64 (clsV o') ∧ wr = w ∧ Hid (ClsOk T.cs o' ∧ methodUp T.cs s (N - i) o' = methodUp T.cs s N o))
  case atStart => exact ⟨0, o, Nat.zero_le _, rfl, rfl, rfl, rfl, unhide HO, rfl⟩
  case round =>
    obtain ⟨i, o', hi, rfl, rfl, rfl, rfl, HI⟩ := hrel
    by_cases hlt2 : i < N
    · have hlt3 : (i : Int) < (N : Int) := by omega
      cases o' with
      | none =>
        have e0 : clsV none = -1 := rfl
        rw [e0]
        go_wp2_with fail
        go_ret2
        refine ⟨rfl, Or.inl ⟨?_, rfl⟩⟩
        rw [← (unhide HI).2]
        cases N - i <;> rfl
      | some k =>
        obtain ⟨c, hc⟩ := (unhide HI).1 k rfl
        obtain ⟨g1, cap1, vl, vm, e1, hg, a0, a1, a2, a3, ⟨x1, x2, x3, rfl⟩, hml⟩ := (unhide HT).cls k c hc
        obtain ⟨y1, y2, rfl, hmx, hat⟩ := hml
        cases e1
        have e0 : clsV (some k) = (k : Int) := rfl
        rw [e0]
        have hkN : k < N := by have := (List.getElem?_eq_some_iff.1 hc).1; have := unhide HN; omega
        have hk3 : (k : Int) < (N : Int) := by omega
        have hk4 : ¬ (k : Int) < 0 := by omega
        have hk5 : ¬ (N : Int) ≤ (k : Int) := by omega
        have hk6 : decide ((N : Int) ≤ (k : Int)) = false := decide_eq_false hk5
        obtain ⟨m, hm⟩ : ∃ m, (methodsIn c).length = m := ⟨_, rfl⟩
        rw [hm] at a3 hmx
        unfold maxLen at hmx
        have HMM := hide hm
        have HAT := hide hat
        have HC := hide hc
        clear hat hc hm
        go_wp2_with fail
        go_loopg [39] m (fun gg iv wx => ∃ (j : Nat), j ≤ m ∧ gg = m - j ∧ iv = .int .i64 j ∧ wx = wr ∧ Hid (∀ (q : Nat) (u : Tree), q < j → (methodsIn c)[q]? = some u → u.text ≠ s))
        case atStart => exact ⟨0, Nat.zero_le _, rfl, rfl, rfl, fun q u hq => absurd hq (Nat.not_lt_zero q)⟩
        case round =>
          obtain ⟨j, hj, rfl, rfl, rfl, HB⟩ := hrel
          have hsucc : N - i = (N - (i + 1)) + 1 := by omega
          have HSUC := hide hsucc
          clear hsucc
          by_cases hj2 : j < m
          · have hj3 : (j : Int) < (m : Int) := by omega
            obtain ⟨t, ht⟩ : ∃ t, (methodsIn c)[j]? = some t := ⟨_, List.getElem?_eq_getElem (by have := unhide HMM; omega)⟩
            obtain ⟨a, b, rfl, ha, hcj, hn⟩ := unhide HAT j t ht
            obtain ⟨ks, hv⟩ := node_view hn
            have k1 := hv.c1
            have HN1 := hide hn
            have HT1 := hide ht
            clear hn hv ht
            have hbt := beq_text t.text s
            by_cases he : t.text = s
            · rw [decide_eq_true he] at hbt
              have HE := hide he
              clear he
              go_wp2_with fail
              go_ret2
              refine ⟨rfl, Or.inr ⟨t, b, k, ?_, rfl, unhide HN1⟩⟩
              rw [← (unhide HI).2, unhide HSUC, methodUp, unhide HC]
              simp only
              rw [find_hit (unhide HT1) (unhide HE) (unhide HB)]
            · rw [decide_eq_false he] at hbt
              have HE := hide he
              clear he
              go_wp2_with fail
              go_roundg (m - (j + 1))
              case measure => omega
              case rel =>
                refine ⟨j + 1, by omega, rfl, by go_num, rfl, fun q u hq hu => ?_⟩
                by_cases e : q = j
                · subst e
                  rw [unhide HT1] at hu
                  cases hu
                  exact unhide HE
                · exact unhide HB q u (by omega) hu
          · obtain rfl : j = m := by omega
            have hj3 : decide ((j : Int) < (j : Int)) = false := by simp
            go_wp2_with fail
            go_roundg (N - (i + 1))
            case measure => omega
            case rel =>
              refine ⟨i + 1, numF T.cs c.under, by omega, rfl, by go_num, rfl, rfl, fun q hq => ?_, ?_⟩
              · obtain ⟨d, hd, _⟩ := numF_some hq
                exact ⟨d, hd⟩
              · rw [← (unhide HI).2, unhide HSUC, methodUp, unhide HC]
                simp only
                rw [find_miss fun q u hu => unhide HB q u (by have := (List.getElem?_eq_some_iff.1 hu).1; have := unhide HMM; omega) hu]
    · obtain rfl : i = N := by omega
      have hlt3 : decide ((i : Int) < (i : Int)) = false := by simp
      go_wp2_with fail
      go_ret2
      refine ⟨rfl, Or.inl ⟨?_, rfl⟩⟩
      rw [← (unhide HI).2, Nat.sub_self]
      rfl
end Go.Proofs.YtjcoobkpmpjpbaaGreatDoor
