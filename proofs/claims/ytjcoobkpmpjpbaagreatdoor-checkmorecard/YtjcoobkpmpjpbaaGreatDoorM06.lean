/-
  Programs as trees, and how they lie in memory.
  What is wrong with programs ahead of running, as plain functions: heads, the table, and what is within.
  A program that is right stays right with a function and a class behind it.
  Nodes are begun.
  A node's kids are appended to.
-/
import Derived.Test.YtjcoobkpmpjpbaaGreatDoorM05
import Derived.Deep.AppendLies
namespace Go.Proofs.YtjcoobkpmpjpbaaGreatDoor
open Go.RowKit

/-- A part of a program. -/
structure Tree where
  kind : Nat
  text : ByteArray
  under : ByteArray
  n : Int
  line : Nat
  kids : List Tree

/-- The cells of a node. -/
def ncells (k : Nat) (tx un : ByteArray) (n : Int) (ln : Nat) (ks : Value) : Array Value := #[.int .i64 k, .string tx, .string un, .int .i64 n, .int .i64 ln, ks]

/-- A list of nodes in memory: nil, or a row of pointers in a block of its own. -/
def Row (A : Nat → Prop) (w : World) (ks : Value) (vs : List Value) : Prop :=
  (ks = .slice none 0 0 ∧ vs = []) ∨
  ∃ g cap cur, ks = .slice (some ⟨g, 0, none⟩) vs.length cap ∧ A g ∧ w.heap[g]? = some (.cells cur 22 (0, 0)) ∧ vs.length ≤ cap ∧ cap ≤ maxLen ∧ cur.size = cap ∧ cur.toList.take vs.length = vs

/-- A value leads to a tree, all of it in blocks of which A holds. -/
def NodeAt (A : Nat → Prop) (w : World) (v : Value) : Tree → Prop
  | ⟨k, tx, un, n, ln, kids⟩ => ∃ b t ks vs, v = .pointer (some ⟨b, 0, none⟩) ∧ A b ∧ w.heap[b]? = some (.cells (ncells k tx un n ln ks) t (0, 0)) ∧ Row A w ks vs ∧ vs.length = kids.length ∧
    ∀ (i : Nat) (h : i < kids.length), have : SizeOf.sizeOf kids[i] < SizeOf.sizeOf kids := List.sizeOf_lt_of_mem (List.getElem_mem h); NodeAt A w (vs.getD i undef) kids[i]

theorem tree_ind (P : Tree → Prop) (h : ∀ t, (∀ k ∈ t.kids, P k) → P t) : ∀ t, P t
  | ⟨_, _, _, _, _, _⟩ => h _ fun k _ => tree_ind P h k

theorem NodeAt_iff (A : Nat → Prop) (w : World) (v : Value) (t : Tree) : NodeAt A w v t ↔ ∃ b ty ks vs, v = .pointer (some ⟨b, 0, none⟩) ∧ A b ∧ w.heap[b]? = some (.cells (ncells t.kind t.text t.under t.n t.line ks) ty (0, 0)) ∧ Row A w ks vs ∧ vs.length = t.kids.length ∧
    ∀ (i : Nat) (h : i < t.kids.length), NodeAt A w (vs.getD i undef) t.kids[i] := by
  obtain ⟨k, tx, un, n, ln, kids⟩ := t
  rw [NodeAt]

theorem Row.keep {A A' : Nat → Prop} {w w' : World} {ks : Value} {vs : List Value} (h : Row A w ks vs) (hA : ∀ k, A k → A' k) (hk : ∀ k, A k → k < w.heap.size → w'.heap[k]? = w.heap[k]?) : Row A' w' ks vs := by
  rcases h with h | ⟨g, cap, cur, h1, h2, h3, h4⟩
  · exact Or.inl h
  · exact Or.inr ⟨g, cap, cur, h1, hA g h2, (hk g h2 (Array.getElem?_eq_some_iff.1 h3).1).trans h3, h4⟩

theorem NodeAt.keep {A A' : Nat → Prop} {w w' : World} (hA : ∀ k, A k → A' k) (hk : ∀ k, A k → k < w.heap.size → w'.heap[k]? = w.heap[k]?) : ∀ (t : Tree) (v : Value), NodeAt A w v t → NodeAt A' w' v t := by
  refine tree_ind _ fun t ih v h => ?_
  rw [NodeAt_iff] at h ⊢
  obtain ⟨b, ty, ks, vs, h1, h2, h3, h4, h5, h6⟩ := h
  exact ⟨b, ty, ks, vs, h1, hA b h2, (hk b h2 (Array.getElem?_eq_some_iff.1 h3).1).trans h3, h4.keep hA hk, h5, fun i hi => ih _ (List.getElem_mem hi) _ (h6 i hi)⟩

/-- Behind a call that leaves all but the reader's block. -/
theorem NodeAt.ext {A : Nat → Prop} {w w' : World} {r : Nat} {v : Value} {t : Tree} (h : NodeAt A w v t) (hx : Ext r w w') (hr : ∀ k, A k → k ≠ r) : NodeAt A w' v t :=
  h.keep (fun _ h => h) (fun k hk hl => hx.block k hl (hr k hk)) t v
theorem NodeAt.mono {A A' : Nat → Prop} {w : World} {v : Value} {t : Tree} (h : NodeAt A w v t) (hA : ∀ k, A k → A' k) : NodeAt A' w v t :=
  h.keep hA (fun _ _ _ => rfl) t v

/-- A node that is being made: block b holds it; its kids lie apart from it and from their own row. -/
structure Und (A : Nat → Prop) (w : World) (b : Nat) (k : Nat) (tx un : ByteArray) (n : Int) (ln : Nat) (ts : List Tree) (ks : Value) (vs : List Value) : Prop where
  at' : A b
  cells : ∃ t, w.heap[b]? = some (.cells (ncells k tx un n ln ks) t (0, 0))
  row : Row (fun j => A j ∧ j ≠ b) w ks vs
  len : vs.length = ts.length
  kids : ∀ (i : Nat) (h : i < ts.length), NodeAt (fun j => A j ∧ j ≠ b ∧ some j ≠ ks.ownBlock) w (vs.getD i undef) ts[i]

theorem Und.node {A : Nat → Prop} {w : World} {b k : Nat} {tx un : ByteArray} {n : Int} {ln : Nat} {ts : List Tree} {ks : Value} {vs : List Value} (h : Und A w b k tx un n ln ts ks vs) : NodeAt A w (.pointer (some ⟨b, 0, none⟩)) ⟨k, tx, un, n, ln, ts⟩ := by
  rw [NodeAt_iff]
  obtain ⟨t, hc⟩ := h.cells
  exact ⟨b, t, ks, vs, rfl, h.at', hc, h.row.keep (fun _ h => h.1) (fun _ _ _ => rfl), h.len, fun i hi => (h.kids i hi).mono fun _ h => h.1⟩
theorem Und.ext {A : Nat → Prop} {w w' : World} {r b k : Nat} {tx un : ByteArray} {n : Int} {ln : Nat} {ts : List Tree} {ks : Value} {vs : List Value} (h : Und A w b k tx un n ln ts ks vs) (hx : Ext r w w') (hr : ∀ j, A j → j ≠ r) : Und A w' b k tx un n ln ts ks vs := by
  obtain ⟨t, hc⟩ := h.cells
  exact ⟨h.at', ⟨t, (hx.block b (Array.getElem?_eq_some_iff.1 hc).1 (hr b h.at')).trans hc⟩, h.row.keep (fun _ h => h) (fun j hj hl => hx.block j hl (hr j hj.1)), h.len,
    fun i hi => (h.kids i hi).ext hx fun j hj => hr j hj.1⟩
theorem Und.mono {A A' : Nat → Prop} {w : World} {b k : Nat} {tx un : ByteArray} {n : Int} {ln : Nat} {ts : List Tree} {ks : Value} {vs : List Value} (h : Und A w b k tx un n ln ts ks vs) (hA : ∀ j, A j → A' j) : Und A' w b k tx un n ln ts ks vs :=
  ⟨hA b h.at', h.cells, h.row.keep (fun _ h => ⟨hA _ h.1, h.2⟩) (fun _ _ _ => rfl), h.len, fun i hi => (h.kids i hi).mono fun _ h => ⟨hA _ h.1, h.2⟩⟩

/-- A store into the node's own block. -/
theorem Und.put {A : Nat → Prop} {w : World} {b k : Nat} {tx un : ByteArray} {n : Int} {ln : Nat} {ts : List Tree} {ks : Value} {vs : List Value} (h : Und A w b k tx un n ln ts ks vs) (i : Nat) (v : Value) {k' : Nat} {tx' un' : ByteArray} {n' : Int} {ln' : Nat}
    (hc : (ncells k tx un n ln ks).setIfInBounds i v = ncells k' tx' un' n' ln' ks) : Und A (w.setCell ⟨b, i, none⟩ v) b k' tx' un' n' ln' ts ks vs := by
  obtain ⟨t, hb⟩ := h.cells
  refine ⟨h.at', ⟨t, by rw [hset hb, hc]⟩, h.row.keep (fun _ h => h) (fun j hj _ => hother v hj.2), h.len, fun i hi => (h.kids i hi).keep (fun _ h => h) (fun j hj _ => hother v hj.2.1) _ _⟩

/-- A node just made. -/
theorem Und.fresh {A : Nat → Prop} {w : World} (hA : A w.heap.size) (k : Nat) (tx un : ByteArray) (n : Int) (ln : Nat) (t : TypeId) : Und A (w.alloc (.cells (ncells k tx un n ln (.slice none 0 0)) t)) w.heap.size k tx un n ln [] (.slice none 0 0) [] :=
  ⟨hA, ⟨t, hnew _ _⟩, Or.inl ⟨rfl, rfl⟩, rfl, fun i h => absurd h (Nat.not_lt_zero i)⟩

end Go.Proofs.YtjcoobkpmpjpbaaGreatDoor

namespace Go.Proofs.YtjcoobkpmpjpbaaGreatDoor
open Go.RowKit

/-- The number of the last class of a name. -/
def numKAt : Nat → List Tree → ByteArray → Option Nat
  | _, [], _ => none
  | i, c :: r, s => match numKAt (i + 1) r s with
    | some k => some k
    | none => if c.text = s then some i else none
def numF (cs : List Tree) (s : ByteArray) : Option Nat := numKAt 0 cs s
theorem numKAt_snoc : ∀ (i : Nat) (l : List Tree) (c : Tree) (s : ByteArray), numKAt i (l ++ [c]) s = if c.text = s then some (i + l.length) else numKAt i l s
  | i, [], c, s => by simp [numKAt]
  | i, x :: l, c, s => by
    rw [List.cons_append, numKAt, numKAt_snoc (i + 1) l c s, numKAt]
    by_cases h : c.text = s
    · rw [if_pos h, if_pos h]
      simp only [List.length_cons]
      congr 1
      omega
    · rw [if_neg h, if_neg h]
theorem numF_snoc (l : List Tree) (c : Tree) (s : ByteArray) : numF (l ++ [c]) s = if c.text = s then some l.length else numF l s := by
  unfold numF
  rw [numKAt_snoc, Nat.zero_add]
theorem numKAt_some : ∀ {i : Nat} {l : List Tree} {s : ByteArray} {k : Nat}, numKAt i l s = some k → ∃ j c, k = i + j ∧ l[j]? = some c ∧ c.text = s
  | i, x :: l, s, k, h => by
    rw [numKAt] at h
    cases h1 : numKAt (i + 1) l s with
    | some m =>
      rw [h1] at h
      cases h
      obtain ⟨j, c, e, h2, h3⟩ := numKAt_some h1
      exact ⟨j + 1, c, by omega, h2, h3⟩
    | none =>
      rw [h1] at h
      simp only at h
      split at h
      · cases h
        exact ⟨0, x, rfl, rfl, by assumption⟩
      · cases h
theorem numF_some {l : List Tree} {s : ByteArray} {k : Nat} (h : numF l s = some k) : ∃ c, l[k]? = some c ∧ c.text = s := by
  obtain ⟨j, c, e, h2, h3⟩ := numKAt_some h
  exact ⟨c, by rw [e, Nat.zero_add]; exact h2, h3⟩
theorem numKAt_none : ∀ {i : Nat} {l : List Tree} {s : ByteArray}, numKAt i l s = none ↔ ∀ c ∈ l, c.text ≠ s
  | i, [], s => by simp [numKAt]
  | i, x :: l, s => by
    rw [numKAt]
    cases h1 : numKAt (i + 1) l s with
    | some m =>
      obtain ⟨j, c, _, h2, h3⟩ := numKAt_some h1
      simp only [reduceCtorEq, false_iff]
      intro h
      exact h c (List.mem_cons_of_mem _ (List.mem_of_getElem? h2)) h3
    | none =>
      have h2 := numKAt_none.1 h1
      simp only
      by_cases e : x.text = s
      · rw [if_pos e]
        simp only [reduceCtorEq, false_iff]
        exact fun h => h x (List.mem_cons_self ..) e
      · rw [if_neg e]
        simp only [true_iff]
        intro c hc
        rcases List.mem_cons.1 hc with rfl | hc
        · exact e
        · exact h2 c hc
/-- Going up by names, no further than there are classes, and once more: does it end? -/
def climb (cs : List Tree) : Nat → ByteArray → Bool
  | 0, _ => false
  | f + 1, s => match numF cs s with
    | none => true
    | some k => match cs[k]? with
      | some c => climb cs f c.under
      | none => true
def noName : ByteArray := ⟨#[]⟩
def aboveOk (cs : List Tree) (c : Tree) : Bool := (decide (c.under = noName) || (numF cs c.under).isSome) && climb cs (cs.length + 1) c.text
def textsOf (l : List Tree) : List ByteArray := l.map Tree.text
def classesOf (l : List Tree) : List Tree := l.filter fun t => t.kind == 2
def fnsOf (l : List Tree) : List Tree := l.filter fun t => t.kind == 5
def fieldsIn (c : Tree) : List ByteArray := textsOf (c.kids.filter fun t => t.kind == 3)
def methodsIn (c : Tree) : List Tree := c.kids.filter fun t => t.kind == 4
def aboveOf (cs : List Tree) (i : Nat) : Option Nat := (cs[i]?).bind fun c => numF cs c.under
/-- The way up from a class. -/
def wayUp (cs : List Tree) : Nat → Option Nat → List Nat
  | 0, _ => []
  | _ + 1, none => []
  | f + 1, some i => i :: wayUp cs f (aboveOf cs i)
def fieldsAll (cs : List Tree) (i : Nat) : List ByteArray := ((wayUp cs cs.length (some i)).reverse.map fun k => (cs[k]?).elim [] fieldsIn).flatten
def tableOk (cs : List Tree) : Prop := ∀ (i : Nat) (c : Tree), cs[i]? = some c → (fieldsAll cs i).Nodup ∧ (textsOf (methodsIn c)).Nodup
def headsOk (l : List Tree) : Prop := (textsOf (classesOf l)).Nodup ∧ (textsOf (fnsOf l)).Nodup ∧ ∀ c ∈ classesOf l, aboveOk (classesOf l) c = true
/-- A program's table. -/
structure Tab where
  cs : List Tree
  fns : List Tree
def tabOf (l : List Tree) : Tab := ⟨classesOf l, fnsOf l⟩
/-- The number of the first one of a name. -/
def firstOf (l : List Tree) (s : ByteArray) : Option Nat := l.findIdx? fun t => decide (t.text = s)
/-- A method of a class, or of one above it. -/
def methodUp (cs : List Tree) (s : ByteArray) : Nat → Option Nat → Option Tree
  | 0, _ => none
  | _ + 1, none => none
  | f + 1, some i => match cs[i]? with
    | none => none
    | some c => match (methodsIn c).find? fun m => decide (m.text = s) with
      | some m => some m
      | none => methodUp cs s f (numF cs c.under)
def takesN (t : Tree) : Nat := match t.kids with
  | p :: _ => p.kids.length
  | [] => 0
def hasName (o : List ByteArray) (s : ByteArray) : Bool := o.any fun x => decide (x = s)
def seesP (env : List (List ByteArray)) (s : ByteArray) : Bool := env.any fun o => hasName o s
def callsFnP (env : List (List ByteArray)) (t : Tree) : Bool := match t.kids with
  | c :: _ => c.kind == 24 && !seesP env c.text
  | [] => false
def initName : ByteArray := ⟨#[105, 110, 105, 116]⟩
def itselfP (T : Tab) (cls : Option Nat) (fn : Bool) (env : List (List ByteArray)) (t : Tree) : Bool :=
  if t.kind = 8 then !hasName (env.headD []) t.text
  else if t.kind = 24 then seesP env t.text
  else if t.kind = 45 then (if callsFnP env t then (match t.kids with
    | c :: vs => (match firstOf T.fns c.text with
      | none => false
      | some i => (T.fns[i]?).elim false fun g => takesN g == vs.length)
    | [] => false) else true)
  else if t.kind = 23 then cls.isSome
  else if t.kind = 26 then (match cls with
    | none => false
    | some c => (match aboveOf T.cs c with
      | none => false
      | some a => (methodUp T.cs t.text T.cs.length (some a)).isSome))
  else if t.kind = 25 then (match firstOf T.cs t.text with
    | none => false
    | some c => ((methodUp T.cs initName T.cs.length (some c)).elim 0 takesN) == t.kids.length)
  else if t.kind = 12 then fn
  else true
def allP (g : List (List ByteArray) → Tree → Option (List (List ByteArray))) : List (List ByteArray) → List Tree → Option (List (List ByteArray))
  | env, [] => some env
  | env, t :: r => match g env t with
    | none => none
    | some env' => allP g env' r
def addHead (s : ByteArray) : List (List ByteArray) → List (List ByteArray)
  | [] => [[s]]
  | o :: r => (s :: o) :: r
/-- A name more, if it is new. -/
def addNew (s : ByteArray) (env : List (List ByteArray)) : List (List ByteArray) := (if hasName (env.headD []) s then env.headD [] else s :: env.headD []) :: env.tail
def addAllP : List (List ByteArray) → List Tree → Option (List (List ByteArray))
  | env, [] => some env
  | env, t :: r => if hasName (env.headD []) t.text then none else addAllP (addHead t.text env) r
def bodyOk (g : List (List ByteArray) → Tree → Option (List (List ByteArray))) (env : List (List ByteArray)) (t : Tree) : Bool := match t.kids with
  | p :: b :: _ => (match addAllP env p.kids with
    | none => false
    | some env' => (allP g env' b.kids).isSome)
  | _ => false
def nodeP (T : Tab) : Nat → Option Nat → Bool → List (List ByteArray) → Tree → Option (List (List ByteArray))
  | 0, _, _, _, _ => none
  | f + 1, cls, fn, env, t =>
    if itselfP T cls fn env t = false then none
    else if t.kind = 2 then allP (nodeP T f (firstOf T.cs t.text) fn) env t.kids
    else if t.kind = 4 ∨ t.kind = 5 then (if bodyOk (nodeP T f cls true) [[]] t then some env else none)
    else if t.kind = 28 then (if bodyOk (nodeP T f cls true) ([] :: env) t then some env else none)
    else if t.kind = 7 then (if (allP (nodeP T f cls fn) ([] :: env) t.kids).isSome then some env else none)
    else if t.kind = 15 then (match t.kids with
      | b :: _ => if (allP (nodeP T f cls fn) ([t.text] :: env) b.kids).isSome then some env else none
      | [] => none)
    else if t.kind = 8 then (allP (nodeP T f cls fn) env t.kids).map (addNew t.text)
    else if t.kind = 45 then allP (nodeP T f cls fn) env (if callsFnP env t then t.kids.tail else t.kids)
    else allP (nodeP T f cls fn) env t.kids
/-- Is a program right? -/
def checkOk (f : Nat) (l : List Tree) : Prop := headsOk l ∧ tableOk (classesOf l) ∧ (allP (nodeP (tabOf l) f none false) [[]] l).isSome = true
end Go.Proofs.YtjcoobkpmpjpbaaGreatDoor

namespace Go.Proofs.YtjcoobkpmpjpbaaGreatDoor
open Go.RowKit

theorem climb_mono {cs : List Tree} : ∀ {f : Nat} {s : ByteArray}, climb cs f s = true → climb cs (f + 1) s = true
  | 0, s, h => by cases h
  | f + 1, s, h => by
    rw [climb] at h ⊢
    cases h1 : numF cs s with
    | none => rfl
    | some k =>
      rw [h1] at h
      simp only at h ⊢
      cases h2 : cs[k]? with
      | none => rfl
      | some c =>
        rw [h2] at h
        exact climb_mono h
/-- All that classes are under is there. -/
def UnderOk (cs : List Tree) : Prop := ∀ c ∈ cs, c.under = noName ∨ (numF cs c.under).isSome = true
section
variable {cs : List Tree} {z : Tree}
theorem num_more {s : ByteArray} (hs : s ≠ z.text) : numF (cs ++ [z]) s = numF cs s := by
  rw [numF_snoc, if_neg (fun e => hs e.symm)]
theorem under_ne (hu : UnderOk cs) (hz : ∀ c ∈ cs, c.text ≠ z.text) (hn : z.text ≠ noName) {c : Tree} (hc : c ∈ cs) : c.under ≠ z.text := fun e => by
  rcases hu c hc with h | h
  · exact hn (by rw [← e, h])
  · rw [e] at h
    have : numF cs z.text = none := numKAt_none.2 hz
    rw [this] at h
    cases h
theorem get_more {k : Nat} {c : Tree} (h : cs[k]? = some c) : (cs ++ [z])[k]? = some c := by
  rw [List.getElem?_append_left (List.getElem?_eq_some_iff.1 h).1]
  exact h
theorem climb_more (hu : UnderOk cs) (hz : ∀ c ∈ cs, c.text ≠ z.text) (hn : z.text ≠ noName) : ∀ (f : Nat) {s : ByteArray}, s ≠ z.text → climb (cs ++ [z]) f s = climb cs f s
  | 0, _, _ => rfl
  | f + 1, s, hs => by
    rw [climb, climb, num_more hs]
    cases h1 : numF cs s with
    | none => rfl
    | some k =>
      simp only
      obtain ⟨c, hc, _⟩ := numF_some h1
      rw [hc, get_more hc]
      exact climb_more hu hz hn f (under_ne hu hz hn (List.mem_of_getElem? hc))
theorem above_more (hu : UnderOk cs) (hz : ∀ c ∈ cs, c.text ≠ z.text) (hn : z.text ≠ noName) {i : Nat} {c : Tree} (h : cs[i]? = some c) : aboveOf (cs ++ [z]) i = aboveOf cs i := by
  unfold aboveOf
  rw [get_more h, h]
  exact num_more (under_ne hu hz hn (List.mem_of_getElem? h))
theorem above_lt {cs : List Tree} {i k : Nat} (h : aboveOf cs i = some k) : ∃ c, cs[k]? = some c := by
  unfold aboveOf at h
  cases hi : cs[i]? with
  | none => rw [hi] at h; cases h
  | some c =>
    rw [hi] at h
    obtain ⟨d, hd, _⟩ := numF_some (show numF cs c.under = some k from h)
    exact ⟨d, hd⟩
theorem way_more (hu : UnderOk cs) (hz : ∀ c ∈ cs, c.text ≠ z.text) (hn : z.text ≠ noName) : ∀ (f : Nat) {o : Option Nat}, (∀ i, o = some i → ∃ c, cs[i]? = some c) → wayUp (cs ++ [z]) f o = wayUp cs f o
  | 0, _, _ => rfl
  | f + 1, none, _ => rfl
  | f + 1, some i, h => by
    obtain ⟨c, hc⟩ := h i rfl
    rw [wayUp, wayUp, above_more hu hz hn hc, way_more hu hz hn f (fun k hk => above_lt hk)]
/-- The way up ends: so many classes are enough. -/
theorem way_long {cs : List Tree} : ∀ {f : Nat} {s : ByteArray}, climb cs (f + 1) s = true → ∀ g, f ≤ g → wayUp cs g (numF cs s) = wayUp cs f (numF cs s)
  | f, s, h, g, hg => by
    rw [climb] at h
    cases h1 : numF cs s with
    | none => cases g <;> cases f <;> rfl
    | some k =>
      rw [h1] at h
      simp only at h
      obtain ⟨d, hd, _⟩ := numF_some h1
      rw [hd] at h
      cases f with
      | zero => cases h
      | succ f =>
        obtain ⟨g, rfl⟩ : ∃ k, g = k + 1 := ⟨g - 1, by omega⟩
        have ha : aboveOf cs k = numF cs d.under := by unfold aboveOf; rw [hd]; rfl
        rw [wayUp, wayUp, ha, way_long h g (by omega)]
theorem method_more (hu : UnderOk cs) (hz : ∀ c ∈ cs, c.text ≠ z.text) (hn : z.text ≠ noName) (s : ByteArray) : ∀ (f : Nat) {o : Option Nat}, (∀ i, o = some i → ∃ c, cs[i]? = some c) → methodUp (cs ++ [z]) s f o = methodUp cs s f o
  | 0, _, _ => rfl
  | f + 1, none, _ => rfl
  | f + 1, some i, h => by
    obtain ⟨c, hc⟩ := h i rfl
    rw [methodUp, methodUp, get_more hc, hc]
    simp only
    rw [num_more (under_ne hu hz hn (List.mem_of_getElem? hc)), method_more hu hz hn s f (fun k hk => by
      obtain ⟨d, hd, _⟩ := numF_some hk
      exact ⟨d, hd⟩)]
theorem method_long {cs : List Tree} (s : ByteArray) : ∀ {f : Nat} {u : ByteArray}, climb cs (f + 1) u = true → ∀ g, f ≤ g → methodUp cs s g (numF cs u) = methodUp cs s f (numF cs u)
  | f, u, h, g, hg => by
    rw [climb] at h
    cases h1 : numF cs u with
    | none => cases g <;> cases f <;> rfl
    | some k =>
      rw [h1] at h
      simp only at h
      obtain ⟨d, hd, _⟩ := numF_some h1
      rw [hd] at h
      cases f with
      | zero => cases h
      | succ f =>
        obtain ⟨g, rfl⟩ : ∃ k, g = k + 1 := ⟨g - 1, by omega⟩
        rw [methodUp, methodUp, hd]
        simp only
        rw [method_long s h g (by omega)]
theorem first_more {l : List Tree} {s : ByteArray} {i : Nat} (h : firstOf l s = some i) (z : Tree) : firstOf (l ++ [z]) s = some i := by
  unfold firstOf at *
  rw [List.findIdx?_append, h]
  rfl
theorem first_get {l : List Tree} {s : ByteArray} {i : Nat} (h : firstOf l s = some i) : ∃ t, l[i]? = some t ∧ t.text = s := by
  unfold firstOf at h
  obtain ⟨hi, h1, _⟩ := List.findIdx?_eq_some_iff_getElem.1 h
  exact ⟨_, List.getElem?_eq_getElem hi, of_decide_eq_true h1⟩
end
/-- Each class leads up to an end. -/
def EndOk (cs : List Tree) : Prop := ∀ c ∈ cs, climb cs cs.length c.under = true
theorem end_of {cs : List Tree} (hd : (textsOf cs).Nodup) (h : ∀ c ∈ cs, aboveOk cs c = true) : UnderOk cs ∧ EndOk cs := by
  refine ⟨fun c hc => ?_, fun c hc => ?_⟩
  · have := h c hc
    unfold aboveOk at this
    simp only [Bool.and_eq_true, Bool.or_eq_true, decide_eq_true_eq] at this
    exact this.1
  · have := h c hc
    unfold aboveOk at this
    simp only [Bool.and_eq_true] at this
    have h2 := this.2
    rw [climb] at h2
    cases h1 : numF cs c.text with
    | none => exact absurd rfl (numKAt_none.1 h1 c hc)
    | some k =>
      rw [h1] at h2
      simp only at h2
      obtain ⟨d, hk, e⟩ := numF_some h1
      rw [hk] at h2
      obtain ⟨j, hj⟩ := List.getElem?_of_mem hc
      have hjl := (List.getElem?_eq_some_iff.1 hj).1
      have e2 : (textsOf cs)[k]? = (textsOf cs)[j]? := by
        unfold textsOf
        rw [List.getElem?_map, List.getElem?_map, hk, hj]
        simp [e]
      have hkl := (List.getElem?_eq_some_iff.1 hk).1
      have : k = j := (List.getElem?_inj (by simpa [textsOf] using hkl) hd).1 e2
      subst this
      rw [hk] at hj
      cases hj
      exact h2
/-- A class as one of the table's. -/
def ClsOk (cs : List Tree) (o : Option Nat) : Prop := ∀ i, o = some i → ∃ c, cs[i]? = some c
theorem all_more {g g' : List (List ByteArray) → Tree → Option (List (List ByteArray))} (h : ∀ env t r, g env t = some r → g' env t = some r) : ∀ (l : List Tree) (env r : List (List ByteArray)), allP g env l = some r → allP g' env l = some r
  | [], _, _, e => e
  | t :: l, env, r, e => by
    rw [allP] at e ⊢
    cases h1 : g env t with
    | none => rw [h1] at e; cases e
    | some env' =>
      rw [h1] at e
      rw [h env t env' h1]
      exact all_more h l env' r e
theorem body_more {g g' : List (List ByteArray) → Tree → Option (List (List ByteArray))} (h : ∀ env t r, g env t = some r → g' env t = some r) {env : List (List ByteArray)} {t : Tree} (e : bodyOk g env t = true) : bodyOk g' env t = true := by
  unfold bodyOk at e ⊢
  split
  · rename_i p b r hk
    rw [hk] at e
    simp only at e
    cases h1 : addAllP env p.kids with
    | none => rw [h1] at e; cases e
    | some env' =>
      rw [h1] at e
      simp only at e ⊢
      cases h2 : allP g env' b.kids with
      | none => rw [h2] at e; cases e
      | some r => rw [all_more h b.kids env' r h2]; rfl
  · rename_i hk
    split at e
    · rename_i p b r hk'
      exact absurd hk' (hk p b r)
    · cases e
theorem first_cls (cs : List Tree) (s : ByteArray) : ClsOk cs (firstOf cs s) := fun i hi => by
  obtain ⟨t, ht, _⟩ := first_get hi
  exact ⟨t, ht⟩
theorem method_tab {T T' : Tab} {zc : Tree} (hu : UnderOk T.cs) (he : EndOk T.cs) (hz : ∀ c ∈ T.cs, c.text ≠ zc.text) (hn : zc.text ≠ noName) (e1 : T'.cs = T.cs ++ [zc]) (s : ByteArray) {i : Nat} (h : ∃ c, T.cs[i]? = some c) : methodUp T'.cs s T'.cs.length (some i) = methodUp T.cs s T.cs.length (some i) := by
  obtain ⟨c, hc⟩ := h
  have hpos : 0 < T.cs.length := by
    have := (List.getElem?_eq_some_iff.1 hc).1
    omega
  rw [e1, method_more hu hz hn s _ (fun k hk => by cases hk; exact ⟨c, hc⟩), List.length_append, List.length_singleton]
  obtain ⟨n, en⟩ : ∃ n, T.cs.length = n + 1 := ⟨T.cs.length - 1, by omega⟩
  have hcl := he c (List.mem_of_getElem? hc)
  rw [en] at hcl ⊢
  rw [methodUp, methodUp, hc]
  simp only
  rw [method_long s hcl (n + 1) (by omega)]
section
variable {T T' : Tab} {zf zc : Tree} (hu : UnderOk T.cs) (he : EndOk T.cs) (hz : ∀ c ∈ T.cs, c.text ≠ zc.text) (hn : zc.text ≠ noName) (e1 : T'.cs = T.cs ++ [zc]) (e2 : T'.fns = T.fns ++ [zf])
include hu he hz hn e1 e2
theorem itself_more {cls cls' : Option Nat} {fn : Bool} {env : List (List ByteArray)} {t : Tree} (hc : ClsOk T.cs cls) (hcc : cls = none ∨ cls' = cls) (h : itselfP T cls fn env t = true) : itselfP T' cls' fn env t = true := by
  unfold itselfP at h ⊢
  by_cases k8 : t.kind = 8
  · rw [if_pos k8] at h ⊢; exact h
  rw [if_neg k8] at h ⊢
  by_cases k24 : t.kind = 24
  · rw [if_pos k24] at h ⊢; exact h
  rw [if_neg k24] at h ⊢
  by_cases k45 : t.kind = 45
  · rw [if_pos k45] at h ⊢
    by_cases hcf : callsFnP env t = true
    · rw [if_pos hcf] at h ⊢
      cases hk : t.kids with
      | nil => rw [hk] at h; cases h
      | cons c vs =>
        rw [hk] at h
        simp only at h ⊢
        cases h1 : firstOf T.fns c.text with
        | none => rw [h1] at h; cases h
        | some i =>
          rw [h1] at h
          rw [e2, first_more h1]
          obtain ⟨g, hg, _⟩ := first_get h1
          simp only at h ⊢
          rw [hg] at h
          rw [get_more hg]
          exact h
    · rw [if_neg hcf]
  rw [if_neg k45] at h ⊢
  by_cases k23 : t.kind = 23
  · rw [if_pos k23] at h ⊢
    rcases hcc with e | e
    · rw [e] at h; cases h
    · rw [e]; exact h
  rw [if_neg k23] at h ⊢
  by_cases k26 : t.kind = 26
  · rw [if_pos k26] at h ⊢
    rcases hcc with e | e
    · rw [e] at h; cases h
    · rw [e]
      cases hcl : cls with
      | none => rw [hcl] at h; cases h
      | some c =>
        rw [hcl] at h
        simp only at h ⊢
        obtain ⟨d, hd⟩ := hc c hcl
        rw [e1, above_more hu hz hn hd, ← e1]
        cases ha : aboveOf T.cs c with
        | none => rw [ha] at h; cases h
        | some a =>
          rw [ha] at h
          simp only at h ⊢
          rw [method_tab hu he hz hn e1 t.text (above_lt ha)]
          exact h
  rw [if_neg k26] at h ⊢
  by_cases k25 : t.kind = 25
  · rw [if_pos k25] at h ⊢
    cases h1 : firstOf T.cs t.text with
    | none => rw [h1] at h; cases h
    | some c =>
      rw [h1] at h
      simp only at h
      obtain ⟨g, hg, _⟩ := first_get h1
      rw [show firstOf T'.cs t.text = some c by rw [e1]; exact first_more h1 zc]
      simp only
      rw [method_tab hu he hz hn e1 initName ⟨g, hg⟩]
      exact h
  rw [if_neg k25] at h ⊢
  exact h
theorem node_more : ∀ (f : Nat) (cls cls' : Option Nat) (fn : Bool) (env : List (List ByteArray)) (t : Tree) (r : List (List ByteArray)), ClsOk T.cs cls → (cls = none ∨ cls' = cls) → nodeP T f cls fn env t = some r → nodeP T' f cls' fn env t = some r
  | 0, _, _, _, _, _, _, _, _, e => by cases e
  | f + 1, cls, cls', fn, env, t, r, hc, hcc, e => by
    have ih : ∀ fn env t r, nodeP T f cls fn env t = some r → nodeP T' f cls' fn env t = some r := fun fn env t r => node_more f cls cls' fn env t r hc hcc
    rw [nodeP] at e ⊢
    have hit : ¬ itselfP T cls fn env t = false := fun q => by rw [if_pos q] at e; cases e
    have hit' : itselfP T' cls' fn env t = true := itself_more hu he hz hn e1 e2 hc hcc (by cases hq : itselfP T cls fn env t; exact absurd hq hit; rfl)
    rw [if_neg hit] at e
    rw [if_neg (by rw [hit']; decide)]
    by_cases k2 : t.kind = 2
    · rw [if_pos k2] at e ⊢
      refine all_more (fun env t' r h => node_more f (firstOf T.cs t.text) (firstOf T'.cs t.text) fn env t' r (first_cls _ _) ?_ h) t.kids env r e
      cases h1 : firstOf T.cs t.text with
      | none => exact Or.inl rfl
      | some i => rw [show firstOf T'.cs t.text = some i by rw [e1]; exact first_more h1 zc]; exact Or.inr rfl
    rw [if_neg k2] at e ⊢
    by_cases k4 : t.kind = 4 ∨ t.kind = 5
    · rw [if_pos k4] at e ⊢
      by_cases hb : bodyOk (nodeP T f cls true) [[]] t = true
      · rw [if_pos hb] at e
        rw [if_pos (body_more (ih true) hb)]
        exact e
      · rw [if_neg hb] at e; cases e
    rw [if_neg k4] at e ⊢
    by_cases k28 : t.kind = 28
    · rw [if_pos k28] at e ⊢
      by_cases hb : bodyOk (nodeP T f cls true) ([] :: env) t = true
      · rw [if_pos hb] at e
        rw [if_pos (body_more (ih true) hb)]
        exact e
      · rw [if_neg hb] at e; cases e
    rw [if_neg k28] at e ⊢
    by_cases k7 : t.kind = 7
    · rw [if_pos k7] at e ⊢
      cases h1 : allP (nodeP T f cls fn) ([] :: env) t.kids with
      | none => rw [h1] at e; cases e
      | some q =>
        rw [h1] at e
        rw [all_more (ih fn) t.kids _ q h1]
        exact e
    rw [if_neg k7] at e ⊢
    by_cases k15 : t.kind = 15
    · rw [if_pos k15] at e ⊢
      cases hk : t.kids with
      | nil => rw [hk] at e; cases e
      | cons b bs =>
        rw [hk] at e
        simp only at e ⊢
        cases h1 : allP (nodeP T f cls fn) ([t.text] :: env) b.kids with
        | none => rw [h1] at e; cases e
        | some q =>
          rw [h1] at e
          rw [all_more (ih fn) b.kids _ q h1]
          exact e
    rw [if_neg k15] at e ⊢
    by_cases k8 : t.kind = 8
    · rw [if_pos k8] at e ⊢
      cases h1 : allP (nodeP T f cls fn) env t.kids with
      | none => rw [h1] at e; cases e
      | some q =>
        rw [h1] at e
        rw [all_more (ih fn) t.kids _ q h1]
        exact e
    rw [if_neg k8] at e ⊢
    by_cases k45 : t.kind = 45
    · rw [if_pos k45] at e ⊢
      exact all_more (ih fn) _ _ r e
    rw [if_neg k45] at e ⊢
    exact all_more (ih fn) _ _ r e
end
theorem all_app {g : List (List ByteArray) → Tree → Option (List (List ByteArray))} : ∀ (l l' : List Tree) (env : List (List ByteArray)), allP g env (l ++ l') = (allP g env l).bind fun e => allP g e l'
  | [], _, _ => rfl
  | t :: l, l', env => by
    rw [List.cons_append, allP, allP]
    cases g env t with
    | none => rfl
    | some e => exact all_app l l' e
/-- A program that is right stays right with a function, and a class, behind it. -/
theorem check_more {f : Nat} {l : List Tree} (h : checkOk (f + 1) l) {zf zc p b : Tree} (k5 : zf.kind = 5) (kf : zf.kids = [p, b]) (kp : p.kids = []) (kb : b.kids = []) (k2 : zc.kind = 2) (ku : zc.under = noName) (kk : zc.kids = []) (hn : zc.text ≠ noName) (hzf : firstOf (fnsOf l) zf.text = none) (hzc : firstOf (classesOf l) zc.text = none) :
    checkOk (f + 1) (l ++ [zf] ++ [zc]) ∧ firstOf (fnsOf (l ++ [zf] ++ [zc])) zf.text = some (fnsOf l).length ∧ firstOf (classesOf (l ++ [zf] ++ [zc])) zc.text = some (classesOf l).length := by
  obtain ⟨⟨d1, d2, d3⟩, ht, ha⟩ := h
  have ec : classesOf (l ++ [zf] ++ [zc]) = classesOf l ++ [zc] := by simp [classesOf, k5, k2]
  have ef : fnsOf (l ++ [zf] ++ [zc]) = fnsOf l ++ [zf] := by simp [fnsOf, k5, k2]
  have hz : ∀ c ∈ classesOf l, c.text ≠ zc.text := fun c hc e => by
    have := List.findIdx?_eq_none_iff.1 hzc c hc
    simp [e] at this
  have hg : ∀ c ∈ fnsOf l, c.text ≠ zf.text := fun c hc e => by
    have := List.findIdx?_eq_none_iff.1 hzf c hc
    simp [e] at this
  obtain ⟨hu, he⟩ := end_of d1 d3
  have hin : ∀ (f : Nat) (o : Option Nat), (∀ j, o = some j → ∃ c, (classesOf l)[j]? = some c) → ∀ k ∈ wayUp (classesOf l) f o, ∃ c, (classesOf l)[k]? = some c := fun f => by
    induction f with
    | zero => intro o _ k hk; cases hk
    | succ f ih =>
      intro o ho k hk
      cases o with
      | none => cases hk
      | some j =>
        rw [wayUp] at hk
        rcases List.mem_cons.1 hk with rfl | hk
        · exact ho k rfl
        · exact ih _ (fun m hm => above_lt hm) k hk
  have hsame : ∀ (i : Nat) (c : Tree), (classesOf l)[i]? = some c → (wayUp (classesOf l) (classesOf l).length (some i)).reverse.map (fun k => ((classesOf l ++ [zc])[k]?).elim [] fieldsIn) = (wayUp (classesOf l) (classesOf l).length (some i)).reverse.map (fun k => ((classesOf l)[k]?).elim [] fieldsIn) := fun i c hc =>
    List.map_congr_left fun k hk => by
      obtain ⟨d, hd⟩ := hin _ _ (fun j hj => by cases hj; exact ⟨c, hc⟩) k (List.mem_reverse.1 hk)
      rw [get_more hd, hd]
  refine ⟨⟨⟨?_, ?_, ?_⟩, ?_, ?_⟩, ?_, ?_⟩
  · rw [ec]
    unfold textsOf at *
    rw [List.map_append]
    refine List.nodup_append.2 ⟨d1, by simp, fun a ha b hb => ?_⟩
    obtain ⟨c, hc, rfl⟩ := List.mem_map.1 ha
    simp at hb
    rw [hb]
    exact hz c hc
  · rw [ef]
    unfold textsOf at *
    rw [List.map_append]
    refine List.nodup_append.2 ⟨d2, by simp, fun a ha b hb => ?_⟩
    obtain ⟨c, hc, rfl⟩ := List.mem_map.1 ha
    simp at hb
    rw [hb]
    exact hg c hc
  · rw [ec]
    intro c hc
    unfold aboveOk
    rw [List.length_append, List.length_singleton, Bool.and_eq_true, Bool.or_eq_true, decide_eq_true_eq]
    rcases List.mem_append.1 hc with hc | hc
    · have := d3 c hc
      unfold aboveOk at this
      rw [Bool.and_eq_true, Bool.or_eq_true, decide_eq_true_eq] at this
      refine ⟨this.1.imp id (fun q => ?_), climb_mono ?_⟩
      · rw [num_more (under_ne hu hz hn hc)]
        exact q
      · rw [climb_more hu hz hn _ (hz c hc)]
        exact this.2
    · obtain rfl := List.mem_singleton.1 hc
      refine ⟨Or.inl ku, ?_⟩
      rw [climb, numF_snoc, if_pos rfl]
      simp only [List.getElem?_append_right (Nat.le_refl _), Nat.sub_self, List.getElem?_cons_zero]
      rw [ku, climb, num_more (fun e => hn e.symm)]
      cases h1 : numF (classesOf l) noName with
      | none => rfl
      | some k =>
        obtain ⟨c, hk, e⟩ := numF_some h1
        simp only
        rw [get_more hk]
        simp only
        have hcl := d3 c (List.mem_of_getElem? hk)
        unfold aboveOk at hcl
        rw [Bool.and_eq_true, climb, e, h1] at hcl
        simp only at hcl
        rw [hk] at hcl
        rw [climb_more hu hz hn _ (under_ne hu hz hn (List.mem_of_getElem? hk))]
        exact hcl.2
  · rw [ec]
    intro i c hc
    by_cases hi : i < (classesOf l).length
    · rw [List.getElem?_append_left hi] at hc
      refine ⟨?_, (ht i c hc).2⟩
      have h0 := (ht i c hc).1
      have hew : wayUp (classesOf l ++ [zc]) (classesOf l ++ [zc]).length (some i) = wayUp (classesOf l) (classesOf l).length (some i) := by
        rw [way_more hu hz hn _ (fun k hk => by cases hk; exact ⟨c, hc⟩), List.length_append, List.length_singleton]
        obtain ⟨n, en⟩ : ∃ n, (classesOf l).length = n + 1 := ⟨(classesOf l).length - 1, by omega⟩
        have hcl := he c (List.mem_of_getElem? hc)
        rw [en] at hcl ⊢
        have haa : aboveOf (classesOf l) i = numF (classesOf l) c.under := by unfold aboveOf; rw [hc]; rfl
        rw [wayUp, wayUp, haa, way_long hcl (n + 1) (by omega)]
      unfold fieldsAll at h0 ⊢
      rw [hew]
      rw [hsame i c hc]
      exact h0
    · have := (List.getElem?_eq_some_iff.1 hc).1
      simp only [List.length_append, List.length_singleton] at this
      obtain rfl : i = (classesOf l).length := by omega
      rw [List.getElem?_append_right (Nat.le_refl _), Nat.sub_self] at hc
      cases hc
      constructor
      · have hw : wayUp (classesOf l ++ [zc]) (classesOf l ++ [zc]).length (some (classesOf l).length) = (classesOf l).length :: wayUp (classesOf l ++ [zc]) (classesOf l).length (aboveOf (classesOf l ++ [zc]) (classesOf l).length) := by
          rw [List.length_append, List.length_singleton, wayUp]
        have hab : aboveOf (classesOf l ++ [zc]) (classesOf l).length = numF (classesOf l) noName := by
          unfold aboveOf
          rw [List.getElem?_append_right (Nat.le_refl _), Nat.sub_self]
          show numF (classesOf l ++ [zc]) zc.under = _
          rw [ku, num_more (fun e => hn e.symm)]
        have hown : ((classesOf l ++ [zc])[(classesOf l).length]?).elim [] fieldsIn = [] := by
          rw [List.getElem?_append_right (Nat.le_refl _), Nat.sub_self]
          simp [fieldsIn, kk, textsOf]
        unfold fieldsAll
        rw [hw, hab]
        cases h1 : numF (classesOf l) noName with
        | none =>
          have : wayUp (classesOf l ++ [zc]) (classesOf l).length none = [] := by cases (classesOf l).length <;> rfl
          rw [this]
          simp only [List.reverse_cons, List.reverse_nil, List.nil_append, List.map_cons, List.map_nil, hown]
          simp
        | some k =>
          obtain ⟨c, hk, _⟩ := numF_some h1
          have h0 := (ht k c hk).1
          rw [way_more hu hz hn _ (fun j hj => by cases hj; exact ⟨c, hk⟩)]
          unfold fieldsAll at h0
          rw [List.reverse_cons, List.map_append, List.flatten_append, hsame k c hk]
          simp only [List.map_cons, List.map_nil, hown]
          simpa using h0
      · simp [methodsIn, kk, textsOf]
  · have hall : allP (nodeP (tabOf (l ++ [zf] ++ [zc])) (f + 1) none false) [[]] (l ++ [zf] ++ [zc]) = allP (nodeP (tabOf (l ++ [zf] ++ [zc])) (f + 1) none false) [[]] (l ++ ([zf] ++ [zc])) := by rw [List.append_assoc]
    rw [hall, all_app]
    cases h1 : allP (nodeP (tabOf l) (f + 1) none false) [[]] l with
    | none => rw [h1] at ha; cases ha
    | some env =>
      rw [all_more (fun env t r h => node_more (T := tabOf l) (T' := tabOf (l ++ [zf] ++ [zc])) hu he hz hn ec ef (f + 1) none none false env t r (fun i hi => by cases hi) (Or.inl rfl) h) l _ env h1]
      show (allP _ env [zf, zc]).isSome = true
      have i5 : ∀ T cls fn env, itselfP T cls fn env zf = true := fun T cls fn env => by unfold itselfP; simp [k5]
      have i2 : ∀ T cls fn env, itselfP T cls fn env zc = true := fun T cls fn env => by unfold itselfP; simp [k2]
      have n5 : nodeP (tabOf (l ++ [zf] ++ [zc])) (f + 1) none false env zf = some env := by
        rw [nodeP, i5]
        simp [k5, bodyOk, kf, kp, kb, addAllP, allP]
      have n2 : nodeP (tabOf (l ++ [zf] ++ [zc])) (f + 1) none false env zc = some env := by
        rw [nodeP, i2]
        simp [k2, kk, allP]
      rw [allP, n5]
      simp only
      rw [allP, n2]
      rfl
  · rw [ef]
    unfold firstOf at hzf ⊢
    rw [List.findIdx?_append, hzf]
    simp
  · rw [ec]
    unfold firstOf at hzc ⊢
    rw [List.findIdx?_append, hzc]
    simp
end Go.Proofs.YtjcoobkpmpjpbaaGreatDoor

namespace Go.Proofs.YtjcoobkpmpjpbaaGreatDoor
open Go.RowKit

/-- No text. -/
def noText : ByteArray := ⟨#[]⟩
/-- A node without kids that was made when the heap was so great. -/
def vNew (lo k : Nat) (tx un : ByteArray) (n : Int) (ln : Nat) (v : Value) (w' : World) : Prop := v = .pointer (some ⟨lo, 0, none⟩) ∧ Und (fun j => lo ≤ j) w' lo k tx un n ln [] (.slice none 0 0) []
/-- A tree made since the heap was so great. -/
def vNode (lo : Nat) (t : Tree) (v : Value) (w' : World) : Prop := NodeAt (fun j => lo ≤ j) w' v t

set_option maxHeartbeats 1000000 in
theorem start_any {w : World} {r : Nat} {S : LS} (cx : Cx w r S) (k : Nat) :
    Calls Tryz.prog 34 #[.pointer (some ⟨r, 0, none⟩), .int .i64 k] w fun e w' => e = .returned (.pointer (some ⟨w.heap.size, 0, none⟩)) ∧ w' = w.alloc (.cells (ncells k noText noText 0 S.tl (.slice none 0 0)) 42) := by
  have c5 := cx.rd.c5
  clear cx
  go_enter Tryz.func34, Tryz.ntmps34
  go_wp2
  go_ret
  exact ⟨rfl, rfl⟩

theorem start_calls {w : World} {r : Nat} {S : LS} (cx : Cx w r S) (k : Nat) :
    Calls Tryz.prog 34 #[.pointer (some ⟨r, 0, none⟩), .int .i64 k] w fun e w' => ∃ v, e = .returned v ∧ vNew w.heap.size k noText noText 0 S.tl v w' ∧ Cx w' r S ∧ Ext r w w' := by
  refine (start_any cx k).mono ?_
  rintro e w' ⟨rfl, rfl⟩
  exact ⟨_, rfl, ⟨rfl, Und.fresh (Nat.le_refl _) _ _ _ _ _ _⟩, cx.alloc _, (Ext.refl r w).alloc _⟩

set_option maxRecDepth 100000 in
set_option maxHeartbeats 1000000 in
theorem taken_any {w : World} {r : Nat} {S : LS} (cx : Cx w r S) (k : Nat) :
    Calls Tryz.prog 50 #[.pointer (some ⟨r, 0, none⟩), .int .i64 k] w fun e w' => Ret (takeP S) r (fun _ => vNew w.heap.size k noText noText 0 S.tl) e w' ∧ Ext r w w' := by
  have hrw := cx.rd.lt
  go_enter Tryz.func50, Tryz.ntmps50
  go_wp2_with fail
  refine (start_calls cx k).mono ?_
  rintro e w1 ⟨v, rfl, ⟨rfl, hu⟩, cx1, hx1⟩
  clear cx
  go_wp2_with fail
  refine Ret.call (take_any cx1) ?_ ?_
  · intro f w2 hf hx
    exact ⟨rfl, Ret.inl hf, hx1.trans hx⟩
  · intro a S1 v w2 hf hv cx2 hx
    obtain rfl : v = S.tok := hv
    have HF := hide hf
    clear hf
    go_wp2_with fail
    go_ret
    exact ⟨Ret.inr (unhide HF) ⟨rfl, hu.ext hx fun j hj => by omega⟩ cx2, hx1.trans hx⟩
end Go.Proofs.YtjcoobkpmpjpbaaGreatDoor

namespace Go.Proofs.YtjcoobkpmpjpbaaGreatDoor
open Go.RowKit

theorem Ret.callX {α : Type} {P : Program} {F : FuncId} {args : Array Value} {w : World} {t : Res α} {r : Nat} {V : α → Value → World → Prop} {X : World → Prop} {R : Ending → World → Prop}
    (hc : Calls P F args w fun e w' => Ret t r V e w' ∧ X w')
    (hp : ∀ f w', t = .inl f → X w' → R (.panicked (thrown f.1 f.2)) w')
    (hk : ∀ a S v w', t = .inr (a, S) → V a v w' → Cx w' r S → X w' → R (.returned v) w') : Calls P F args w R :=
  hc.mono fun e w' ⟨h, hx⟩ => by
    cases ht : t with
    | inl f =>
      rw [ht] at h
      obtain rfl : e = .panicked (thrown f.1 f.2) := h
      exact hp f w' ht hx
    | inr x =>
      rw [ht] at h
      obtain ⟨v, rfl, hv, hcx⟩ := h
      exact hk x.1 x.2 v w' ht hv hcx hx

/-- A call of a Go function as one step of a region that draws its order. -/
theorem step_call {P : Program} {ops : Array Oper} {o : Oper} {a : Act} {w : World} {K : Act → World → Prop} {Q : Exit → Act → World → Prop} {E : Prop} (hgd : o.guard = none) {F : FuncId} {args : Array Value}
    (hrun : (execOp a.eval o).run P w = .ok (.enter F args) w)
    (hc : Calls P F args w fun
      | .returned v, w'' => K (a.put o.dst v) w''
      | .panicked chain, w'' => Q (.panic chain) a w''
      | .outgrown, _ => LetsOut Q) : if Region.wanted o (yielded ops a.tmps) = true then Oper.wp P o a w K Q else E := by
  have hw : Region.wanted o (yielded ops a.tmps) = true := by simp [Region.wanted, hgd]
  rw [if_pos hw]
  unfold Oper.wp
  rw [hrun]
  exact hc

theorem vNode_ptr {lo : Nat} {t : Tree} {v : Value} {w : World} (h : vNode lo t v w) : ∃ kb, v = .pointer (some ⟨kb, 0, none⟩) := by
  unfold vNode at h
  rw [NodeAt_iff] at h
  obtain ⟨b, _, _, _, h1, _⟩ := h
  exact ⟨b, h1⟩

theorem infoNode : (Tryz.prog.info? 22).map (fun i => (i.zero, i.size, i.bytes)) = some (some (.pointer none), 1, 8) := by kernel_rfl

theorem Row.owns {A : Nat → Prop} {w : World} {ks : Value} {vs : List Value} (h : Row A w ks vs) : w.ownsRow 0 22 1 ks vs.length vs := by
  refine ⟨by simp, ?_⟩
  rcases h with ⟨rfl, rfl⟩ | ⟨g, cap, cur, h1, _, h3, h4, h5, h6, h7⟩
  · exact Or.inl ⟨rfl, rfl⟩
  · exact Or.inr ⟨g, cap, cur, h1, Nat.zero_le _, h3, h4, h5, by omega, by simpa using h7⟩
theorem Row.of_owns {A : Nat → Prop} {w : World} {g cap : Nat} {vs : List Value} (h : w.ownsRow 0 22 1 (.slice (some ⟨g, 0, none⟩) vs.length cap) vs.length vs) (hA : A g) : Row A w (.slice (some ⟨g, 0, none⟩) vs.length cap) vs := by
  rcases h.2 with ⟨h, _⟩ | ⟨g', cap', cur, h1, _, h3, h4, h5, h6, h7⟩
  · cases h
  · cases h1
    exact Or.inr ⟨g, cap, cur, rfl, hA, h3, h4, h5, by omega, by simpa using h7⟩

/-- The blocks of a tree are there. -/
theorem NodeAt.lt {A : Nat → Prop} {w : World} : ∀ (t : Tree) (v : Value), NodeAt A w v t → NodeAt (fun j => A j ∧ j < w.heap.size) w v t := by
  refine tree_ind _ fun t ih v h => ?_
  rw [NodeAt_iff] at h ⊢
  obtain ⟨b, ty, ks, vs, h1, h2, h3, h4, h5, h6⟩ := h
  refine ⟨b, ty, ks, vs, h1, ⟨h2, (Array.getElem?_eq_some_iff.1 h3).1⟩, h3, ?_, h5, fun i hi => ih _ (List.getElem_mem hi) _ (h6 i hi)⟩
  rcases h4 with h4 | ⟨g, cap, cur, q1, q2, q3, q4⟩
  · exact Or.inl h4
  · exact Or.inr ⟨g, cap, cur, q1, ⟨q2, (Array.getElem?_eq_some_iff.1 q3).1⟩, q3, q4⟩

/-- A KID MORE: the row has grown by the law of append, and the node leads to it. -/
theorem Und.more {lo : Nat} {w w1 : World} {b k : Nat} {tx un : ByteArray} {n : Int} {ln : Nat} {ts : List Tree} {ks : Value} {vs : List Value} (h : Und (fun j => lo ≤ j) w b k tx un n ln ts ks vs)
    {x : Value} {t : Tree} (hx : NodeAt (fun j => lo ≤ j ∧ j ≠ b ∧ some j ≠ ks.ownBlock) w x t) {g cap : Nat} (hown : w1.ownsRow 0 22 1 (.slice (some ⟨g, 0, none⟩) (vs.length + 1) cap) (vs.length + 1) (vs ++ [x]))
    (hg : w.grownBy w1 ks.ownBlock) (hat : ks.ownBlock = some g ∨ g = w.heap.size) (hlo : lo ≤ w.heap.size) :
    Und (fun j => lo ≤ j) (w1.setCell ⟨b, 5, none⟩ (.slice (some ⟨g, 0, none⟩) (vs.length + 1) cap)) b k tx un n ln (ts ++ [t]) (.slice (some ⟨g, 0, none⟩) (vs.length + 1) cap) (vs ++ [x]) := by
  obtain ⟨t0, hb⟩ := h.cells
  have hbl := (Array.getElem?_eq_some_iff.1 hb).1
  have hbk : some b ≠ ks.ownBlock := by
    rcases h.row with ⟨rfl, _⟩ | ⟨g', cap', cur, rfl, hg', _⟩
    · simp [Value.ownBlock]
    · intro e
      simp only [Value.ownBlock, Option.some.injEq] at e
      exact hg'.2 e.symm
  have hgb : g ≠ b := by
    rcases hat with e | e
    · intro e'; rw [e'] at e; exact hbk e.symm
    · omega
  have hglo : lo ≤ g := by
    rcases hat with e | e
    · rcases h.row with ⟨rfl, _⟩ | ⟨g', cap', cur, rfl, hg', _⟩
      · simp [Value.ownBlock] at e
      · simp only [Value.ownBlock, Option.some.injEq] at e
        rw [← e]; exact hg'.1
    · omega
  have hb1 : w1.heap[b]? = some (.cells (ncells k tx un n ln ks) t0 (0, 0)) := (hg.block b hbl hbk).trans hb
  have keepK : ∀ (v : Value) (u : Tree), NodeAt (fun j => lo ≤ j ∧ j ≠ b ∧ some j ≠ ks.ownBlock) w v u → NodeAt (fun j => lo ≤ j ∧ j ≠ b ∧ some j ≠ some g) (w1.setCell ⟨b, 5, none⟩ (.slice (some ⟨g, 0, none⟩) (vs.length + 1) cap)) v u := fun v u hu =>
    (hu.lt u v).keep (fun j hj => ⟨hj.1.1, hj.1.2.1, fun e => by
      have e' : j = g := by simpa using e
      rcases hat with q | q
      · exact hj.1.2.2 (by rw [q, e'])
      · have := hj.2; omega⟩) (fun j hj hl => (hother _ hj.1.2.1).trans (hg.block j hl hj.1.2.2)) u v
  have hlen := h.len
  refine ⟨h.at', ⟨t0, by rw [hset hb1]; rfl⟩, ?_, by simp [h.len], ?_⟩
  · have hrow : Row (fun j => lo ≤ j ∧ j ≠ b) w1 (.slice (some ⟨g, 0, none⟩) (vs ++ [x]).length cap) (vs ++ [x]) := Row.of_owns (by simpa using hown) ⟨hglo, hgb⟩
    have := hrow.keep (A' := fun j => lo ≤ j ∧ j ≠ b) (w' := w1.setCell ⟨b, 5, none⟩ (.slice (some ⟨g, 0, none⟩) (vs.length + 1) cap)) (fun _ h => h) (fun j hj _ => hother _ hj.2)
    simpa using this
  · intro i hi
    by_cases hi' : i < ts.length
    · have := keepK _ _ (h.kids i hi')
      have e1 : (vs ++ [x]).getD i undef = vs.getD i undef := by simp [List.getD, List.getElem?_append_left (show i < vs.length by omega)]
      rw [e1, List.getElem_append_left hi']
      exact this
    · have hi2 : i = ts.length := by simp at hi; omega
      subst hi2
      have := keepK _ _ hx
      have e1 : (vs ++ [x]).getD ts.length undef = x := by simp [List.getD, ← hlen]
      have e2 : (ts ++ [t])[ts.length]'hi = t := by simp
      rw [e1, e2]
      exact this

/-- Behind the call that reads a kid: the node stands as it did. -/
theorem kid_call {lo : Nat} {w w2 : World} {r b k : Nat} {tx un : ByteArray} {n : Int} {ln : Nat} {ts : List Tree} {ks : Value} {vs : List Value} (hu : Und (fun j => lo ≤ j) w b k tx un n ln ts ks vs) (hx : Ext r w w2) (hr : r < lo) :
    w2.cell? ⟨b, 5, none⟩ = some ks ∧ (∀ o, (w2.alloc o).cell? ⟨b, 5, none⟩ = some ks) ∧ Hid (w2.ownsRow 0 22 1 ks vs.length vs) ∧ Hid (Und (fun j => lo ≤ j) w2 b k tx un n ln ts ks vs) := by
  have hu2 := hu.ext hx fun j hj => by omega
  obtain ⟨t, hb⟩ := hu2.cells
  exact ⟨hcell hb 5, fun o => hcell ((hold _ _ (Array.getElem?_eq_some_iff.1 hb).1).trans hb) 5, hu2.row.owns, hu2⟩

/-- Behind the append, and behind the store: the node has one kid more. -/
theorem kid_more {lo : Nat} {w0 w w2 w3 : World} {r b k : Nat} {S : LS} {tx un : ByteArray} {n : Int} {ln : Nat} {ts : List Tree} {ks : Value} {vs : List Value} (hlo0 : lo = w0.heap.size) (hu : Und (fun j => lo ≤ j) w b k tx un n ln ts ks vs) (hu2 : Und (fun j => lo ≤ j) w2 b k tx un n ln ts ks vs)
    (hr : r + 18 < lo) (cx : Cx w2 r S) (hx0 : Ext r w0 w2) {x : Value} {t : Tree} (hv : vNode w.heap.size t x w2) (o : Obj) {g cap : Nat}
    (hown : w3.ownsRow 0 22 1 (.slice (some ⟨g, 0, none⟩) (vs.length + 1) cap) (vs.length + 1) (vs ++ [x]))
    (hg : (w2.alloc o).grownBy w3 ks.ownBlock) (hat : ks.ownBlock = some g ∨ g = w2.heap.size + 1) :
    w3.cell? ⟨b, 5, none⟩ = some ks ∧ w3.frozen? ⟨b, 5, none⟩ = false ∧
    Hid (Und (fun j => lo ≤ j) (w3.setCell ⟨b, 5, none⟩ (.slice (some ⟨g, 0, none⟩) (vs.length + 1) cap)) b k tx un n ln (ts ++ [t]) (.slice (some ⟨g, 0, none⟩) (vs.length + 1) cap) (vs ++ [x])) ∧
    Hid (Ext r w0 (w3.setCell ⟨b, 5, none⟩ (.slice (some ⟨g, 0, none⟩) (vs.length + 1) cap))) ∧ Hid (Cx (w3.setCell ⟨b, 5, none⟩ (.slice (some ⟨g, 0, none⟩) (vs.length + 1) cap)) r S) := by
  obtain ⟨t0, hb⟩ := hu.cells
  obtain ⟨t2, hb2⟩ := hu2.cells
  have hbw := (Array.getElem?_eq_some_iff.1 hb).1
  have hb2w := (Array.getElem?_eq_some_iff.1 hb2).1
  have hblo : lo ≤ b := hu.at'
  have hkw : ∀ j, ks.ownBlock = some j → j < w.heap.size ∧ lo ≤ j ∧ j ≠ b := by
    intro j hj
    rcases hu.row with ⟨rfl, _⟩ | ⟨g', cap', cur, rfl, hg', h3, _⟩
    · simp [Value.ownBlock] at hj
    · simp only [Value.ownBlock, Option.some.injEq] at hj
      subst hj
      exact ⟨(Array.getElem?_eq_some_iff.1 h3).1, hg'.1, hg'.2⟩
  have hbk : some b ≠ ks.ownBlock := fun e => (hkw b e.symm).2.2 rfl
  have hsz : lo ≤ w2.heap.size := by rw [hlo0]; exact hx0.size
  have hrk : some r ≠ ks.ownBlock := fun e => by have := (hkw r e.symm).2.1; omega
  have hb3 : w3.heap[b]? = some (.cells (ncells k tx un n ln ks) t2 (0, 0)) := by
    rw [hg.block b (by simp; omega) hbk, hold _ _ hb2w]
    exact hb2
  have hrx : r < w2.heap.size := cx.rd.lt
  have hxa : Ext r w0 (w2.alloc o) := hx0.alloc o
  have hx3 : Ext r w0 w3 := ext_grown hxa hg fun j hj => by have := (hkw j hj).2.1; omega
  have hx3' : Ext r w0 (w3.setCell ⟨b, 5, none⟩ (.slice (some ⟨g, 0, none⟩) (vs.length + 1) cap)) := hx3.setNew ⟨b, 5, none⟩ (by show w0.heap.size ≤ b; omega) _
  have hcx3 : Cx w3 r S := by
    have ca := cx.alloc o
    have far := cx.tabs.far
    have hjc := ca.jc.keep (w' := w3) fun j _ h2 h3 => hg.block j h3 fun e => by have := (hkw j e.symm).2.1; omega
    have hjn := ca.jn
    have ht := ca.tabs.keep (w' := w3) fun j h1 h2 => hg.block j h2 fun e => by have := (hkw j e.symm).2.1; omega
    obtain ⟨⟨t, hr1⟩, ok, _, _, _⟩ := ca
    exact ⟨⟨t, (hg.block r (by simp; omega) hrk).trans hr1⟩, ok, ht, hjc, hjn⟩
  refine ⟨hcell hb3 5, hfroz hb3 5, ?_, hx3', hcx3.setCell (by omega) _ _⟩
  have hua : Und (fun j => lo ≤ j) (w2.alloc o) b k tx un n ln ts ks vs := hu2.ext (r := r) ((Ext.refl r w2).alloc o) fun j hj => by omega
  have hva : NodeAt (fun j => lo ≤ j ∧ j ≠ b ∧ some j ≠ ks.ownBlock) (w2.alloc o) x t := by
    refine NodeAt.keep (fun j hj => ⟨by omega, by omega, fun e => ?_⟩) (fun j hj hl => hold _ _ hl) t x hv
    have := (hkw j e.symm).1
    omega
  exact Und.more hua hva hown hg (by simpa using hat) (by simp; omega)
end Go.Proofs.YtjcoobkpmpjpbaaGreatDoor
