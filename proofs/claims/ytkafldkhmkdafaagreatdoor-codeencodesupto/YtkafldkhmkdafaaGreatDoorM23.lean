/-
  Lists of functions are read.
  A class's names and methods are read: one of them.
  A class's names and methods are read: all of them.
-/
import Derived.Test.YtkafldkhmkdafaaGreatDoorM22
namespace Go.Proofs.YtkafldkhmkdafaaGreatDoor
open Go.RowKit
attribute [local go_sem ↓] Go.wp_at_zero Go.wp_at_succ

/-- So many things were read, and lie in a row; once something is wrong, nothing is known of them. -/
structure LInvN {X : Type} (ok : X → Prop) (enc : X → List Int) (El : World → Value → List Value → List X → Prop) (E : TypeId) (K r : Nat) (l l1 : List Int) (wb1 : Bool) (w : World) (xs : List X) (v : Value) (cells : List Value) (l2 : List Int) (wb2 : Bool) (wr : World) : Prop where
  rd : RdAt wr r l2 wb2
  ext : Ext r w wr
  le : l2.length ≤ l.length
  own : wr.ownsRow w.heap.size E K v xs.length cells
  el : wb2 = false → El wr v cells xs
  oks : wb2 = false → ∀ x ∈ xs, ok x
  eq : wb2 = false → wb1 = false ∧ l1 = xs.flatMap enc ++ l2
  cpl : wb1 = false → ∀ (ys : List X) (l0 : List Int), (∀ y ∈ ys, ok y) → xs.length ≤ ys.length → l1 = ys.flatMap enc ++ l0 → wb2 = false ∧ l2 = (ys.drop xs.length).flatMap enc ++ l0
theorem LInvN.start {X : Type} {ok : X → Prop} {enc : X → List Int} {El : World → Value → List Value → List X → Prop} {E : TypeId} {K r : Nat} {l l1 : List Int} {wb1 : Bool} {w w1 : World} (h1 : RdAt w1 r l1 wb1) (he : Ext r w w1) (hl : l1.length ≤ l.length) (h0 : El w1 (.slice none 0 0) [] []) :
    LInvN ok enc El E K r l l1 wb1 w [] (.slice none 0 0) [] l1 wb1 w1 :=
  ⟨h1, he, hl, ⟨by simp, Or.inl ⟨rfl, rfl⟩⟩, fun _ => h0, fun _ _ q => (by cases q), (fun q => ⟨q, rfl⟩), fun q ys l0 _ _ e => ⟨q, by rw [e]; simp⟩⟩
theorem LInvN.snoc {X : Type} {ok : X → Prop} {enc : X → List Int} {El : World → Value → List Value → List X → Prop} {E : TypeId} {K r : Nat} {l l1 l2 l3 : List Int} {wb1 wb3 : Bool} {w wr w3 w5 : World} {xs : List X} {v : Value} {cells news : List Value} {x : X}
    (h : LInvN ok enc El E K r l l1 wb1 w xs v cells l2 false wr) (hr : r < w.heap.size) (hok : wb3 = false → ok x) (h3 : RdAt w3 r l3 wb3) (he : Ext r wr w3) (hl : l3.length ≤ l2.length) (hw : wb3 = false → l2 = enc x ++ l3) (pf : Sure ok enc) (hc : ∀ (y : X) (l0 : List Int), ok y → l2 = enc y ++ l0 → wb3 = false) {o : Obj} {g cap : Nat}
    (hown : w5.ownsRow w.heap.size E K (.slice (some ⟨g, 0, none⟩) (xs.length + 1) cap) (xs.length + 1) (cells ++ news)) (hg : (w3.alloc o).grownBy w5 v.ownBlock) (hel : wb3 = false → El w5 (.slice (some ⟨g, 0, none⟩) (xs.length + 1) cap) (cells ++ news) (xs ++ [x])) :
    LInvN ok enc El E K r l l1 wb1 w (xs ++ [x]) (.slice (some ⟨g, 0, none⟩) (xs.length + 1) cap) (cells ++ news) l3 wb3 w5 := by
  have hne := owns_ne h.own
  have hx3 : Ext r w (w3.alloc o) := (h.ext.trans he).alloc o
  refine ⟨?_, hx3.grown hg fun k hk => (hne k hk).1, Nat.le_trans hl h.le, by simpa using hown, hel, fun q y hy => ?_, fun q => ?_, fun q ys l0 hy hle e => ?_⟩
  · have := h3.lt
    refine (h3.keep ((Below.refl _ _).alloc (Nat.le_refl _) o)).far fun k hk => hg.block k (by simp; omega) fun q => ?_
    have := (hne k q.symm).1
    omega
  · rcases List.mem_append.1 hy with q' | q'
    · exact h.oks rfl y q'
    · obtain rfl := List.mem_singleton.1 q'
      exact hok q
  · obtain ⟨q3, q4⟩ := h.eq rfl
    exact ⟨q3, by rw [q4, hw q]; simp⟩
  · rw [List.length_append, List.length_singleton] at hle
    obtain ⟨_, q2⟩ := h.cpl q ys l0 hy (by omega) e
    have hlt : xs.length < ys.length := by omega
    rw [List.drop_eq_getElem_cons hlt, List.flatMap_cons, List.append_assoc] at q2
    have q3 := hc _ _ (hy _ (List.getElem_mem hlt)) q2
    have q5 := (pf _ _ _ _ (hok q3) (hy _ (List.getElem_mem hlt)) ((hw q3).symm.trans q2)).2
    exact ⟨q3, by rw [q5]; simp⟩
theorem LInvN.done {X : Type} {ok : X → Prop} {enc : X → List Int} {El : World → Value → List Value → List X → Prop} {E : TypeId} {K r : Nat} {l l1 l2 : List Int} {wb wb1 wb2 : Bool} {w wr : World} {xs : List X} {v : Value} {cells : List Value} {n : Nat}
    (h : LInvN ok enc El E K r l l1 wb1 w xs v cells l2 wb2 wr) (hn : xs.length = n) (hm : n ≤ 110000) (hw : TelN wb wb1 l n l1) (hpos : ∀ y, 0 < (enc y).length) : ListPost ok enc El E K r l wb w (.returned v) wr := by
  obtain ⟨g, cap, rfl⟩ := owns_form h.own
  refine ⟨g, _, cap, l2, wb2, rfl, h.rd, h.ext, h.le, fun q => ?_, fun q ys l0 hy e => ?_⟩
  · obtain ⟨q1, q2⟩ := h.eq q
    obtain ⟨q3, q4⟩ := hw.snd q1
    exact ⟨q3, xs, cells, h.oks q, h.own, h.el q, by omega, by rw [q4, q2, encL, hn]; simp⟩
  · unfold encL at e
    rw [List.append_assoc] at e
    obtain ⟨q1, q2, q3⟩ := hw.same q (by have := flat_many (ok := ok) hpos ys; rw [List.length_append]; omega) e
    exact (h.cpl q1 ys l0 hy (by omega) q3).1
theorem LInvN.wrong {X : Type} {ok : X → Prop} {enc : X → List Int} {El : World → Value → List Value → List X → Prop} {E : TypeId} {K r : Nat} {l l1 l2 : List Int} {wb wb1 : Bool} {w wr : World} {xs : List X} {v : Value} {cells : List Value}
    {n : Nat} (h : LInvN ok enc El E K r l l1 wb1 w xs v cells l2 true wr) (hn : xs.length ≤ n) (hw : TelN wb wb1 l n l1) (hpos : ∀ y, 0 < (enc y).length) : ListPost ok enc El E K r l wb w (.returned (.slice none 0 0)) wr :=
  ⟨none, 0, 0, l2, true, rfl, h.rd, h.ext, h.le, (fun q => by cases q), fun q ys l0 hy e => by
    unfold encL at e
    rw [List.append_assoc] at e
    obtain ⟨q1, q2, q3⟩ := hw.same q (by have := flat_many (ok := ok) hpos ys; rw [List.length_append]; omega) e
    exact (h.cpl q1 ys l0 hy (by omega) q3).1⟩

def noB (B : Nat) (v : Value) (j : Nat) : Prop := j < B ∨ v.ownBlock = some j
def ElFn (B : Nat) (w : World) (v : Value) (cells : List Value) (xs : List PF) : Prop := ∃ R, Flat cells xs.length 6 R ∧ ∀ i f, xs[i]? = some f → FnOwn w (noB B v) (R i) f
theorem ElFn.snoc {r B : Nat} {wr w3 w5 : World} {v : Value} {cells : List Value} {xs : List PF} {a b c : Value} {f : PF} {g n cap : Nat} {o : Obj} (h : ElFn B wr v cells xs) (hlen : cells.length = xs.length * 6) (he : Ext r wr w3) (hr : r < B) (hB : B ≤ wr.heap.size) (hv : ∀ j, v.ownBlock = some j → j < wr.heap.size) (hf : FnNew wr.heap.size w3 a b c f)
    (hg : (w3.alloc o).grownBy w5 v.ownBlock) (hat : v.ownBlock = some g ∨ g = w3.heap.size + 1) :
    ElFn B w5 (.slice (some ⟨g, 0, none⟩) n cap) (cells ++ [.string f.name, .int .i64 f.params, .int .i64 f.slots, a, b, c]) (xs ++ [f]) := by
  obtain ⟨R, h1, h2⟩ := h
  have hs3 : w3.heap.size ≤ w5.heap.size := Nat.le_trans (by simp) hg.size
  have key : ∀ {w : World} {C f}, (∀ j, j < w.heap.size → ¬ noB B v j → w3.heap[j]? = w.heap[j]?) → w.heap.size ≤ w3.heap.size → FnOwn w (noB B v) C f → FnOwn w5 (noB B (.slice (some ⟨g, 0, none⟩) n cap)) C f := fun hb hs q =>
    q.move (Nat.le_trans hs hs3) (fun j hj hn => ((hg.block j (by simp; omega) fun e => hn (Or.inr e.symm)).trans (Below.heap_alloc _ _ _ (by omega))).trans (hb j hj hn)) (fun j hj q => by
      rcases q with q | q
      · exact Or.inl q
      · simp only [Value.ownBlock, Option.some.injEq] at q
        rcases hat with e | e
        · exact Or.inr (by rw [e, q])
        · omega)
  refine ⟨fun i => if i = xs.length then fnRow f a b c else R i, ?_, fun i f' hi => ?_⟩
  · rw [List.length_append]
    refine (h1.turn fun i hi => ?_).snoc hlen fun j hj => ?_
    · rw [if_neg (by omega)]
    · rw [if_pos rfl]
      match j, hj with
      | 0, _ => rfl
      | 1, _ => rfl
      | 2, _ => rfl
      | 3, _ => rfl
      | 4, _ => rfl
      | 5, _ => rfl
  · by_cases e : i = xs.length
    · subst e
      rw [new_get] at hi
      cases hi
      simp only [if_pos]
      exact key (fun _ _ _ => rfl) (Nat.le_refl _) (FnOwn.of hf.1 hf.2.1 hf.2.2 fun j hj => by
        rcases hj with q | q
        · omega
        · exact hv j q)
    · simp only [if_neg e]
      have hi2 : i < xs.length := by
        have := (List.getElem?_eq_some_iff.1 hi).1
        simp at this
        omega
      rw [old_get hi2] at hi
      exact key (fun j hj hn => he.block j hj fun q => hn (Or.inl (by omega))) he.size (h2 i f' hi)

theorem encF_pos (f : PF) : 0 < (encF f).length := by
  have := encT_pos f.name
  unfold encF
  rw [List.length_append]
  omega
theorem encF_pf : Sure okF encF := fun x y l l' hx hy e => by
  simp only [encF, List.append_assoc] at e
  obtain ⟨a1, e⟩ := encT_pf (ok := fun _ => True) _ _ _ _ trivial trivial e
  obtain ⟨a2, e⟩ := encN_pf (ok := fun _ => True) _ _ _ _ trivial trivial e
  obtain ⟨a3, e⟩ := encN_pf (ok := fun _ => True) _ _ _ _ trivial trivial e
  obtain ⟨a4, e⟩ := encL_pf encI_pf _ _ _ _ hx.2.2.1 hy.2.2.1 e
  obtain ⟨a5, e⟩ := encL_pf encH_pf _ _ _ _ hx.2.2.2.1 hy.2.2.2.1 e
  obtain ⟨a6, e⟩ := encL_pf encV_pf _ _ _ _ hx.2.2.2.2 hy.2.2.2.2 e
  refine ⟨?_, e⟩
  cases x
  cases y
  simp_all
theorem infoCF : (Tryz.prog.info? 54).map (fun i => (i.zero, i.size, i.bytes)) = some (some (.agg #[.string ByteArray.empty, .int .i64 0, .int .i64 0, .slice none 0 0, .slice none 0 0, .slice none 0 0]), 6, 104) := by kernel_rfl

set_option maxRecDepth 100000 in
set_option maxHeartbeats 4000000 in
theorem listF {w : World} {r : Nat} {l : List Int} {wb : Bool} (h : RdAt w r l wb) :
    Calls Tryz.prog 46 #[.pointer (some ⟨r, 0, none⟩), .func (.func 47) #[.pointer (some ⟨r, 0, none⟩)] #[]] w fun e w' => ListPost okF encF (ElFn w.heap.size) 54 6 r l wb w e w' := by
  have hrl := h.lt
  have HRL := hide hrl
  have H := hide h
  obtain ⟨i0, hi, hz0, hz1, hz2⟩ := info_parts infoCF
  clear h
  go_enter Tryz.func46, Tryz.ntmps46
  go_wp2_with fail
  refine (many_any (unhide H)).mono ?_
  rintro e w1 ⟨n, l1, wb1, rfl, hn, hr1, he1, hl1, hw1⟩
  have HM0 := hide (show LInvN okF encF (ElFn w.heap.size) 54 6 r l l1 wb1 w [] (.slice none 0 0) [] l1 wb1 w1 from LInvN.start hr1 he1 hl1 ⟨fun _ _ => undef, Flat.nil _ _, fun _ _ q => by cases q⟩)
  have hn2 : n ≤ 110000 := Nat.le_trans hn hr1.len
  have HW := hide hw1
  clear hr1 he1 hl1 hw1 hn
  go_wp2_with fail
  go_loopg [5, 8] n (fun gg v i wr => ∃ (k : Nat) (V : Value), k ≤ n ∧ gg = n - k ∧ i = .int .i64 k ∧ v = V ∧ Hid (∃ xs cells l2 wb2, xs.length = k ∧ LInvN okF encF (ElFn w.heap.size) 54 6 r l l1 wb1 w xs V cells l2 wb2 wr))
  case atStart => exact ⟨0, .slice none 0 0, Nat.zero_le _, rfl, rfl, rfl, [], [], l1, wb1, rfl, unhide HM0⟩
  case round =>
    obtain ⟨k, v, hk, rfl, rfl, rfl, HY⟩ := hrel
    obtain ⟨xs, cells, l2, wb2, rfl, hm⟩ := unhide HY
    have HM := hide hm
    have HR2 := hide hm.rd
    obtain ⟨g2, cap2, t2, hbk, _⟩ := hm.rd.blk
    have c1 : wr.cell? ⟨r, 1, none⟩ = some (.bool wb2) := hcell hbk 1
    clear hbk hm HY
    by_cases hlk : xs.length < n
    · have hk2 : (xs.length : Int) < (n : Int) := by omega
      cases wb2 with
      | true =>
        go_wp2_with fail
        go_ret
        exact (unhide HM).wrong (Nat.le_of_lt hlk) (unhide HW) encF_pos
      | false =>
        go_wp2_with fail
        refine (function_any (unhide HR2)).mono ?_
        rintro e w3 ⟨s, n1, n2, ga, na, ca, gh, nh, ch, gv, nv, cv, l3, wb3, rfl, hr3, he3, hl3, hw3⟩
        have HO := hide (owns_alloc (owns_ext (unhide HM).own he3 (unhide HRL)) (.cells #[.string s, .int .i64 n1, .int .i64 n2, .slice ga na ca, .slice gh nh ch, .slice gv nv cv] 54))
        have HR3 := hide hr3
        have HE3 := hide he3
        have HL3 := hide hl3
        have HW3 := hide (show wb3 = false → ∃ ys zs us, okF ⟨s, n1, n2, ys, zs, us⟩ ∧ FnNew wr.heap.size w3 (.slice ga na ca) (.slice gh nh ch) (.slice gv nv cv) ⟨s, n1, n2, ys, zs, us⟩ ∧ l2 = encF ⟨s, n1, n2, ys, zs, us⟩ ++ l3 from fun q => (hw3.snd q).2)
        have HC3 := hide (hw3.cpl rfl)
        have hs3 : w.heap.size ≤ w3.heap.size := Nat.le_trans (unhide HM).ext.size he3.size
        clear hr3 he3 hl3 hw3 c1
        go_wp2_with (at_builtin; refine wpList_append_lies _ rfl _ _ _ rfl w.heap.size 54 i0 (.agg #[.string ByteArray.empty, .int .i64 0, .int .i64 0, .slice none 0 0, .slice none 0 0, .slice none 0 0]) 6 104 Tryz.underlying22 hi hz0 hz1 hz2 rfl (by decide) _ xs.length cells rfl (unhide HO) ⟨w3.heap.size, 0, none⟩ 1 1 [.string s, .int .i64 n1, .int .i64 n2, .slice ga na ca, .slice gh nh ch, .slice gv nv cv] rfl rfl (news_at rfl _ _) ?c2 (by decide) ?c3 ?c4 ?c5 (w3.heap.size + 1) ?c6 ?_)
        case c2 => first | exact ⟨rfl, rfl, rfl, rfl, rfl, rfl⟩ | (intro u hu; simp at hu; rcases hu with rfl | rfl | rfl | rfl | rfl | rfl <;> rfl)
        case c3 => unfold maxLen; omega
        case c4 => omega
        case c5 => first | omega | (simp; omega)
        try case c6 => simp
        intro g cap w5 hown hgrow hat hlt5
        have HM5 : Hid (∃ x, LInvN okF encF (ElFn w.heap.size) 54 6 r l l1 wb1 w (xs ++ [x]) (.slice (some ⟨g, 0, none⟩) (xs.length + 1) cap) (cells ++ [.string s, .int .i64 n1, .int .i64 n2, .slice ga na ca, .slice gh nh ch, .slice gv nv cv]) l3 wb3 w5) := by
          cases wb3 with
          | true => exact ⟨⟨s, n1, n2, [], [], []⟩, (unhide HM).snoc (unhide HRL) (fun q => by cases q) (unhide HR3) (unhide HE3) (unhide HL3) (fun q => by cases q) encF_pf (unhide HC3) hown hgrow (fun q => by cases q)⟩
          | false =>
            obtain ⟨ys, zs, us, q1, q2, q3⟩ := (unhide HW3) rfl
            have hsz := (unhide HM).ext.size
            exact ⟨⟨s, n1, n2, ys, zs, us⟩, (unhide HM).snoc (unhide HRL) (fun _ => q1) (unhide HR3) (unhide HE3) (unhide HL3) (fun _ => q3) encF_pf (unhide HC3) hown hgrow (fun _ => ElFn.snoc ((unhide HM).el rfl) (unhide HM).own.1 (unhide HE3) (unhide HRL) hsz (fun j hj => (owns_ne (unhide HM).own j hj).2) q2 hgrow hat)⟩
        clear hown hgrow hat hlt5
        obtain ⟨x, hm5⟩ := unhide HM5
        have HM6 := hide hm5
        clear hm5 HM5
        go_wp2_with fail
        go_roundg (n - (xs.length + 1))
        case measure => omega
        case rel => exact ⟨xs.length + 1, _, by omega, rfl, by go_num, rfl, _, _, l3, wb3, by simp, unhide HM6⟩
    · have hk2 : ¬ (xs.length : Int) < (n : Int) := by omega
      go_wp2_with fail
      go_ret
      exact (unhide HM).done (by omega) hn2 (unhide HW) encF_pos
end Go.Proofs.YtkafldkhmkdafaaGreatDoor

namespace Go.Proofs.YtkafldkhmkdafaaGreatDoor
open Go.RowKit
attribute [local go_sem ↓] Go.wp_at_zero Go.wp_at_succ

/-- The reader, its box, and the class at block cb, whose methods are a row that grows. -/
structure Nm (B r bx cb : Nat) (c0 c1 c2 c3 : Value) (l : List Int) (wb : Bool) (ms : List Int) (w : World) (vm : Value) : Prop where
  rd : RdAt w r l wb
  box : w.cell? ⟨bx, 0, none⟩ = some (.pointer (some ⟨r, 0, none⟩))
  blk : w.heap[cb]? = some (.cells #[c0, c1, c2, c3, vm] 38 (0, 0))
  own : w.ownsRow B 3 1 vm ms.length (ms.map iv)
  rB : r < B
  bB : bx < B
  cB : cb < B
  rb : r ≠ bx
  rc : r < cb
  bc : bx ≠ cb
  sz : B ≤ w.heap.size
/-- What stays: all but the reader, the class, and the row of methods. -/
structure FrM (r cb : Nat) (vm : Value) (w w' : World) : Prop where
  os : w'.os = w.os
  tape : w'.tape = w.tape
  output : w'.output = w.output
  size : w.heap.size ≤ w'.heap.size
  block : ∀ k, k < w.heap.size → k ≠ r → k ≠ cb → vm.ownBlock ≠ some k → w'.heap[k]? = w.heap[k]?
theorem Nm.ext {B r bx cb : Nat} {c0 c1 c2 c3 : Value} {l l' : List Int} {wb wb' : Bool} {ms : List Int} {w w' : World} {vm : Value} (h : Nm B r bx cb c0 c1 c2 c3 l wb ms w vm) (hr : RdAt w' r l' wb') (he : Ext r w w') : Nm B r bx cb c0 c1 c2 c3 l' wb' ms w' vm :=
  ⟨hr, he.cell h.box (Ne.symm h.rb), (he.block cb (hlt h.blk) (by have := h.rc; omega)).trans h.blk, owns_ext h.own he h.rB, h.rB, h.bB, h.cB, h.rb, h.rc, h.bc, Nat.le_trans h.sz he.size⟩
theorem Nm.alloc {B r bx cb : Nat} {c0 c1 c2 c3 : Value} {l : List Int} {wb : Bool} {ms : List Int} {w : World} {vm : Value} (h : Nm B r bx cb c0 c1 c2 c3 l wb ms w vm) (o : Obj) : Nm B r bx cb c0 c1 c2 c3 l wb ms (w.alloc o) vm :=
  h.ext (h.rd.keep ((Below.refl _ _).alloc (Nat.le_refl _) o)) ((Ext.refl r w).alloc o)
/-- Behind an append, and the store. -/
theorem Nm.push {B r bx cb : Nat} {c0 c1 c2 c3 : Value} {l : List Int} {wb : Bool} {ms : List Int} {w w3 : World} {vm : Value} (h : Nm B r bx cb c0 c1 c2 c3 l wb ms w vm) {m : Int} {o : Obj} {g cap : Nat}
    (hown : w3.ownsRow B 3 1 (.slice (some ⟨g, 0, none⟩) (ms.length + 1) cap) (ms.length + 1) (ms.map iv ++ [iv m])) (hg : (w.alloc o).grownBy w3 vm.ownBlock) (hat : vm.ownBlock = some g ∨ g = w.heap.size + 1) :
    w3.cell? ⟨bx, 0, none⟩ = some (.pointer (some ⟨r, 0, none⟩)) ∧ w3.heap[cb]? = some (.cells #[c0, c1, c2, c3, vm] 38 (0, 0)) ∧
      Nm B r bx cb c0 c1 c2 c3 l wb (ms ++ [m]) (w3.setCell ⟨cb, 4, none⟩ (.slice (some ⟨g, 0, none⟩) (ms.length + 1) cap)) (.slice (some ⟨g, 0, none⟩) (ms.length + 1) cap) ∧ FrM r cb vm w (w3.setCell ⟨cb, 4, none⟩ (.slice (some ⟨g, 0, none⟩) (ms.length + 1) cap)) := by
  have hne := owns_ne h.own
  have hA := h.alloc o
  have hold : ∀ k, k < B → w3.heap[k]? = (w.alloc o).heap[k]? := fun k hk => hg.block k (by have := hA.sz; omega) fun e => by have := (hne k e.symm).1; omega
  have hgB : B ≤ g := by
    rcases hat with e | e
    · exact (hne g e).1
    · have := h.sz; omega
  have hbx3 : w3.cell? ⟨bx, 0, none⟩ = some (.pointer (some ⟨r, 0, none⟩)) := (World.cell?_of_block (hold bx h.bB)).trans hA.box
  have hcb3 := (hold cb h.cB).trans hA.blk
  have hs3 : w.heap.size ≤ w3.heap.size := Nat.le_trans (by simp) hg.size
  refine ⟨hbx3, hcb3, ⟨?_, ?_, ?_, ?_, h.rB, h.bB, h.cB, h.rb, h.rc, h.bc, ?_⟩, ⟨hg.os, hg.tape, hg.output, ?_, fun k hk h1 h2 h3 => ?_⟩⟩
  · refine (hA.rd.far fun k hk => hold k (by have := h.rB; omega)).setFar h.rc 4 _
  · exact cell_setFar hbx3 h.bc 4 _
  · exact hset hcb3 4 _
  · rw [List.map_append, List.length_append]
    refine ⟨hown.1, ?_⟩
    rcases hown.2 with ⟨q, _⟩ | ⟨g', cap', cur, q1, q2, q3, q4⟩
    · cases q
    · cases q1
      exact Or.inr ⟨g, cap, cur, rfl, q2, (hother _ (by have := h.cB; omega)).trans q3, q4⟩
  · have := h.sz
    simp [World.setCell]
    omega
  · simpa [World.setCell] using hs3
  · rw [hother _ h2, hg.block k (by simp; omega) (fun e => h3 e.symm)]
    exact Below.heap_alloc _ _ _ hk

def okP (p : ByteArray × Int) : Prop := I64 p.2
/-- A name, and its method. -/
def NmGot (B r bx cb : Nat) (c0 c1 c2 c3 : Value) (l : List Int) (wb : Bool) (ms : List Int) (w : World) (vm : Value) (e : Ending) (w' : World) : Prop :=
  ∃ (s : ByteArray) (m : Int) (l' : List Int) (wb' : Bool) (vm' : Value), e = .returned (.string s) ∧ I64 m ∧ Nm B r bx cb c0 c1 c2 c3 l' wb' (ms ++ [m]) w' vm' ∧ FrM r cb vm w w' ∧ (vm'.ownBlock = vm.ownBlock ∨ ∀ j, vm'.ownBlock = some j → w.heap.size ≤ j) ∧ l'.length ≤ l.length ∧ Tel okP encP wb wb' l (s, m) l'
theorem FrM.of_ext {r cb : Nat} {vm : Value} {a w w' : World} (h : FrM r cb vm w w') (he : Ext r a w) : FrM r cb vm a w' :=
  ⟨h.os.trans he.os, h.tape.trans he.tape, h.output.trans he.output, Nat.le_trans he.size h.size, fun k hk h1 h2 h3 => (h.block k (Nat.lt_of_lt_of_le hk he.size) h1 h2 h3).trans (he.block k hk h1)⟩
theorem FrM.set {r cb : Nat} {vm : Value} {a w : World} (h : FrM r cb vm a w) {n : Nat} : FrM r cb vm a (w.drewN n) := ⟨h.os, h.tape, h.output, h.size, h.block⟩

set_option maxRecDepth 100000 in
set_option maxHeartbeats 4000000 in
theorem name_any {B r bx cb : Nat} {c0 c1 c2 c3 : Value} {l : List Int} {wb : Bool} {ms : List Int} {w : World} {vm : Value} (h : Nm B r bx cb c0 c1 c2 c3 l wb ms w vm) (hms : ms.length ≤ 110000) :
    Calls Tryz.prog 57 #[.pointer (some ⟨bx, 0, none⟩), .pointer (some ⟨cb, 0, none⟩)] w fun e w' => NmGot B r bx cb c0 c1 c2 c3 l wb ms w vm e w' := by
  have H := hide h
  have x0 := h.box
  obtain ⟨i0, hi, hz0, hz1, hz2⟩ := info_parts infoInt
  clear h
  go_enter Tryz.func57, Tryz.ntmps57
  go_wp2_with fail
  refine (rtext_any (unhide H).rd).mono ?_
  rintro e w1 ⟨s, l1, b1, rfl, hr1, he1, hl1, hw1⟩
  have H1 : Hid (Nm B r bx cb c0 c1 c2 c3 l1 b1 ms w1 vm) := (unhide H).ext hr1 he1
  have HE1 := hide he1
  have HL1 := hide hl1
  have HW1 := hide hw1
  have x1 := (unhide H1).box
  have m1 : w1.cell? ⟨cb, 4, none⟩ = some vm := hcell (unhide H1).blk 4
  have m1d : w1.drew.cell? ⟨cb, 4, none⟩ = some vm := m1
  have H1D : Hid (Nm B r bx cb c0 c1 c2 c3 l1 b1 ms w1.drew vm) := (unhide H1).ext ((unhide H1).rd.keep (Below.drew (Below.refl _ _))) (Ext.of_below (Below.drew (Below.refl _ _)))
  clear hr1 he1 hl1 hw1 x0
  go_wp2_with fail
  refine wp_region_held_drew (S := (fun w' => w'.cell? ⟨bx, 0, none⟩ = some (.pointer (some ⟨r, 0, none⟩)))) (by kernel_rfl) (by go_keep) (fun hHeld => ?_)
  refine wpAnyH_take (i := 0) (oi := { dst := some 6, op := _, type := _, pos := _, after := _, guard := _ }) (v := ?_) rfl (by kernel_rfl) (by kernel_rfl) (by kernel_rfl) (fun _ _ _ h => h) (Or.inl ⟨by rfl, ?_⟩) (by assumption) ?_
  case refine_2 =>
    intro w hSw
    try dsimp only at hSw
    go_simp
    try with_reducible rfl
  simp only [Act.put, List.setIfInBounds_toArray, List.set_cons_zero, List.set_cons_succ]
  refine wpAnyH_take (i := 2) (oi := { dst := some 8, op := _, type := _, pos := _, after := _, guard := _ }) (v := ?_) rfl (by kernel_rfl) (by kernel_rfl) (by kernel_rfl) (fun _ _ _ h => h) (Or.inl ⟨by rfl, ?_⟩) (by assumption) ?_
  case refine_2 =>
    intro w hSw
    try dsimp only at hSw
    go_simp
    try with_reducible rfl
  simp only [Act.put, List.setIfInBounds_toArray, List.set_cons_zero, List.set_cons_succ]
  refine wpAnyH_ready (rs := [1, 3]) (by kernel_rfl) (by simp) ?_
  refine AllReadyH.cons (o := { dst := some 7, op := _, type := _, pos := _, after := _, guard := _ }) rfl (fun K hK => ?_) ?_
  · go_simp
    refine hK.out _ _ (by assumption) (fun hHeldL => ?_)
    clear hK K
    refine wpAnyH_ready (rs := [3]) (by kernel_rfl) (by simp) ?_
    refine AllReadyH.cons (o := { dst := some 9, op := _, type := _, pos := _, after := _, guard := _ }) rfl (fun K hK => ?_) AllReadyH.nil
    go_simp
    refine (number_any (unhide H1D).rd).mono ?_
    rintro e w2 ⟨m, l2, b2, rfl, hm, hr2, he2, hl2, hw2⟩
    have H2 : Hid (Nm B r bx cb c0 c1 c2 c3 l2 b2 ms w2 vm) := (unhide H1D).ext hr2 he2
    have HE2 := hide (((unhide HE1).trans (Ext.of_below (Below.drew (Below.refl _ _)))).trans he2)
    have HL2 := hide (Nat.le_trans hl2 (unhide HL1))
    have HW2 := hide hw2
    have HI := hide hm
    have hs2 : B ≤ w2.heap.size := (unhide H2).sz
    have x2 := (unhide H2).box
    have m2 : w2.cell? ⟨cb, 4, none⟩ = some vm := hcell (unhide H2).blk 4
    have HO := hide ((unhide H2).alloc (.cells #[.int .i64 m] 3)).own
    clear hr2 he2 hl2 hw2 hm
    refine hK.out _ _ x2 (fun hHeld2 => ?_)
    clear hK K
    refine wpAnyH_ready (rs := [4]) (by kernel_rfl) (by simp) ?_
    refine AllReadyH.cons (o := { dst := some 10, op := _, type := _, pos := _, after := _, guard := _ }) rfl (fun K hK => ?_) AllReadyH.nil
    have m3 := cell_al m2 (.cells #[.int .i64 m] 3)
    have x3 := cell_al x2 (.cells #[.int .i64 m] 3)
    go_simp
    refine hK.out _ _ (by assumption) (fun hHeld3 => ?_)
    clear hK K
    refine wpAnyH_ready (rs := [5]) (by kernel_rfl) (by simp) ?_
    refine AllReadyH.cons (o := { dst := some 11, op := _, type := _, pos := _, after := _, guard := _ }) rfl (fun K hK => ?_) AllReadyH.nil
    refine step_append_lies _ (by rfl) _ _ _ (by rfl) B 3 i0 (.int .i64 0) 1 8 Tryz.underlying36 hi hz0 hz1 hz2 rfl (by decide) vm ms.length (ms.map iv) (by rfl) (unhide HO) ⟨w2.heap.size, 0, none⟩ 1 1 [.int .i64 m] (by rfl) rfl (news_at rfl _ _) (one_ints _) (by decide) (by unfold maxLen; omega) (by omega) (by simp; omega) (w2.heap.size + 1) (by simp) ?_
    intro g cap w3 hown hgrow hat hlt3
    obtain ⟨e1, e2, e3, e4⟩ := (unhide H2).push hown hgrow hat
    have HN := hide e3
    have HF := hide e4
    have HAT := hide hat
    have z4 : w3.cell? ⟨cb, 4, none⟩ = some vm := hcell e2 4
    have y4 := hfroz e2 4
    clear hown hgrow hat hlt3 e2 e3 e4
    refine hK.out _ _ e1 (fun hHeldA => ?_)
    clear hK K
    simp only [Act.put, List.setIfInBounds_toArray, List.set_cons_zero, List.set_cons_succ]
    refine wpAnyH_take (i := 6) (oi := { dst := some 12, op := _, type := _, pos := _, after := _, guard := _ }) (v := ?_) rfl (by kernel_rfl) (by kernel_rfl) (by kernel_rfl) (fun _ _ _ h => h) (Or.inl ⟨by rfl, ?_⟩) (by assumption) ?_
    case refine_2 =>
      intro w hSw
      try dsimp only at hSw
      go_simp
      try with_reducible rfl
    simp only [Act.put, List.setIfInBounds_toArray, List.set_cons_zero, List.set_cons_succ]
    refine wpAnyH_ready (rs := [7]) (by kernel_rfl) (by simp) ?_
    refine AllReadyH.cons (o := { dst := none, op := _, type := _, pos := _, after := _, guard := _ }) rfl (fun K hK => ?_) AllReadyH.nil
    go_simp
    refine hK.out _ _ (unhide HN).box (fun hHeldS => ?_)
    clear hK K
    refine wpAnyH_done (by kernel_rfl) ?_ _
    clear z4 y4
    go_wp2_with fail
    go_ret
    refine ⟨s, m, l2, b2, _, rfl, unhide HI, unhide HN, (unhide HF).of_ext (unhide HE2), ?_, unhide HL2, ((unhide HW1).pair (unhide HW2) encT_pf trivial).map (fun p => p) rfl (fun _ h => ⟨trivial, h⟩) (fun _ _ => rfl)⟩
    · rcases unhide HAT with q | q
      · exact Or.inl q.symm
      · exact Or.inr fun j hj => by
          simp only [Value.ownBlock, Option.some.injEq] at hj
          have := (unhide HE2).size
          omega
  refine AllReadyH.cons (o := { dst := some 9, op := _, type := _, pos := _, after := _, guard := _ }) rfl (fun K hK => ?_) AllReadyH.nil
  go_simp
  refine (number_any (unhide H1D).rd).mono ?_
  rintro e w2 ⟨m, l2, b2, rfl, hm, hr2, he2, hl2, hw2⟩
  have H2 : Hid (Nm B r bx cb c0 c1 c2 c3 l2 b2 ms w2 vm) := (unhide H1D).ext hr2 he2
  have HE2 := hide (((unhide HE1).trans (Ext.of_below (Below.drew (Below.refl _ _)))).trans he2)
  have HL2 := hide (Nat.le_trans hl2 (unhide HL1))
  have HW2 := hide hw2
  have HI := hide hm
  have hs2 : B ≤ w2.heap.size := (unhide H2).sz
  have x2 := (unhide H2).box
  have m2 : w2.cell? ⟨cb, 4, none⟩ = some vm := hcell (unhide H2).blk 4
  have HO := hide ((unhide H2).alloc (.cells #[.int .i64 m] 3)).own
  clear hr2 he2 hl2 hw2 hm
  refine hK.out _ _ x2 (fun hHeld2 => ?_)
  clear hK K
  refine wpAnyH_ready (rs := [1, 4]) (by kernel_rfl) (by simp) ?_
  refine AllReadyH.cons (o := { dst := some 7, op := _, type := _, pos := _, after := _, guard := _ }) rfl (fun K hK => ?_) ?_
  · go_simp
    refine hK.out _ _ (by assumption) (fun hHeldL => ?_)
    clear hK K
    refine wpAnyH_ready (rs := [4]) (by kernel_rfl) (by simp) ?_
    refine AllReadyH.cons (o := { dst := some 10, op := _, type := _, pos := _, after := _, guard := _ }) rfl (fun K hK => ?_) AllReadyH.nil
    have m3 := cell_al m2 (.cells #[.int .i64 m] 3)
    have x3 := cell_al x2 (.cells #[.int .i64 m] 3)
    go_simp
    refine hK.out _ _ (by assumption) (fun hHeld3 => ?_)
    clear hK K
    refine wpAnyH_ready (rs := [5]) (by kernel_rfl) (by simp) ?_
    refine AllReadyH.cons (o := { dst := some 11, op := _, type := _, pos := _, after := _, guard := _ }) rfl (fun K hK => ?_) AllReadyH.nil
    refine step_append_lies _ (by rfl) _ _ _ (by rfl) B 3 i0 (.int .i64 0) 1 8 Tryz.underlying36 hi hz0 hz1 hz2 rfl (by decide) vm ms.length (ms.map iv) (by rfl) (unhide HO) ⟨w2.heap.size, 0, none⟩ 1 1 [.int .i64 m] (by rfl) rfl (news_at rfl _ _) (one_ints _) (by decide) (by unfold maxLen; omega) (by omega) (by simp; omega) (w2.heap.size + 1) (by simp) ?_
    intro g cap w3 hown hgrow hat hlt3
    obtain ⟨e1, e2, e3, e4⟩ := (unhide H2).push hown hgrow hat
    have HN := hide e3
    have HF := hide e4
    have HAT := hide hat
    have z4 : w3.cell? ⟨cb, 4, none⟩ = some vm := hcell e2 4
    have y4 := hfroz e2 4
    clear hown hgrow hat hlt3 e2 e3 e4
    refine hK.out _ _ e1 (fun hHeldA => ?_)
    clear hK K
    simp only [Act.put, List.setIfInBounds_toArray, List.set_cons_zero, List.set_cons_succ]
    refine wpAnyH_take (i := 6) (oi := { dst := some 12, op := _, type := _, pos := _, after := _, guard := _ }) (v := ?_) rfl (by kernel_rfl) (by kernel_rfl) (by kernel_rfl) (fun _ _ _ h => h) (Or.inl ⟨by rfl, ?_⟩) (by assumption) ?_
    case refine_2 =>
      intro w hSw
      try dsimp only at hSw
      go_simp
      try with_reducible rfl
    simp only [Act.put, List.setIfInBounds_toArray, List.set_cons_zero, List.set_cons_succ]
    refine wpAnyH_ready (rs := [7]) (by kernel_rfl) (by simp) ?_
    refine AllReadyH.cons (o := { dst := none, op := _, type := _, pos := _, after := _, guard := _ }) rfl (fun K hK => ?_) AllReadyH.nil
    go_simp
    refine hK.out _ _ (unhide HN).box (fun hHeldS => ?_)
    clear hK K
    refine wpAnyH_done (by kernel_rfl) ?_ _
    clear z4 y4
    go_wp2_with fail
    go_ret
    refine ⟨s, m, l2, b2, _, rfl, unhide HI, unhide HN, (unhide HF).of_ext (unhide HE2), ?_, unhide HL2, ((unhide HW1).pair (unhide HW2) encT_pf trivial).map (fun p => p) rfl (fun _ h => ⟨trivial, h⟩) (fun _ _ => rfl)⟩
    · rcases unhide HAT with q | q
      · exact Or.inl q.symm
      · exact Or.inr fun j hj => by
          simp only [Value.ownBlock, Option.some.injEq] at hj
          have := (unhide HE2).size
          omega
  refine AllReadyH.cons (o := { dst := some 10, op := _, type := _, pos := _, after := _, guard := _ }) rfl (fun K hK => ?_) AllReadyH.nil
  have m3 := cell_al m2 (.cells #[.int .i64 m] 3)
  have x3 := cell_al x2 (.cells #[.int .i64 m] 3)
  go_simp
  refine hK.out _ _ (by assumption) (fun hHeld3 => ?_)
  clear hK K
  refine wpAnyH_ready (rs := [1]) (by kernel_rfl) (by simp) ?_
  refine AllReadyH.cons (o := { dst := some 7, op := _, type := _, pos := _, after := _, guard := _ }) rfl (fun K hK => ?_) AllReadyH.nil
  go_simp
  refine hK.out _ _ (by assumption) (fun hHeldL => ?_)
  clear hK K
  refine wpAnyH_ready (rs := [5]) (by kernel_rfl) (by simp) ?_
  refine AllReadyH.cons (o := { dst := some 11, op := _, type := _, pos := _, after := _, guard := _ }) rfl (fun K hK => ?_) AllReadyH.nil
  refine step_append_lies _ (by rfl) _ _ _ (by rfl) B 3 i0 (.int .i64 0) 1 8 Tryz.underlying36 hi hz0 hz1 hz2 rfl (by decide) vm ms.length (ms.map iv) (by rfl) (unhide HO) ⟨w2.heap.size, 0, none⟩ 1 1 [.int .i64 m] (by rfl) rfl (news_at rfl _ _) (one_ints _) (by decide) (by unfold maxLen; omega) (by omega) (by simp; omega) (w2.heap.size + 1) (by simp) ?_
  intro g cap w3 hown hgrow hat hlt3
  obtain ⟨e1, e2, e3, e4⟩ := (unhide H2).push hown hgrow hat
  have HN := hide e3
  have HF := hide e4
  have HAT := hide hat
  have z4 : w3.cell? ⟨cb, 4, none⟩ = some vm := hcell e2 4
  have y4 := hfroz e2 4
  clear hown hgrow hat hlt3 e2 e3 e4
  refine hK.out _ _ e1 (fun hHeldA => ?_)
  clear hK K
  simp only [Act.put, List.setIfInBounds_toArray, List.set_cons_zero, List.set_cons_succ]
  refine wpAnyH_take (i := 6) (oi := { dst := some 12, op := _, type := _, pos := _, after := _, guard := _ }) (v := ?_) rfl (by kernel_rfl) (by kernel_rfl) (by kernel_rfl) (fun _ _ _ h => h) (Or.inl ⟨by rfl, ?_⟩) (by assumption) ?_
  case refine_2 =>
    intro w hSw
    try dsimp only at hSw
    go_simp
    try with_reducible rfl
  simp only [Act.put, List.setIfInBounds_toArray, List.set_cons_zero, List.set_cons_succ]
  refine wpAnyH_ready (rs := [7]) (by kernel_rfl) (by simp) ?_
  refine AllReadyH.cons (o := { dst := none, op := _, type := _, pos := _, after := _, guard := _ }) rfl (fun K hK => ?_) AllReadyH.nil
  go_simp
  refine hK.out _ _ (unhide HN).box (fun hHeldS => ?_)
  clear hK K
  refine wpAnyH_done (by kernel_rfl) ?_ _
  clear z4 y4
  go_wp2_with fail
  go_ret
  refine ⟨s, m, l2, b2, _, rfl, unhide HI, unhide HN, (unhide HF).of_ext (unhide HE2), ?_, unhide HL2, ((unhide HW1).pair (unhide HW2) encT_pf trivial).map (fun p => p) rfl (fun _ h => ⟨trivial, h⟩) (fun _ _ => rfl)⟩
  · rcases unhide HAT with q | q
    · exact Or.inl q.symm
    · exact Or.inr fun j hj => by
        simp only [Value.ownBlock, Option.some.injEq] at hj
        have := (unhide HE2).size
        omega
end Go.Proofs.YtkafldkhmkdafaaGreatDoor

namespace Go.Proofs.YtkafldkhmkdafaaGreatDoor
open Go.RowKit
attribute [local go_sem ↓] Go.wp_at_zero Go.wp_at_succ

theorem encP_pf : Sure okP encP := Sure.map (o := fun p : ByteArray × Int => True ∧ I64 p.2) (e := fun p => encT p.1 ++ encN p.2) (Sure.pair (o1 := fun _ => True) (o2 := I64) encT_pf encN_pf) (fun p => p) (fun _ _ _ _ e => e) (fun _ h => ⟨trivial, h⟩) (fun _ _ => rfl)
theorem owns_at {w w' : World} {B : Nat} {e : TypeId} {k : Nat} {v : Value} {n : Nat} {xs : List Value} (h : w.ownsRow B e k v n xs) (hb : ∀ j, v.ownBlock = some j → w'.heap[j]? = w.heap[j]?) : w'.ownsRow B e k v n xs := by
  refine ⟨h.1, ?_⟩
  rcases h.2 with q | ⟨g, cap, cur, rfl, h2, h3, h4⟩
  · exact Or.inl q
  · exact Or.inr ⟨g, cap, cur, rfl, h2, (hb g rfl).trans h3, h4⟩
/-- Of what was there, the reader and the class alone may have turned. -/
structure FrB (r cb : Nat) (w w' : World) : Prop where
  os : w'.os = w.os
  tape : w'.tape = w.tape
  output : w'.output = w.output
  size : w.heap.size ≤ w'.heap.size
  block : ∀ k, k < w.heap.size → k ≠ r → k ≠ cb → w'.heap[k]? = w.heap[k]?
structure NInv (r bx cb : Nat) (c0 c1 c2 c3 : Value) (l l1 : List Int) (wb1 : Bool) (w : World) (ps : List (ByteArray × Int)) (v : Value) (cells : List Value) (vm : Value) (l2 : List Int) (wb2 : Bool) (wr : World) : Prop where
  nm : Nm w.heap.size r bx cb c0 c1 c2 c3 l2 wb2 (ps.map (·.2)) wr vm
  fr : FrB r cb w wr
  le : l2.length ≤ l.length
  own : wr.ownsRow w.heap.size 9 1 v ps.length cells
  el : Flat cells ps.length 1 (strRow (ps.map (·.1)))
  dj : ∀ j, v.ownBlock = some j → vm.ownBlock ≠ some j
  oks : ∀ p ∈ ps, I64 p.2
  eq : wb2 = false → wb1 = false ∧ l1 = ps.flatMap encP ++ l2
  cpl : wb1 = false → ∀ (ys : List (ByteArray × Int)) (l0 : List Int), (∀ y ∈ ys, okP y) → ps.length ≤ ys.length → l1 = ys.flatMap encP ++ l0 → wb2 = false ∧ l2 = (ys.drop ps.length).flatMap encP ++ l0
theorem NInv.start {r bx cb : Nat} {c0 c1 c2 c3 : Value} {l l1 : List Int} {wb wb1 : Bool} {w w1 : World} (h : Nm w.heap.size r bx cb c0 c1 c2 c3 l wb [] w (.slice none 0 0)) (hr : RdAt w1 r l1 wb1) (he : Ext r w w1) (hl : l1.length ≤ l.length) :
    NInv r bx cb c0 c1 c2 c3 l l1 wb1 w [] (.slice none 0 0) [] (.slice none 0 0) l1 wb1 w1 :=
  ⟨h.ext hr he, ⟨he.os, he.tape, he.output, he.size, fun k hk h1 _ => he.block k hk h1⟩, hl, ⟨by simp, Or.inl ⟨rfl, rfl⟩⟩, Flat.nil _ _, fun j hj => by simp [Value.ownBlock] at hj, fun _ q => (by cases q), (fun q => ⟨q, rfl⟩), fun q ys l0 _ _ e => ⟨q, by rw [e]; simp⟩⟩
theorem NInv.mid {r bx cb : Nat} {c0 c1 c2 c3 : Value} {l l1 l2 : List Int} {wb1 wb2 : Bool} {w wr w3 : World} {ps : List (ByteArray × Int)} {v vm : Value} {cells : List Value} (h : NInv r bx cb c0 c1 c2 c3 l l1 wb1 w ps v cells vm l2 wb2 wr) (hf : FrM r cb vm wr w3) : w3.ownsRow w.heap.size 9 1 v ps.length cells :=
  owns_at h.own fun j hj => hf.block j (owns_ne h.own j hj).2 (by have := (owns_ne h.own j hj).1; have := h.nm.rB; omega) (by have := (owns_ne h.own j hj).1; have := h.nm.cB; omega) (h.dj j hj)
theorem NInv.snoc {r bx cb : Nat} {c0 c1 c2 c3 : Value} {l l1 l2 l3 : List Int} {wb1 wb2 wb3 : Bool} {w wr w3 w5 : World} {ps : List (ByteArray × Int)} {v vm vm' : Value} {cells : List Value} {s : ByteArray} {m : Int} {o : Obj} {g cap : Nat}
    (h : NInv r bx cb c0 c1 c2 c3 l l1 wb1 w ps v cells vm l2 wb2 wr) (hm : I64 m) (h3 : Nm w.heap.size r bx cb c0 c1 c2 c3 l3 wb3 (ps.map (·.2) ++ [m]) w3 vm') (hf : FrM r cb vm wr w3) (hv : vm'.ownBlock = vm.ownBlock ∨ ∀ j, vm'.ownBlock = some j → wr.heap.size ≤ j) (hl : l3.length ≤ l2.length) (hw : Tel okP encP wb2 wb3 l2 (s, m) l3)
    (hown : w5.ownsRow w.heap.size 9 1 (.slice (some ⟨g, 0, none⟩) (ps.length + 1) cap) (ps.length + 1) (cells ++ [.string s])) (hg : (w3.alloc o).grownBy w5 v.ownBlock) (hat : v.ownBlock = some g ∨ g = w3.heap.size + 1) :
    NInv r bx cb c0 c1 c2 c3 l l1 wb1 w (ps ++ [(s, m)]) (.slice (some ⟨g, 0, none⟩) (ps.length + 1) cap) (cells ++ [.string s]) vm' l3 wb3 w5 := by
  have hne := owns_ne h.own
  have hnm := owns_ne h3.own
  have hdj : ∀ j, v.ownBlock = some j → vm'.ownBlock ≠ some j := fun j hj q => by
    rcases hv with e | e
    · exact h.dj j hj (e ▸ q)
    · have := e j q
      have := (hne j hj).2
      omega
  have hb5 : ∀ k, k < w3.heap.size → v.ownBlock ≠ some k → w5.heap[k]? = w3.heap[k]? := fun k hk hn => (hg.block k (by simp; omega) fun e => hn e.symm).trans (Below.heap_alloc _ _ _ hk)
  have hB5 : ∀ k, k < w.heap.size → w5.heap[k]? = w3.heap[k]? := fun k hk => hb5 k (by have := h3.sz; omega) fun e => by have := (hne k e).1; omega
  have hs5 : w3.heap.size ≤ w5.heap.size := Nat.le_trans (by simp) hg.size
  refine ⟨⟨h3.rd.far fun k hk => hB5 k (by have := h3.rB; omega), (World.cell?_of_block (hB5 bx h3.bB)).trans h3.box, (hB5 cb h3.cB).trans h3.blk, ?_, h3.rB, h3.bB, h3.cB, h3.rb, h3.rc, h3.bc, Nat.le_trans h3.sz hs5⟩,
    ⟨(hg.os.trans hf.os).trans h.fr.os, (hg.tape.trans hf.tape).trans h.fr.tape, (hg.output.trans hf.output).trans h.fr.output, Nat.le_trans h3.sz hs5, fun k hk h1 h2 => ?_⟩, Nat.le_trans hl h.le, by simpa using hown, ?_, fun j hj q => ?_, fun p hp => ?_, fun q => ?_, fun q ys l0 hy hle e => ?_⟩
  · rw [List.map_append]
    exact owns_at h3.own fun j hj => hb5 j (hnm j hj).2 fun e => hdj j e hj
  · rw [hB5 k hk, hf.block k (by have := h.nm.sz; omega) h1 h2 fun e => by have := (owns_ne h.nm.own k e).1; omega]
    exact h.fr.block k hk h1 h2
  · rw [List.length_append, List.map_append]
    have e1 := h.own.1
    refine (Flat.turn h.el fun i hi => ?_).snoc e1 fun j hj => ?_
    · funext j
      unfold strRow
      rw [List.getElem?_append_left (by simpa using hi)]
    · have : j = 0 := by omega
      subst this
      unfold strRow
      simp
  · simp only [Value.ownBlock, Option.some.injEq] at hj
    subst hj
    rcases hat with e | e
    · exact hdj g e q
    · have := (hnm g q).2
      omega
  · rcases List.mem_append.1 hp with q | q
    · exact h.oks p q
    · obtain rfl := List.mem_singleton.1 q
      exact hm
  · obtain ⟨q1, q2⟩ := hw.snd q
    obtain ⟨q3, q4⟩ := h.eq q1
    exact ⟨q3, by rw [q4, q2]; simp⟩
  · rw [List.length_append, List.length_singleton] at hle
    obtain ⟨q1, q2⟩ := h.cpl q ys l0 hy (by omega) e
    have hlt : ps.length < ys.length := by omega
    rw [List.drop_eq_getElem_cons hlt, List.flatMap_cons, List.append_assoc] at q2
    obtain ⟨q3, _, q5⟩ := hw.same encP_pf hm q1 (hy _ (List.getElem_mem hlt)) q2
    exact ⟨q3, by rw [q5]; simp⟩
theorem encP_pos (p : ByteArray × Int) : 0 < (encP p).length := by
  have := encT_pos p.1
  unfold encP
  rw [List.length_append]
  omega
/-- Names and methods were read. -/
def NamesPost (r bx cb : Nat) (c0 c1 c2 c3 : Value) (l : List Int) (wb : Bool) (w : World) (e : Ending) (w' : World) : Prop :=
  ∃ (g : Option Addr) (n cap : Nat) (vm : Value) (ps : List (ByteArray × Int)) (l' : List Int) (wb' : Bool), e = .returned (.slice g n cap) ∧ Nm w.heap.size r bx cb c0 c1 c2 c3 l' wb' (ps.map (·.2)) w' vm ∧ FrB r cb w w' ∧ l'.length ≤ l.length ∧ (∀ p ∈ ps, I64 p.2) ∧
    TelL okP encP (∃ cells, w'.ownsRow w.heap.size 9 1 (.slice g n cap) ps.length cells ∧ Flat cells ps.length 1 (strRow (ps.map (·.1))) ∧ ps.length ≤ 110000 ∧ l = encN ps.length ++ (ps.flatMap encP ++ l')) wb wb' l
theorem NInv.done {r bx cb : Nat} {c0 c1 c2 c3 : Value} {l l1 l2 : List Int} {wb wb1 wb2 : Bool} {w wr : World} {ps : List (ByteArray × Int)} {v vm : Value} {cells : List Value} {n : Nat} (h : NInv r bx cb c0 c1 c2 c3 l l1 wb1 w ps v cells vm l2 wb2 wr) (hn : ps.length = n) (hm : n ≤ 110000) (hw : TelN wb wb1 l n l1) : NamesPost r bx cb c0 c1 c2 c3 l wb w (.returned v) wr := by
  obtain ⟨g, cap, rfl⟩ := owns_form h.own
  refine ⟨g, _, cap, vm, ps, l2, wb2, rfl, h.nm, h.fr, h.le, h.oks, fun q => ?_, fun q ys l0 hy e => ?_⟩
  · obtain ⟨q1, q2⟩ := h.eq q
    obtain ⟨q3, q4⟩ := hw.snd q1
    exact ⟨q3, cells, h.own, h.el, by omega, by rw [q4, q2, hn]⟩
  · unfold encL at e
    rw [List.append_assoc] at e
    obtain ⟨q1, q2, q3⟩ := hw.same q (by have := flat_many (ok := okP) encP_pos ys; rw [List.length_append]; omega) e
    exact (h.cpl q1 ys l0 hy (by omega) q3).1
theorem NInv.wrong {r bx cb : Nat} {c0 c1 c2 c3 : Value} {l l1 l2 : List Int} {wb wb1 : Bool} {w wr : World} {ps : List (ByteArray × Int)} {v vm : Value} {cells : List Value} {n : Nat} (h : NInv r bx cb c0 c1 c2 c3 l l1 wb1 w ps v cells vm l2 true wr) (hn : ps.length ≤ n) (hw : TelN wb wb1 l n l1) : NamesPost r bx cb c0 c1 c2 c3 l wb w (.returned (.slice none 0 0)) wr :=
  ⟨none, 0, 0, vm, ps, l2, true, rfl, h.nm, h.fr, h.le, h.oks, (fun q => by cases q), fun q ys l0 hy e => by
    unfold encL at e
    rw [List.append_assoc] at e
    obtain ⟨q1, q2, q3⟩ := hw.same q (by have := flat_many (ok := okP) encP_pos ys; rw [List.length_append]; omega) e
    exact (h.cpl q1 ys l0 hy (by omega) q3).1⟩

set_option maxRecDepth 100000 in
set_option maxHeartbeats 4000000 in
theorem listN {w : World} {r bx cb : Nat} {c0 c1 c2 c3 : Value} {l : List Int} {wb : Bool} (h : Nm w.heap.size r bx cb c0 c1 c2 c3 l wb [] w (.slice none 0 0)) :
    Calls Tryz.prog 56 #[.pointer (some ⟨r, 0, none⟩), .func (.func 57) #[] #[.pointer (some ⟨bx, 0, none⟩), .pointer (some ⟨cb, 0, none⟩)]] w fun e w' => NamesPost r bx cb c0 c1 c2 c3 l wb w e w' := by
  have H := hide h
  obtain ⟨i0, hi, hz0, hz1, hz2⟩ := info_parts infoCS
  clear h
  go_enter Tryz.func56, Tryz.ntmps56
  go_wp2_with fail
  refine (many_any (unhide H).rd).mono ?_
  rintro e w1 ⟨n, l1, wb1, rfl, hn, hr1, he1, hl1, hw1⟩
  have HM0 := hide (NInv.start (unhide H) hr1 he1 hl1)
  have hn2 : n ≤ 110000 := Nat.le_trans hn hr1.len
  have HW := hide hw1
  clear hr1 he1 hl1 hw1 hn
  go_wp2_with fail
  go_loopg [5, 8] n (fun gg v i wr => ∃ (k : Nat) (V : Value), k ≤ n ∧ gg = n - k ∧ i = .int .i64 k ∧ v = V ∧ Hid (∃ ps cells vm l2 wb2, ps.length = k ∧ NInv r bx cb c0 c1 c2 c3 l l1 wb1 w ps V cells vm l2 wb2 wr))
  case atStart => exact ⟨0, .slice none 0 0, Nat.zero_le _, rfl, rfl, rfl, [], [], .slice none 0 0, l1, wb1, rfl, unhide HM0⟩
  case round =>
    obtain ⟨k, v, hk, rfl, rfl, rfl, HY⟩ := hrel
    obtain ⟨ps, cells, vm, l2, wb2, rfl, hm⟩ := unhide HY
    have HM := hide hm
    obtain ⟨g2, cap2, t2, hbk, _⟩ := hm.nm.rd.blk
    have c1' : wr.cell? ⟨r, 1, none⟩ = some (.bool wb2) := hcell hbk 1
    clear hbk hm HY
    by_cases hlk : ps.length < n
    · have hk2 : (ps.length : Int) < (n : Int) := by omega
      cases wb2 with
      | true =>
        go_wp2_with fail
        go_ret
        exact (unhide HM).wrong (Nat.le_of_lt hlk) (unhide HW)
      | false =>
        go_wp2_with fail
        refine (name_any (unhide HM).nm (by simp; omega)).mono ?_
        rintro e w3 ⟨s, m, l3, wb3, vm', rfl, hok, hr3, he3, hv3, hl3, hw3⟩
        have HO := hide (owns_alloc ((unhide HM).mid he3) (.cells #[.string s] 9))
        have HR3 := hide hr3
        have HE3 := hide he3
        have HV3 := hide hv3
        have HL3 := hide hl3
        have HW3 := hide hw3
        have HOK := hide hok
        have hs3 : w.heap.size ≤ w3.heap.size := hr3.sz
        clear hr3 he3 hl3 hw3 hok hv3 c1'
        go_wp2_with (at_builtin; refine wpList_append_lies _ rfl _ _ _ rfl w.heap.size 9 i0 (.string ByteArray.empty) 1 16 Tryz.underlying35 hi hz0 hz1 hz2 rfl (by decide) _ ps.length cells rfl (unhide HO) ⟨w3.heap.size, 0, none⟩ 1 1 [.string s] rfl rfl (news_at rfl _ _) ?c2 (by decide) ?c3 ?c4 ?c5 (w3.heap.size + 1) ?c6 ?_)
        case c2 => first | rfl | (intro u hu; simp at hu; subst hu; rfl)
        case c3 => unfold maxLen; omega
        case c4 => omega
        case c5 => first | omega | (simp; omega)
        try case c6 => simp
        intro g cap w5 hown hgrow hat hlt5
        have HM5 := hide ((unhide HM).snoc (unhide HOK) (unhide HR3) (unhide HE3) (unhide HV3) (unhide HL3) (unhide HW3) hown hgrow hat)
        clear hown hgrow hat hlt5
        go_wp2_with fail
        go_roundg (n - (ps.length + 1))
        case measure => omega
        case rel => exact ⟨ps.length + 1, _, by omega, rfl, by go_num, rfl, _, _, vm', l3, wb3, by simp, unhide HM5⟩
    · have hk2 : ¬ (ps.length : Int) < (n : Int) := by omega
      go_wp2_with fail
      go_ret
      exact (unhide HM).done (by omega) hn2 (unhide HW)
end Go.Proofs.YtkafldkhmkdafaaGreatDoor
