/-
  How many nodes there are; what was thrown.
-/
import Derived.Test.YtjcoobkpmpjpbaaGreatDoorM11
namespace Go.Proofs.YtjcoobkpmpjpbaaGreatDoor
open Go.RowKit

/-- How many parts a tree has. -/
def Tree.many : Tree → Nat
  | ⟨_, _, _, _, _, kids⟩ => 1 + (kids.attach.map fun ⟨k, _⟩ => k.many).sum
theorem many_eq (t : Tree) : t.many = 1 + (t.kids.map Tree.many).sum := by
  obtain ⟨a, b, c, d, e, kids⟩ := t
  rw [Tree.many]
  simp

/-- The cells of a list of kids. -/
theorem Row.cellAt {A : Nat → Prop} {w : World} {ks : Value} {vs : List Value} (h : Row A w ks vs) : (ks = .slice none 0 0 ∧ vs = []) ∨ ∃ g cap, ks = .slice (some ⟨g, 0, none⟩) vs.length cap ∧ vs.length ≤ maxLen ∧ ∀ i, i < vs.length → w.cell? ⟨g, i, none⟩ = some (vs.getD i undef) := by
  rcases h with h | ⟨g, cap, cur, h1, _, h3, h4, h5, h6, h7⟩
  · exact Or.inl h
  · refine Or.inr ⟨g, cap, h1, by omega, fun i hi => ?_⟩
    rw [hcell h3 i, ← Array.getElem?_toList, List.getD]
    have e : vs[i]? = (cur.toList.take vs.length)[i]? := by rw [h7]
    rw [e, List.getElem?_take, if_pos hi]
    have hlt : i < cur.toList.length := by simp; omega
    rw [List.getElem?_eq_getElem hlt]
    rfl

theorem wrap_add (a b : Int) : wrap64 (wrap64 a + wrap64 b) = wrap64 (a + b) := by
  unfold wrap64
  omega

theorem sum_take (l : List Tree) {k : Nat} (h : k < l.length) : ((l.take (k + 1)).map Tree.many).sum = ((l.take k).map Tree.many).sum + l[k].many := by
  rw [List.take_succ_eq_append_getElem h, List.map_append, List.sum_append]
  simp only [List.map_cons, List.map_nil, List.sum_cons, List.sum_nil]
  omega

set_option maxRecDepth 100000 in
set_option maxHeartbeats 4000000 in
theorem many_any {A : Nat → Prop} {w : World} : ∀ (t : Tree) (v : Value), NodeAt A w v t → Calls Tryz.prog 20 #[v] w fun e w' => e = .returned (.int .i64 (wrap64 (t.many : Int))) ∧ w' = w := by
  refine tree_ind _ fun t ih v h => ?_
  rw [NodeAt_iff] at h
  obtain ⟨b, ty, ks, vs, rfl, _, h3, h4, h5, h6⟩ := h
  have c5 : w.cell? ⟨b, 5, none⟩ = some ks := hcell h3 5
  have IH : Hid (∀ i (hi : i < t.kids.length), Calls Tryz.prog 20 #[vs.getD i undef] w fun e w' => e = .returned (.int .i64 (wrap64 (t.kids[i].many : Int))) ∧ w' = w) := fun i hi => ih _ (List.getElem_mem hi) _ (h6 i hi)
  clear ih h3 h6
  have HM := hide (many_eq t)
  rcases h4.cellAt with ⟨rfl, rfl⟩ | ⟨g, cap, rfl, hmax, hcells⟩
  · clear h4
    have HK := hide (show t.kids = [] from List.eq_nil_of_length_eq_zero (by rw [← h5]; rfl))
    clear h5 IH
    go_enter Tryz.func20, Tryz.ntmps20
    go_wp2_with fail
    go_loopg [3, 13] 1 (fun gg m i wr => gg = 1 ∧ m = .int .i64 1 ∧ i = .int .i64 0 ∧ wr = w)
    case atStart => exact ⟨rfl, rfl, rfl, rfl⟩
    case round =>
      obtain ⟨rfl, rfl, rfl, rfl⟩ := hrel
      go_wp2_with fail
      go_ret
      rw [show wrap64 (t.many : Int) = 1 by rw [unhide HM, unhide HK]; simp [wrap64]]
      exact ⟨rfl, rfl⟩
  · clear h4
    obtain ⟨N, hN⟩ : ∃ N, vs.length = N := ⟨_, rfl⟩
    rw [hN] at hmax hcells c5 h5
    unfold maxLen at hmax
    have HCS := hide hcells
    clear hcells
    go_enter Tryz.func20, Tryz.ntmps20
    go_wp2_with fail
    go_loopg [3, 13] N (fun gg m i wr => ∃ (k : Nat) (M : Int), k ≤ N ∧ gg = N - k ∧ i = .int .i64 k ∧ m = .int .i64 M ∧ Hid (M = wrap64 ((1 + ((t.kids.take k).map Tree.many).sum : Nat) : Int)) ∧ wr = w)
    case atStart => exact ⟨0, 1, Nat.zero_le _, rfl, rfl, rfl, by show (1 : Int) = wrap64 ((1 + ((t.kids.take 0).map Tree.many).sum : Nat) : Int); rw [List.take_zero]; simp [wrap64], rfl⟩
    case round =>
      obtain ⟨k, M, hk, rfl, rfl, rfl, HW, rfl⟩ := hrel
      by_cases hlt : k < N
      · have hc := unhide HCS k hlt
        have hlt2 : (k : Int) < (N : Int) := by omega
        obtain ⟨K, hK⟩ : ∃ K : Int, K = wrap64 (t.kids[k].many : Int) := ⟨_, rfl⟩
        have hi := unhide IH k (by omega)
        rw [← hK] at hi
        have HI := hide hi
        have HT : Hid (wrap64 (M + K) = wrap64 ((1 + ((t.kids.take (k + 1)).map Tree.many).sum : Nat) : Int)) := by
          show wrap64 (M + K) = _
          rw [unhide HW, hK, wrap_add, sum_take t.kids (show k < t.kids.length by omega)]
          congr 1
          omega
        clear hi hK IH HW
        generalize vs.getD k undef = kv at *
        go_wp2_with fail
        refine (unhide HI).mono ?_
        rintro e wz ⟨rfl, rfl⟩
        go_wp2_with fail
        go_roundg (N - (k + 1))
        case measure => omega
        case rel => exact ⟨k + 1, _, by omega, rfl, by go_num, rfl, unhide HT, rfl⟩
      · obtain rfl : k = N := by omega
        have hf : decide ((k : Int) < (k : Int)) = false := by simp
        have HT := hide (show M = wrap64 (t.many : Int) by rw [unhide HW, unhide HM, List.take_of_length_le (by omega)])
        clear HW IH
        go_wp2_with fail
        go_ret
        rw [← unhide HT]
        exact ⟨rfl, rfl⟩

set_option maxRecDepth 100000 in
set_option maxHeartbeats 4000000 in
theorem caught_any (w : World) (e p : Int) :
    Calls Tryz.prog 17 #[.iface 76 (.agg #[.int .i64 e, .int .i64 p])] w fun en w' =>
      en = .returned (.iface 78 (.pointer (some ⟨w.heap.size + 1, 0, none⟩))) ∧ w' = (w.alloc (.cells #[.int .i64 e, .int .i64 p] 76)).alloc (.cells #[.int .i64 e, .int .i64 p] 80) := by
  have hta : ∀ w : World, (Instr.typeAssert (.iface 76 (.agg #[.int .i64 e, .int .i64 p])) 20 76 true).run Tryz.prog w = .ok (.tuple #[.agg #[.int .i64 e, .int .i64 p], .bool true]) w := fun _ => by kernel_rfl
  go_enter Tryz.func17, Tryz.ntmps17
  go_wp2_with fail
  go_ret
  exact ⟨rfl, rfl⟩
end Go.Proofs.YtjcoobkpmpjpbaaGreatDoor
