/-
  One goes on from an instruction.
-/
import Derived.Test.YtcbgcjkcfolcoaaDoorM03
namespace Go.Proofs.YtcbgcjkcfolcoaaDoor
open Go.RowKit

theorem come_int {B : Nat} {w : World} {r vb : Nat} {vcode vopen : Value} {N : Nat} {f : Nat → Option Nat} {o : List Nat} (h : WaysAt B w r vb vcode vopen N f o) (hB : B ≤ w.heap.size) {g0 : Option Addr} {cap0 : Nat} (hcode : vcode = .slice g0 N cap0) (hN : N ≤ 5000) (hol : o.length ≤ 5000) (p n : Int) (hp0 : 0 ≤ p) (hp : p ≤ 5000) (hn0 : 0 ≤ n) (hn : n ≤ 1000) :
    Calls Tryd.prog 43 #[.pointer (some ⟨r, 0, none⟩), .int .i64 p, .int .i64 n] w fun e w' => ComePost B w r vb vcode N f o p.toNat n.toNat e w' := by
  obtain ⟨P, rfl⟩ := Int.eq_ofNat_of_zero_le hp0
  obtain ⟨M, rfl⟩ := Int.eq_ofNat_of_zero_le hn0
  exact come_any h hB hcode hN hol P M (by omega) (by omega)

theorem at_eq {f : Nat → Option Nat} {p q a b : Nat} (h : f p = some a) (hp : q = p) (ha : b = a) : f q = some b := by
  rw [hp, ha]; exact h
def Mono (f f' : Nat → Option Nat) : Prop := ∀ p n, f p = some n → f' p = some n
theorem Mono.refl (f : Nat → Option Nat) : Mono f f := fun _ _ h => h
theorem Mono.trans {a b c : Nat → Option Nat} (h : Mono a b) (k : Mono b c) : Mono a c := fun p n e => k p n (h p n e)
theorem Mono.upd {f : Nat → Option Nat} {p n : Nat} (h : f p = none) : Mono f (upd f p n) := fun q k e => by
  rw [upd_other f p n (fun x => by rw [x, h] at e; cases e)]; exact e

/-- What is known while one goes on from x. -/
structure Going (B : Nat) (c : List PI) (hs : List PH) (w : World) (r vb : Nat) (vcode : Value) (f0 f : Nat → Option Nat) (u x : Nat) (o : List Nat) (vopen : Value) : Prop where
  ways : WaysAt B w r vb vcode vopen c.length f o
  book : BookBut c hs f o x
  mono : Mono f0 f
  size : unset f c.length + o.length = u

theorem Going.come {B : Nat} {c : List PI} {hs : List PH} {w w' : World} {r vb : Nat} {vcode vopen : Value} {f0 f : Nat → Option Nat} {u x p n : Nat} {o : List Nat} {e : Ending} (h : Going B c hs w r vb vcode f0 f u x o vopen) (hr : Reach c hs p n) (hc : ComePost B w r vb vcode c.length f o p n e w') :
    Below B w w' ∧ ((e = .returned (.bool false) ∧ BadWays c hs) ∨ (e = .returned (.bool true) ∧ ∃ f' o' vopen', Going B c hs w' r vb vcode f0 f' u x o' vopen' ∧ f' p = some n ∧ Mono f f')) := by
  obtain ⟨hb, hc⟩ := hc
  refine ⟨hb, ?_⟩
  have hk := h.book.known.come hr
  rcases hc with ⟨h1, rfl⟩ | ⟨h1, rfl, rfl⟩ | ⟨h1, h2, rfl, vopen', h4⟩
  · rcases hk with ⟨_, k⟩ | ⟨k, _⟩ | ⟨k, _⟩
    · exact Or.inl ⟨rfl, k⟩
    · rw [h1] at k; cases k
    · rw [h1] at k; cases k
  · rcases hk with ⟨k, _⟩ | ⟨_, k⟩ | ⟨k, _⟩
    · rw [h1] at k; cases k
    · exact Or.inr ⟨rfl, f, o, vopen, h, k, Mono.refl f⟩
    · rw [h1] at k
      have := congrArg (fun z => z.map (·.2)) k
      simp at this
  · rcases hk with ⟨k, _⟩ | ⟨k, _⟩ | ⟨_, _, k3, k4⟩
    · rw [h1] at k; cases k
    · rw [h1] at k
      have := congrArg (fun z => z.map (·.2)) k
      simp at this
    · refine Or.inr ⟨rfl, _, _, vopen', ⟨h4, h.book.push h2 k3 k4, h.mono.trans (Mono.upd h2), ?_⟩, upd_same f p n, Mono.upd h2⟩
      have := unset_upd (n := n) h2 c.length k3
      have := h.size
      simp
      omega

/-- What comes of going on. -/
def GoPost (B : Nat) (c : List PI) (hs : List PH) (w : World) (r vb : Nat) (vcode : Value) (f0 : Nat → Option Nat) (u : Nat) (e : Ending) (w' : World) : Prop :=
  Below B w w' ∧ ((e = .returned (.bool false) ∧ BadWays c hs) ∨ (e = .returned (.bool true) ∧ ∃ f' o' vopen', WaysAt B w' r vb vcode vopen' c.length f' o' ∧ Book c hs f' o' ∧ Mono f0 f' ∧ unset f' c.length + o'.length = u))
theorem Going.done {B : Nat} {c : List PI} {hs : List PH} {w0 w : World} {r vb : Nat} {vcode vopen : Value} {f0 f : Nat → Option Nat} {u x n : Nat} {o : List Nat} (h : Going B c hs w r vb vcode f0 f u x o vopen) (hb : Below B w0 w) {i : PI} (hi : c[x]? = some i) (hx : f x = some n) (ht : takes i ≤ n) (hq : ∀ q k, (q, k) ∈ nexts i x n → f q = some k) :
    GoPost B c hs w0 r vb vcode f0 u (.returned (.bool true)) w :=
  ⟨hb, Or.inr ⟨rfl, f, o, vopen, h.ways, h.book.close (fun m j hm hj => by
    rw [hx] at hm; rw [hi] at hj; cases hm; cases hj; exact ⟨ht, hq⟩), h.mono, h.size⟩⟩
theorem GoPost.bad {B : Nat} {c : List PI} {hs : List PH} {w0 w : World} {r vb : Nat} {vcode : Value} {f0 : Nat → Option Nat} {u : Nat} (hb : Below B w0 w) (h : BadWays c hs) : GoPost B c hs w0 r vb vcode f0 u (.returned (.bool false)) w := ⟨hb, Or.inl ⟨rfl, h⟩⟩
theorem Going.keep {B : Nat} {c : List PI} {hs : List PH} {w w' : World} {r vb : Nat} {vcode vopen : Value} {f0 f : Nat → Option Nat} {u x : Nat} {o : List Nat} (h : Going B c hs w r vb vcode f0 f u x o vopen) (hb : Below w.heap.size w w') : Going B c hs w' r vb vcode f0 f u x o vopen := ⟨h.ways.keep hb, h.book, h.mono, h.size⟩

theorem InstrsAt.at {w : World} {g : Option Addr} {n : Nat} {l : List PI} (h : RowsAt w g n 3 (instrRow l)) {x : Nat} {i : PI} (hi : l[x]? = some i) (hn : x < n) : ∃ b o, g = some ⟨b, o, none⟩ ∧ w.cell? ⟨b, o + x * 3, none⟩ = some (.int .i64 i.op) ∧ w.cell? ⟨b, o + x * 3 + 1, none⟩ = some (.int .i64 i.a) ∧ w.cell? ⟨b, o + x * 3 + 2, none⟩ = some (.int .i64 i.b) := by
  obtain ⟨b, o, h1, h2⟩ := h x hn
  refine ⟨b, o, h1, ?_, ?_, ?_⟩
  · have := h2 0 (by omega); rw [instrRow, hi] at this; exact this
  · have := h2 1 (by omega); rw [instrRow, hi] at this; exact this
  · have := h2 2 (by omega); rw [instrRow, hi] at this; exact this

/-- What is asked of one who goes on. -/
structure GoAsk (B : Nat) (c : List PI) (hs : List PH) (w : World) (r vb gb go cap : Nat) (f : Nat → Option Nat) (o : List Nat) (vopen : Value) (u x n : Nat) (i : PI) : Prop where
  going : Going B c hs w r vb (.slice (some ⟨gb, go, none⟩) c.length cap) f f u x o vopen
  hB : B ≤ w.heap.size
  hN : c.length ≤ 5000
  hu : u ≤ 5000
  hi : c[x]? = some i
  hx : f x = some n
  hn : n ≤ 200
  i0 : w.cell? ⟨gb, go + x * 3, none⟩ = some (.int .i64 i.op)
  i1 : w.cell? ⟨gb, go + x * 3 + 1, none⟩ = some (.int .i64 i.a)
  i2 : w.cell? ⟨gb, go + x * 3 + 2, none⟩ = some (.int .i64 i.b)
theorem Going.olen {B : Nat} {c : List PI} {hs : List PH} {w : World} {r vb : Nat} {vcode vopen : Value} {f0 f : Nat → Option Nat} {u x : Nat} {o : List Nat} (h : Going B c hs w r vb vcode f0 f u x o vopen) (hu : u ≤ 5000) : o.length ≤ 5000 := by
  have := h.size; omega

set_option maxRecDepth 100000 in
set_option maxHeartbeats 4000000 in
theorem goOn_short {B : Nat} {c : List PI} {hs : List PH} {w : World} {r vb gb go cap : Nat} {f : Nat → Option Nat} {o : List Nat} {vopen : Value} {u x n : Nat} {i : PI} (h : GoAsk B c hs w r vb gb go cap f o vopen u x n i) {m : PM} {s : Int} (hok : nameOk m s c.length i = true) (hs1 : (n : Int) < takes i) :
    Calls Tryd.prog 44 #[.pointer (some ⟨r, 0, none⟩), .int .i64 x] w fun e w' => GoPost B c hs w r vb (.slice (some ⟨gb, go, none⟩) c.length cap) f u e w' := by
  obtain ⟨hg, hB, hN, hu, hi, hx, hn, j0, j1, j2⟩ := h
  have hxl := (List.getElem?_eq_some_iff.1 hi).1
  obtain ⟨tb1, tb2⟩ := takes_bound hok
  obtain ⟨lb1, lb2⟩ := leaves_bound i
  obtain ⟨t1, b1⟩ := hg.ways.blk
  obtain ⟨t2, b2⟩ := hg.ways.vals
  have c0 : w.cell? ⟨r, 0, none⟩ = some (.slice (some ⟨gb, go, none⟩) c.length cap) := hcell b1 0
  have c1 : w.cell? ⟨r, 1, none⟩ = some (.slice (some ⟨vb, 0, none⟩) c.length c.length) := hcell b1 1
  have cx : w.cell? ⟨vb, x, none⟩ = some (.int .i64 n) := ((hcell b2 x).trans (notedCells_get hxl)).trans (by rw [noted_some hx])
  have HG := hide hg
  have HB := hide hB
  have HN := hide hN
  have HU := hide hu
  have HI := hide hi
  have HX := hide hx
  have HOK := hide hok
  have HR : Hid (Reach c hs x n) := hg.book.known.reach x n hx
  have x0 : (0 : Int) ≤ (x : Int) := by omega
  have x1 : (x : Int) < (c.length : Int) := by omega
  have k1 : c.length ≤ 5000 := hN
  clear hg hB hN hu hi hx hok b1 b2
  go_enter Tryd.func44, Tryd.ntmps44
  go_wp2_with fail
  have hba : Below w.heap.size w (w.alloc (.cells #[.int .i64 i.op, .int .i64 i.a, .int .i64 i.b] 87)) := (Below.refl _ _).alloc (Nat.le_refl _) _
  refine (stack_any i (unhide HOK) _).mono ?_
  rintro e w2 ⟨rfl, hb2⟩
  have hsa : (w.alloc (.cells #[.int .i64 i.op, .int .i64 i.a, .int .i64 i.b] 87)).heap.size = w.heap.size + 1 := by simp
  have hbw : Below w.heap.size w w2 := hba.trans (hb2.mono (by omega))
  have d1 := cellk hbw c1 (cell_lt c1)
  have dx := cellk hbw cx (cell_lt cx)
  have dI := (hb2.block w.heap.size (by omega)).trans (hnew w _)
  have di0 : w2.cell? ⟨w.heap.size, 0, none⟩ = some (.int .i64 i.op) := hcell dI 0
  have di1 : w2.cell? ⟨w.heap.size, 1, none⟩ = some (.int .i64 i.a) := hcell dI 1
  have HG2 := hide ((unhide HG).keep hbw)
  have HBW := hide hbw
  have HB2 : Hid (B ≤ w2.heap.size) := Nat.le_trans (unhide HB) hbw.size
  clear hba hb2 hsa hbw dI c0 c1 cx j0 j1 j2 HG
  have HS := hide hs1
  have hneg : (n : Int) - takes i < 0 := by omega
  have dneg : decide ((n : Int) - takes i < 0) = true := by simpa using hneg
  clear HB2 HN HU HR lb1 lb2 hs1
  go_wp2_with fail
  go_ret
  exact GoPost.bad ((unhide HBW).mono (unhide HB)) ((unhide HG2).book.known.short (unhide HX) (unhide HI) (unhide HS))

set_option maxRecDepth 100000 in
set_option maxHeartbeats 4000000 in
theorem goOn_ends {B : Nat} {c : List PI} {hs : List PH} {w : World} {r vb gb go cap : Nat} {f : Nat → Option Nat} {o : List Nat} {vopen : Value} {u x n : Nat} {i : PI} (h : GoAsk B c hs w r vb gb go cap f o vopen u x n i) {m : PM} {s : Int} (hok : nameOk m s c.length i = true) (hs1 : takes i ≤ n) (ho : i.op = 40 ∨ i.op = 41) :
    Calls Tryd.prog 44 #[.pointer (some ⟨r, 0, none⟩), .int .i64 x] w fun e w' => GoPost B c hs w r vb (.slice (some ⟨gb, go, none⟩) c.length cap) f u e w' := by
  obtain ⟨hg, hB, hN, hu, hi, hx, hn, j0, j1, j2⟩ := h
  have hxl := (List.getElem?_eq_some_iff.1 hi).1
  obtain ⟨tb1, tb2⟩ := takes_bound hok
  obtain ⟨lb1, lb2⟩ := leaves_bound i
  obtain ⟨t1, b1⟩ := hg.ways.blk
  obtain ⟨t2, b2⟩ := hg.ways.vals
  have c0 : w.cell? ⟨r, 0, none⟩ = some (.slice (some ⟨gb, go, none⟩) c.length cap) := hcell b1 0
  have c1 : w.cell? ⟨r, 1, none⟩ = some (.slice (some ⟨vb, 0, none⟩) c.length c.length) := hcell b1 1
  have cx : w.cell? ⟨vb, x, none⟩ = some (.int .i64 n) := ((hcell b2 x).trans (notedCells_get hxl)).trans (by rw [noted_some hx])
  have HG := hide hg
  have HB := hide hB
  have HN := hide hN
  have HU := hide hu
  have HI := hide hi
  have HX := hide hx
  have HOK := hide hok
  have HR : Hid (Reach c hs x n) := hg.book.known.reach x n hx
  have x0 : (0 : Int) ≤ (x : Int) := by omega
  have x1 : (x : Int) < (c.length : Int) := by omega
  have k1 : c.length ≤ 5000 := hN
  have HGT : Hid (goesTo i = -1) := by
    show goesTo i = -1
    unfold goesTo; rw [if_neg (by omega)]
  have HGO : Hid (goesOn i = false) := by
    show goesOn i = false
    unfold goesOn
    rcases ho with e | e <;> rw [e] <;> rfl
  clear hg hB hN hu hi hx hok b1 b2
  go_enter Tryd.func44, Tryd.ntmps44
  go_wp2_with fail
  have hba : Below w.heap.size w (w.alloc (.cells #[.int .i64 i.op, .int .i64 i.a, .int .i64 i.b] 87)) := (Below.refl _ _).alloc (Nat.le_refl _) _
  refine (stack_any i (unhide HOK) _).mono ?_
  rintro e w2 ⟨rfl, hb2⟩
  have hsa : (w.alloc (.cells #[.int .i64 i.op, .int .i64 i.a, .int .i64 i.b] 87)).heap.size = w.heap.size + 1 := by simp
  have hbw : Below w.heap.size w w2 := hba.trans (hb2.mono (by omega))
  have d1 := cellk hbw c1 (cell_lt c1)
  have dx := cellk hbw cx (cell_lt cx)
  have dI := (hb2.block w.heap.size (by omega)).trans (hnew w _)
  have di0 : w2.cell? ⟨w.heap.size, 0, none⟩ = some (.int .i64 i.op) := hcell dI 0
  have di1 : w2.cell? ⟨w.heap.size, 1, none⟩ = some (.int .i64 i.a) := hcell dI 1
  have HG2 := hide ((unhide HG).keep hbw)
  have HBW := hide hbw
  have HB2 : Hid (B ≤ w2.heap.size) := Nat.le_trans (unhide HB) hbw.size
  clear hba hb2 hsa hbw dI c0 c1 cx j0 j1 j2 HG
  have HS := hide hs1
  have hneg : ¬ ((n : Int) - takes i < 0) := by omega
  have dneg : decide ((n : Int) - takes i < 0) = false := by simpa using hneg
  clear hs1 hneg HN HU HR HB2 lb1 lb2
  rcases ho with ho | ho
  · have ho : i.op = 40 := ho
    have e40 : (i.op == 40) = true := by rw [ho]; rfl
    clear ho
    go_wp2_with fail
    go_ret
    refine (unhide HG2).done ((unhide HBW).mono (unhide HB)) (unhide HI) (unhide HX) (unhide HS) fun q k hm => ?_
    rw [nexts_mem] at hm
    have q1 := unhide HGT
    have q2 := unhide HGO
    rcases hm with ⟨z, _⟩ | ⟨z, _⟩
    · omega
    · rw [q2] at z; cases z
  · have ho : i.op = 41 := ho
    have e40 : (i.op == 40) = false := by rw [ho]; rfl
    have e41 : (i.op == 41) = true := by rw [ho]; rfl
    clear ho
    go_wp2_with fail
    go_ret
    refine (unhide HG2).done ((unhide HBW).mono (unhide HB)) (unhide HI) (unhide HX) (unhide HS) fun q k hm => ?_
    rw [nexts_mem] at hm
    have q1 := unhide HGT
    have q2 := unhide HGO
    rcases hm with ⟨z, _⟩ | ⟨z, _⟩
    · omega
    · rw [q2] at z; cases z

set_option maxRecDepth 100000 in
set_option maxHeartbeats 4000000 in
theorem goOn_jump {B : Nat} {c : List PI} {hs : List PH} {w : World} {r vb gb go cap : Nat} {f : Nat → Option Nat} {o : List Nat} {vopen : Value} {u x n : Nat} {i : PI} (h : GoAsk B c hs w r vb gb go cap f o vopen u x n i) {m : PM} {s : Int} (hok : nameOk m s c.length i = true) (hs1 : takes i ≤ n) (ho : i.op = 15) :
    Calls Tryd.prog 44 #[.pointer (some ⟨r, 0, none⟩), .int .i64 x] w fun e w' => GoPost B c hs w r vb (.slice (some ⟨gb, go, none⟩) c.length cap) f u e w' := by
  obtain ⟨hg, hB, hN, hu, hi, hx, hn, j0, j1, j2⟩ := h
  have hxl := (List.getElem?_eq_some_iff.1 hi).1
  obtain ⟨tb1, tb2⟩ := takes_bound hok
  obtain ⟨lb1, lb2⟩ := leaves_bound i
  obtain ⟨t1, b1⟩ := hg.ways.blk
  obtain ⟨t2, b2⟩ := hg.ways.vals
  have c0 : w.cell? ⟨r, 0, none⟩ = some (.slice (some ⟨gb, go, none⟩) c.length cap) := hcell b1 0
  have c1 : w.cell? ⟨r, 1, none⟩ = some (.slice (some ⟨vb, 0, none⟩) c.length c.length) := hcell b1 1
  have cx : w.cell? ⟨vb, x, none⟩ = some (.int .i64 n) := ((hcell b2 x).trans (notedCells_get hxl)).trans (by rw [noted_some hx])
  have HG := hide hg
  have HB := hide hB
  have HN := hide hN
  have HU := hide hu
  have HI := hide hi
  have HX := hide hx
  have HOK := hide hok
  have HR : Hid (Reach c hs x n) := hg.book.known.reach x n hx
  have x0 : (0 : Int) ≤ (x : Int) := by omega
  have x1 : (x : Int) < (c.length : Int) := by omega
  have k1 : c.length ≤ 5000 := hN
  have hgt : goesTo i = i.a := by
    unfold goesTo; rw [if_pos (by omega)]
  have hgb : 0 ≤ i.a ∧ i.a < c.length := by
    have := goesTo_bound hok
    rw [hgt] at this
    rcases this with e | e
    · exfalso
      have hz : belowB i.a c.length = true := by
        have e4 : namesOf i.op = 4 := by
          rw [ho]; rfl
        have hok2 := hok
        unfold nameOk at hok2
        rw [e4] at hok2
        exact hok2
      have := belowB_true hz
      omega
    · exact e
  have HGT := hide hgt
  have HTH : Hid (there i = 0) := by
    show there i = _
    unfold there; rw [if_neg (by omega)]
  have HGO : Hid (goesOn i = false) := by
    show goesOn i = _
    unfold goesOn
    rw [ho]; rfl
  have HLV : Hid (leaves i = 0) := by
    show leaves i = 0
    unfold leaves; rw [if_neg (by omega)]
  have HR1 : Hid (Reach c hs i.a.toNat ((n : Int) - takes i).toNat) := by
    refine (unhide HR).next (unhide HI) hs1 (nexts_mem.2 (Or.inl ⟨by omega, by rw [hgt], ?_⟩))
    have := unhide HTH
    omega
  have HOP := hide ho
  clear hgt ho
  clear hg hB hN hu hi hx hok b1 b2
  go_enter Tryd.func44, Tryd.ntmps44
  go_wp2_with fail
  have hba : Below w.heap.size w (w.alloc (.cells #[.int .i64 i.op, .int .i64 i.a, .int .i64 i.b] 87)) := (Below.refl _ _).alloc (Nat.le_refl _) _
  refine (stack_any i (unhide HOK) _).mono ?_
  rintro e w2 ⟨rfl, hb2⟩
  have hsa : (w.alloc (.cells #[.int .i64 i.op, .int .i64 i.a, .int .i64 i.b] 87)).heap.size = w.heap.size + 1 := by simp
  have hbw : Below w.heap.size w w2 := hba.trans (hb2.mono (by omega))
  have d1 := cellk hbw c1 (cell_lt c1)
  have dx := cellk hbw cx (cell_lt cx)
  have dI := (hb2.block w.heap.size (by omega)).trans (hnew w _)
  have di0 : w2.cell? ⟨w.heap.size, 0, none⟩ = some (.int .i64 i.op) := hcell dI 0
  have di1 : w2.cell? ⟨w.heap.size, 1, none⟩ = some (.int .i64 i.a) := hcell dI 1
  have HG2 := hide ((unhide HG).keep hbw)
  have HBW := hide hbw
  have HB2 : Hid (B ≤ w2.heap.size) := Nat.le_trans (unhide HB) hbw.size
  clear hba hb2 hsa hbw dI c0 c1 cx j0 j1 j2 HG
  have HS := hide hs1
  have hneg : ¬ ((n : Int) - takes i < 0) := by omega
  have dneg : decide ((n : Int) - takes i < 0) = false := by simpa using hneg
  have ho := unhide HOP
  have e40 : (i.op == 40) = false := by rw [ho]; rfl
  have e41 : (i.op == 41) = false := by rw [ho]; rfl
  have e15 : (i.op == 15) = true := by rw [ho]; rfl
  clear ho
  go_wp2_with fail
  refine (come_int (unhide HG2).ways (unhide HB2) rfl (unhide HN) ((unhide HG2).olen (unhide HU)) _ _ (by omega) (by omega) (by omega) (by omega)).mono ?_
  rintro e w3 hc
  obtain ⟨hb3, hc⟩ := (unhide HG2).come (unhide HR1) hc
  have HBB3 := hide hb3
  clear hb3
  rcases hc with ⟨rfl, hbad⟩ | ⟨rfl, f3, o3, v3, hg3, hf3, hm3⟩
  · have HBAD := hide hbad
    clear hbad
    go_wp2_with fail
    go_ret
    exact GoPost.bad (((unhide HBW).mono (unhide HB)).trans (unhide HBB3)) (unhide HBAD)
  · have HG3 := hide hg3
    have HF3 := hide hf3
    have HM3 := hide hm3
    clear hg3 hf3 hm3
    go_wp2_with fail
    go_ret
    refine (unhide HG3).done (((unhide HBW).mono (unhide HB)).trans (unhide HBB3)) (unhide HI) (unhide HM3 _ _ (unhide HX)) (unhide HS) fun q k hm => ?_
    rw [nexts_mem] at hm
    rcases hm with ⟨_, rfl, rfl⟩ | ⟨z, rfl, rfl⟩
    · have q1 := unhide HGT
      have q2 := unhide HTH
      exact at_eq (unhide HF3) (by rw [q1]) (by omega)
    · rw [unhide HGO] at z; cases z

set_option maxRecDepth 100000 in
set_option maxHeartbeats 4000000 in
theorem goOn_unless {B : Nat} {c : List PI} {hs : List PH} {w : World} {r vb gb go cap : Nat} {f : Nat → Option Nat} {o : List Nat} {vopen : Value} {u x n : Nat} {i : PI} (h : GoAsk B c hs w r vb gb go cap f o vopen u x n i) {m : PM} {s : Int} (hok : nameOk m s c.length i = true) (hs1 : takes i ≤ n) (ho : i.op = 16) :
    Calls Tryd.prog 44 #[.pointer (some ⟨r, 0, none⟩), .int .i64 x] w fun e w' => GoPost B c hs w r vb (.slice (some ⟨gb, go, none⟩) c.length cap) f u e w' := by
  obtain ⟨hg, hB, hN, hu, hi, hx, hn, j0, j1, j2⟩ := h
  have hxl := (List.getElem?_eq_some_iff.1 hi).1
  obtain ⟨tb1, tb2⟩ := takes_bound hok
  obtain ⟨lb1, lb2⟩ := leaves_bound i
  obtain ⟨t1, b1⟩ := hg.ways.blk
  obtain ⟨t2, b2⟩ := hg.ways.vals
  have c0 : w.cell? ⟨r, 0, none⟩ = some (.slice (some ⟨gb, go, none⟩) c.length cap) := hcell b1 0
  have c1 : w.cell? ⟨r, 1, none⟩ = some (.slice (some ⟨vb, 0, none⟩) c.length c.length) := hcell b1 1
  have cx : w.cell? ⟨vb, x, none⟩ = some (.int .i64 n) := ((hcell b2 x).trans (notedCells_get hxl)).trans (by rw [noted_some hx])
  have HG := hide hg
  have HB := hide hB
  have HN := hide hN
  have HU := hide hu
  have HI := hide hi
  have HX := hide hx
  have HOK := hide hok
  have HR : Hid (Reach c hs x n) := hg.book.known.reach x n hx
  have x0 : (0 : Int) ≤ (x : Int) := by omega
  have x1 : (x : Int) < (c.length : Int) := by omega
  have k1 : c.length ≤ 5000 := hN
  have hgt : goesTo i = i.a := by
    unfold goesTo; rw [if_pos (by omega)]
  have hgb : 0 ≤ i.a ∧ i.a < c.length := by
    have := goesTo_bound hok
    rw [hgt] at this
    rcases this with e | e
    · exfalso
      have hz : belowB i.a c.length = true := by
        have e4 : namesOf i.op = 4 := by
          rw [ho]; rfl
        have hok2 := hok
        unfold nameOk at hok2
        rw [e4] at hok2
        exact hok2
      have := belowB_true hz
      omega
    · exact e
  have HGT := hide hgt
  have HTH : Hid (there i = 0) := by
    show there i = _
    unfold there; rw [if_neg (by omega)]
  have HGO : Hid (goesOn i = true) := by
    show goesOn i = _
    unfold goesOn
    rw [ho]; rfl
  have HLV : Hid (leaves i = 0) := by
    show leaves i = 0
    unfold leaves; rw [if_neg (by omega)]
  have HR1 : Hid (Reach c hs i.a.toNat ((n : Int) - takes i).toNat) := by
    refine (unhide HR).next (unhide HI) hs1 (nexts_mem.2 (Or.inl ⟨by omega, by rw [hgt], ?_⟩))
    have := unhide HTH
    omega
  have HR2 : Hid (Reach c hs ((x : Int) + 1).toNat ((n : Int) - takes i).toNat) := by
    refine (unhide HR).next (unhide HI) hs1 (nexts_mem.2 (Or.inr ⟨unhide HGO, by omega, ?_⟩))
    have := unhide HLV
    omega
  have HOP := hide ho
  clear hgt ho
  clear hg hB hN hu hi hx hok b1 b2
  go_enter Tryd.func44, Tryd.ntmps44
  go_wp2_with fail
  have hba : Below w.heap.size w (w.alloc (.cells #[.int .i64 i.op, .int .i64 i.a, .int .i64 i.b] 87)) := (Below.refl _ _).alloc (Nat.le_refl _) _
  refine (stack_any i (unhide HOK) _).mono ?_
  rintro e w2 ⟨rfl, hb2⟩
  have hsa : (w.alloc (.cells #[.int .i64 i.op, .int .i64 i.a, .int .i64 i.b] 87)).heap.size = w.heap.size + 1 := by simp
  have hbw : Below w.heap.size w w2 := hba.trans (hb2.mono (by omega))
  have d1 := cellk hbw c1 (cell_lt c1)
  have dx := cellk hbw cx (cell_lt cx)
  have dI := (hb2.block w.heap.size (by omega)).trans (hnew w _)
  have di0 : w2.cell? ⟨w.heap.size, 0, none⟩ = some (.int .i64 i.op) := hcell dI 0
  have di1 : w2.cell? ⟨w.heap.size, 1, none⟩ = some (.int .i64 i.a) := hcell dI 1
  have HG2 := hide ((unhide HG).keep hbw)
  have HBW := hide hbw
  have HB2 : Hid (B ≤ w2.heap.size) := Nat.le_trans (unhide HB) hbw.size
  clear hba hb2 hsa hbw dI c0 c1 cx j0 j1 j2 HG
  have HS := hide hs1
  have hneg : ¬ ((n : Int) - takes i < 0) := by omega
  have dneg : decide ((n : Int) - takes i < 0) = false := by simpa using hneg
  have ho := unhide HOP
  have e40 : (i.op == 40) = false := by rw [ho]; rfl
  have e41 : (i.op == 41) = false := by rw [ho]; rfl
  have e15 : (i.op == 15) = false := by rw [ho]; rfl
  have e16 : (i.op == 16) = true := by rw [ho]; rfl
  clear ho
  go_wp2_with fail
  refine (come_int (unhide HG2).ways (unhide HB2) rfl (unhide HN) ((unhide HG2).olen (unhide HU)) _ _ (by omega) (by omega) (by omega) (by omega)).mono ?_
  rintro e w3 hc
  obtain ⟨hb3, hc⟩ := (unhide HG2).come (unhide HR1) hc
  have HBB3 := hide hb3
  clear hb3
  rcases hc with ⟨rfl, hbad⟩ | ⟨rfl, f3, o3, v3, hg3, hf3, hm3⟩
  · have HBAD := hide hbad
    clear hbad
    go_wp2_with fail
    go_ret
    exact GoPost.bad (((unhide HBW).mono (unhide HB)).trans (unhide HBB3)) (unhide HBAD)
  · have HG3 := hide hg3
    have HF3 := hide hf3
    have HM3 := hide hm3
    have HB3 : Hid (B ≤ w3.heap.size) := Nat.le_trans (unhide HB2) (unhide HBB3).size
    clear hg3 hf3 hm3
    go_wp2_with fail
    refine (come_int (unhide HG3).ways (unhide HB3) rfl (unhide HN) ((unhide HG3).olen (unhide HU)) _ _ (by omega) (by omega) (by omega) (by omega)).mono ?_
    rintro e w4 hc
    obtain ⟨hb4, hc⟩ := (unhide HG3).come (unhide HR2) hc
    have HBB4 := hide hb4
    clear hb4
    rcases hc with ⟨rfl, hbad⟩ | ⟨rfl, f4, o4, v4, hg4, hf4, hm4⟩
    · have HBAD := hide hbad
      clear hbad
      go_wp2_with fail
      go_ret
      exact GoPost.bad ((((unhide HBW).mono (unhide HB)).trans (unhide HBB3)).trans (unhide HBB4)) (unhide HBAD)
    · have HG4 := hide hg4
      have HF4 := hide hf4
      have HM4 := hide hm4
      clear hg4 hf4 hm4
      go_wp2_with fail
      go_ret
      refine (unhide HG4).done ((((unhide HBW).mono (unhide HB)).trans (unhide HBB3)).trans (unhide HBB4)) (unhide HI) (unhide HM4 _ _ (unhide HM3 _ _ (unhide HX))) (unhide HS) fun q k hm => ?_
      rw [nexts_mem] at hm
      rcases hm with ⟨_, rfl, rfl⟩ | ⟨z, rfl, rfl⟩
      · have q1 := unhide HGT
        have q2 := unhide HTH
        exact at_eq (unhide HM4 _ _ (unhide HF3)) (by rw [q1]) (by omega)
      · have q1 := unhide HLV
        exact at_eq (unhide HF4) (by omega) (by omega)

set_option maxRecDepth 100000 in
set_option maxHeartbeats 4000000 in
theorem goOn_ifTrue {B : Nat} {c : List PI} {hs : List PH} {w : World} {r vb gb go cap : Nat} {f : Nat → Option Nat} {o : List Nat} {vopen : Value} {u x n : Nat} {i : PI} (h : GoAsk B c hs w r vb gb go cap f o vopen u x n i) {m : PM} {s : Int} (hok : nameOk m s c.length i = true) (hs1 : takes i ≤ n) (ho : i.op = 17) :
    Calls Tryd.prog 44 #[.pointer (some ⟨r, 0, none⟩), .int .i64 x] w fun e w' => GoPost B c hs w r vb (.slice (some ⟨gb, go, none⟩) c.length cap) f u e w' := by
  obtain ⟨hg, hB, hN, hu, hi, hx, hn, j0, j1, j2⟩ := h
  have hxl := (List.getElem?_eq_some_iff.1 hi).1
  obtain ⟨tb1, tb2⟩ := takes_bound hok
  obtain ⟨lb1, lb2⟩ := leaves_bound i
  obtain ⟨t1, b1⟩ := hg.ways.blk
  obtain ⟨t2, b2⟩ := hg.ways.vals
  have c0 : w.cell? ⟨r, 0, none⟩ = some (.slice (some ⟨gb, go, none⟩) c.length cap) := hcell b1 0
  have c1 : w.cell? ⟨r, 1, none⟩ = some (.slice (some ⟨vb, 0, none⟩) c.length c.length) := hcell b1 1
  have cx : w.cell? ⟨vb, x, none⟩ = some (.int .i64 n) := ((hcell b2 x).trans (notedCells_get hxl)).trans (by rw [noted_some hx])
  have HG := hide hg
  have HB := hide hB
  have HN := hide hN
  have HU := hide hu
  have HI := hide hi
  have HX := hide hx
  have HOK := hide hok
  have HR : Hid (Reach c hs x n) := hg.book.known.reach x n hx
  have x0 : (0 : Int) ≤ (x : Int) := by omega
  have x1 : (x : Int) < (c.length : Int) := by omega
  have k1 : c.length ≤ 5000 := hN
  have hgt : goesTo i = i.a := by
    unfold goesTo; rw [if_pos (by omega)]
  have hgb : 0 ≤ i.a ∧ i.a < c.length := by
    have := goesTo_bound hok
    rw [hgt] at this
    rcases this with e | e
    · exfalso
      have hz : belowB i.a c.length = true := by
        have e4 : namesOf i.op = 4 := by
          rw [ho]; rfl
        have hok2 := hok
        unfold nameOk at hok2
        rw [e4] at hok2
        exact hok2
      have := belowB_true hz
      omega
    · exact e
  have HGT := hide hgt
  have HTH : Hid (there i = 1) := by
    show there i = _
    unfold there; rw [if_pos (by omega)]
  have HGO : Hid (goesOn i = true) := by
    show goesOn i = _
    unfold goesOn
    rw [ho]; rfl
  have HLV : Hid (leaves i = 0) := by
    show leaves i = 0
    unfold leaves; rw [if_neg (by omega)]
  have HR1 : Hid (Reach c hs i.a.toNat ((n : Int) - takes i + 1).toNat) := by
    refine (unhide HR).next (unhide HI) hs1 (nexts_mem.2 (Or.inl ⟨by omega, by rw [hgt], ?_⟩))
    have := unhide HTH
    omega
  have HR2 : Hid (Reach c hs ((x : Int) + 1).toNat ((n : Int) - takes i).toNat) := by
    refine (unhide HR).next (unhide HI) hs1 (nexts_mem.2 (Or.inr ⟨unhide HGO, by omega, ?_⟩))
    have := unhide HLV
    omega
  have HOP := hide ho
  clear hgt ho
  clear hg hB hN hu hi hx hok b1 b2
  go_enter Tryd.func44, Tryd.ntmps44
  go_wp2_with fail
  have hba : Below w.heap.size w (w.alloc (.cells #[.int .i64 i.op, .int .i64 i.a, .int .i64 i.b] 87)) := (Below.refl _ _).alloc (Nat.le_refl _) _
  refine (stack_any i (unhide HOK) _).mono ?_
  rintro e w2 ⟨rfl, hb2⟩
  have hsa : (w.alloc (.cells #[.int .i64 i.op, .int .i64 i.a, .int .i64 i.b] 87)).heap.size = w.heap.size + 1 := by simp
  have hbw : Below w.heap.size w w2 := hba.trans (hb2.mono (by omega))
  have d1 := cellk hbw c1 (cell_lt c1)
  have dx := cellk hbw cx (cell_lt cx)
  have dI := (hb2.block w.heap.size (by omega)).trans (hnew w _)
  have di0 : w2.cell? ⟨w.heap.size, 0, none⟩ = some (.int .i64 i.op) := hcell dI 0
  have di1 : w2.cell? ⟨w.heap.size, 1, none⟩ = some (.int .i64 i.a) := hcell dI 1
  have HG2 := hide ((unhide HG).keep hbw)
  have HBW := hide hbw
  have HB2 : Hid (B ≤ w2.heap.size) := Nat.le_trans (unhide HB) hbw.size
  clear hba hb2 hsa hbw dI c0 c1 cx j0 j1 j2 HG
  have HS := hide hs1
  have hneg : ¬ ((n : Int) - takes i < 0) := by omega
  have dneg : decide ((n : Int) - takes i < 0) = false := by simpa using hneg
  have ho := unhide HOP
  have e40 : (i.op == 40) = false := by rw [ho]; rfl
  have e41 : (i.op == 41) = false := by rw [ho]; rfl
  have e15 : (i.op == 15) = false := by rw [ho]; rfl
  have e16 : (i.op == 16) = false := by rw [ho]; rfl
  have e17 : (i.op == 17) = true := by rw [ho]; rfl
  clear ho
  go_wp2_with fail
  refine (come_int (unhide HG2).ways (unhide HB2) rfl (unhide HN) ((unhide HG2).olen (unhide HU)) _ _ (by omega) (by omega) (by omega) (by omega)).mono ?_
  rintro e w3 hc
  obtain ⟨hb3, hc⟩ := (unhide HG2).come (unhide HR1) hc
  have HBB3 := hide hb3
  clear hb3
  rcases hc with ⟨rfl, hbad⟩ | ⟨rfl, f3, o3, v3, hg3, hf3, hm3⟩
  · have HBAD := hide hbad
    clear hbad
    go_wp2_with fail
    go_ret
    exact GoPost.bad (((unhide HBW).mono (unhide HB)).trans (unhide HBB3)) (unhide HBAD)
  · have HG3 := hide hg3
    have HF3 := hide hf3
    have HM3 := hide hm3
    have HB3 : Hid (B ≤ w3.heap.size) := Nat.le_trans (unhide HB2) (unhide HBB3).size
    clear hg3 hf3 hm3
    go_wp2_with fail
    refine (come_int (unhide HG3).ways (unhide HB3) rfl (unhide HN) ((unhide HG3).olen (unhide HU)) _ _ (by omega) (by omega) (by omega) (by omega)).mono ?_
    rintro e w4 hc
    obtain ⟨hb4, hc⟩ := (unhide HG3).come (unhide HR2) hc
    have HBB4 := hide hb4
    clear hb4
    rcases hc with ⟨rfl, hbad⟩ | ⟨rfl, f4, o4, v4, hg4, hf4, hm4⟩
    · have HBAD := hide hbad
      clear hbad
      go_wp2_with fail
      go_ret
      exact GoPost.bad ((((unhide HBW).mono (unhide HB)).trans (unhide HBB3)).trans (unhide HBB4)) (unhide HBAD)
    · have HG4 := hide hg4
      have HF4 := hide hf4
      have HM4 := hide hm4
      clear hg4 hf4 hm4
      go_wp2_with fail
      go_ret
      refine (unhide HG4).done ((((unhide HBW).mono (unhide HB)).trans (unhide HBB3)).trans (unhide HBB4)) (unhide HI) (unhide HM4 _ _ (unhide HM3 _ _ (unhide HX))) (unhide HS) fun q k hm => ?_
      rw [nexts_mem] at hm
      rcases hm with ⟨_, rfl, rfl⟩ | ⟨z, rfl, rfl⟩
      · have q1 := unhide HGT
        have q2 := unhide HTH
        exact at_eq (unhide HM4 _ _ (unhide HF3)) (by rw [q1]) (by omega)
      · have q1 := unhide HLV
        exact at_eq (unhide HF4) (by omega) (by omega)

set_option maxRecDepth 100000 in
set_option maxHeartbeats 4000000 in
theorem goOn_ifFalse {B : Nat} {c : List PI} {hs : List PH} {w : World} {r vb gb go cap : Nat} {f : Nat → Option Nat} {o : List Nat} {vopen : Value} {u x n : Nat} {i : PI} (h : GoAsk B c hs w r vb gb go cap f o vopen u x n i) {m : PM} {s : Int} (hok : nameOk m s c.length i = true) (hs1 : takes i ≤ n) (ho : i.op = 18) :
    Calls Tryd.prog 44 #[.pointer (some ⟨r, 0, none⟩), .int .i64 x] w fun e w' => GoPost B c hs w r vb (.slice (some ⟨gb, go, none⟩) c.length cap) f u e w' := by
  obtain ⟨hg, hB, hN, hu, hi, hx, hn, j0, j1, j2⟩ := h
  have hxl := (List.getElem?_eq_some_iff.1 hi).1
  obtain ⟨tb1, tb2⟩ := takes_bound hok
  obtain ⟨lb1, lb2⟩ := leaves_bound i
  obtain ⟨t1, b1⟩ := hg.ways.blk
  obtain ⟨t2, b2⟩ := hg.ways.vals
  have c0 : w.cell? ⟨r, 0, none⟩ = some (.slice (some ⟨gb, go, none⟩) c.length cap) := hcell b1 0
  have c1 : w.cell? ⟨r, 1, none⟩ = some (.slice (some ⟨vb, 0, none⟩) c.length c.length) := hcell b1 1
  have cx : w.cell? ⟨vb, x, none⟩ = some (.int .i64 n) := ((hcell b2 x).trans (notedCells_get hxl)).trans (by rw [noted_some hx])
  have HG := hide hg
  have HB := hide hB
  have HN := hide hN
  have HU := hide hu
  have HI := hide hi
  have HX := hide hx
  have HOK := hide hok
  have HR : Hid (Reach c hs x n) := hg.book.known.reach x n hx
  have x0 : (0 : Int) ≤ (x : Int) := by omega
  have x1 : (x : Int) < (c.length : Int) := by omega
  have k1 : c.length ≤ 5000 := hN
  have hgt : goesTo i = i.a := by
    unfold goesTo; rw [if_pos (by omega)]
  have hgb : 0 ≤ i.a ∧ i.a < c.length := by
    have := goesTo_bound hok
    rw [hgt] at this
    rcases this with e | e
    · exfalso
      have hz : belowB i.a c.length = true := by
        have e4 : namesOf i.op = 4 := by
          rw [ho]; rfl
        have hok2 := hok
        unfold nameOk at hok2
        rw [e4] at hok2
        exact hok2
      have := belowB_true hz
      omega
    · exact e
  have HGT := hide hgt
  have HTH : Hid (there i = 1) := by
    show there i = _
    unfold there; rw [if_pos (by omega)]
  have HGO : Hid (goesOn i = true) := by
    show goesOn i = _
    unfold goesOn
    rw [ho]; rfl
  have HLV : Hid (leaves i = 0) := by
    show leaves i = 0
    unfold leaves; rw [if_neg (by omega)]
  have HR1 : Hid (Reach c hs i.a.toNat ((n : Int) - takes i + 1).toNat) := by
    refine (unhide HR).next (unhide HI) hs1 (nexts_mem.2 (Or.inl ⟨by omega, by rw [hgt], ?_⟩))
    have := unhide HTH
    omega
  have HR2 : Hid (Reach c hs ((x : Int) + 1).toNat ((n : Int) - takes i).toNat) := by
    refine (unhide HR).next (unhide HI) hs1 (nexts_mem.2 (Or.inr ⟨unhide HGO, by omega, ?_⟩))
    have := unhide HLV
    omega
  have HOP := hide ho
  clear hgt ho
  clear hg hB hN hu hi hx hok b1 b2
  go_enter Tryd.func44, Tryd.ntmps44
  go_wp2_with fail
  have hba : Below w.heap.size w (w.alloc (.cells #[.int .i64 i.op, .int .i64 i.a, .int .i64 i.b] 87)) := (Below.refl _ _).alloc (Nat.le_refl _) _
  refine (stack_any i (unhide HOK) _).mono ?_
  rintro e w2 ⟨rfl, hb2⟩
  have hsa : (w.alloc (.cells #[.int .i64 i.op, .int .i64 i.a, .int .i64 i.b] 87)).heap.size = w.heap.size + 1 := by simp
  have hbw : Below w.heap.size w w2 := hba.trans (hb2.mono (by omega))
  have d1 := cellk hbw c1 (cell_lt c1)
  have dx := cellk hbw cx (cell_lt cx)
  have dI := (hb2.block w.heap.size (by omega)).trans (hnew w _)
  have di0 : w2.cell? ⟨w.heap.size, 0, none⟩ = some (.int .i64 i.op) := hcell dI 0
  have di1 : w2.cell? ⟨w.heap.size, 1, none⟩ = some (.int .i64 i.a) := hcell dI 1
  have HG2 := hide ((unhide HG).keep hbw)
  have HBW := hide hbw
  have HB2 : Hid (B ≤ w2.heap.size) := Nat.le_trans (unhide HB) hbw.size
  clear hba hb2 hsa hbw dI c0 c1 cx j0 j1 j2 HG
  have HS := hide hs1
  have hneg : ¬ ((n : Int) - takes i < 0) := by omega
  have dneg : decide ((n : Int) - takes i < 0) = false := by simpa using hneg
  have ho := unhide HOP
  have e40 : (i.op == 40) = false := by rw [ho]; rfl
  have e41 : (i.op == 41) = false := by rw [ho]; rfl
  have e15 : (i.op == 15) = false := by rw [ho]; rfl
  have e16 : (i.op == 16) = false := by rw [ho]; rfl
  have e17 : (i.op == 17) = false := by rw [ho]; rfl
  have e18 : (i.op == 18) = true := by rw [ho]; rfl
  clear ho
  go_wp2_with fail
  refine (come_int (unhide HG2).ways (unhide HB2) rfl (unhide HN) ((unhide HG2).olen (unhide HU)) _ _ (by omega) (by omega) (by omega) (by omega)).mono ?_
  rintro e w3 hc
  obtain ⟨hb3, hc⟩ := (unhide HG2).come (unhide HR1) hc
  have HBB3 := hide hb3
  clear hb3
  rcases hc with ⟨rfl, hbad⟩ | ⟨rfl, f3, o3, v3, hg3, hf3, hm3⟩
  · have HBAD := hide hbad
    clear hbad
    go_wp2_with fail
    go_ret
    exact GoPost.bad (((unhide HBW).mono (unhide HB)).trans (unhide HBB3)) (unhide HBAD)
  · have HG3 := hide hg3
    have HF3 := hide hf3
    have HM3 := hide hm3
    have HB3 : Hid (B ≤ w3.heap.size) := Nat.le_trans (unhide HB2) (unhide HBB3).size
    clear hg3 hf3 hm3
    go_wp2_with fail
    refine (come_int (unhide HG3).ways (unhide HB3) rfl (unhide HN) ((unhide HG3).olen (unhide HU)) _ _ (by omega) (by omega) (by omega) (by omega)).mono ?_
    rintro e w4 hc
    obtain ⟨hb4, hc⟩ := (unhide HG3).come (unhide HR2) hc
    have HBB4 := hide hb4
    clear hb4
    rcases hc with ⟨rfl, hbad⟩ | ⟨rfl, f4, o4, v4, hg4, hf4, hm4⟩
    · have HBAD := hide hbad
      clear hbad
      go_wp2_with fail
      go_ret
      exact GoPost.bad ((((unhide HBW).mono (unhide HB)).trans (unhide HBB3)).trans (unhide HBB4)) (unhide HBAD)
    · have HG4 := hide hg4
      have HF4 := hide hf4
      have HM4 := hide hm4
      clear hg4 hf4 hm4
      go_wp2_with fail
      go_ret
      refine (unhide HG4).done ((((unhide HBW).mono (unhide HB)).trans (unhide HBB3)).trans (unhide HBB4)) (unhide HI) (unhide HM4 _ _ (unhide HM3 _ _ (unhide HX))) (unhide HS) fun q k hm => ?_
      rw [nexts_mem] at hm
      rcases hm with ⟨_, rfl, rfl⟩ | ⟨z, rfl, rfl⟩
      · have q1 := unhide HGT
        have q2 := unhide HTH
        exact at_eq (unhide HM4 _ _ (unhide HF3)) (by rw [q1]) (by omega)
      · have q1 := unhide HLV
        exact at_eq (unhide HF4) (by omega) (by omega)

set_option maxRecDepth 100000 in
set_option maxHeartbeats 4000000 in
theorem goOn_on {B : Nat} {c : List PI} {hs : List PH} {w : World} {r vb gb go cap : Nat} {f : Nat → Option Nat} {o : List Nat} {vopen : Value} {u x n : Nat} {i : PI} (h : GoAsk B c hs w r vb gb go cap f o vopen u x n i) {m : PM} {s : Int} (hok : nameOk m s c.length i = true) (hs1 : takes i ≤ n) (ho : i.op ≠ 15 ∧ i.op ≠ 16 ∧ i.op ≠ 17 ∧ i.op ≠ 18 ∧ i.op ≠ 40 ∧ i.op ≠ 41) :
    Calls Tryd.prog 44 #[.pointer (some ⟨r, 0, none⟩), .int .i64 x] w fun e w' => GoPost B c hs w r vb (.slice (some ⟨gb, go, none⟩) c.length cap) f u e w' := by
  obtain ⟨hg, hB, hN, hu, hi, hx, hn, j0, j1, j2⟩ := h
  have hxl := (List.getElem?_eq_some_iff.1 hi).1
  obtain ⟨tb1, tb2⟩ := takes_bound hok
  obtain ⟨lb1, lb2⟩ := leaves_bound i
  obtain ⟨t1, b1⟩ := hg.ways.blk
  obtain ⟨t2, b2⟩ := hg.ways.vals
  have c0 : w.cell? ⟨r, 0, none⟩ = some (.slice (some ⟨gb, go, none⟩) c.length cap) := hcell b1 0
  have c1 : w.cell? ⟨r, 1, none⟩ = some (.slice (some ⟨vb, 0, none⟩) c.length c.length) := hcell b1 1
  have cx : w.cell? ⟨vb, x, none⟩ = some (.int .i64 n) := ((hcell b2 x).trans (notedCells_get hxl)).trans (by rw [noted_some hx])
  have HG := hide hg
  have HB := hide hB
  have HN := hide hN
  have HU := hide hu
  have HI := hide hi
  have HX := hide hx
  have HOK := hide hok
  have HR : Hid (Reach c hs x n) := hg.book.known.reach x n hx
  have x0 : (0 : Int) ≤ (x : Int) := by omega
  have x1 : (x : Int) < (c.length : Int) := by omega
  have k1 : c.length ≤ 5000 := hN
  have HGT : Hid (goesTo i = -1) := by
    show goesTo i = -1
    unfold goesTo; rw [if_neg (by omega)]
  have HGO : Hid (goesOn i = true) := by
    show goesOn i = true
    unfold goesOn
    have e1 : (i.op == 15) = false := beq_eq_false_iff_ne.2 (by omega)
    have e2 : (i.op == 40) = false := beq_eq_false_iff_ne.2 (by omega)
    have e3 : (i.op == 41) = false := beq_eq_false_iff_ne.2 (by omega)
    rw [e1, e2, e3]; rfl
  have HR1 : Hid (Reach c hs ((x : Int) + 1).toNat ((n : Int) - takes i + leaves i).toNat) :=
    (unhide HR).next (unhide HI) hs1 (nexts_mem.2 (Or.inr ⟨unhide HGO, by omega, rfl⟩))
  clear hg hB hN hu hi hx hok b1 b2
  go_enter Tryd.func44, Tryd.ntmps44
  go_wp2_with fail
  have hba : Below w.heap.size w (w.alloc (.cells #[.int .i64 i.op, .int .i64 i.a, .int .i64 i.b] 87)) := (Below.refl _ _).alloc (Nat.le_refl _) _
  refine (stack_any i (unhide HOK) _).mono ?_
  rintro e w2 ⟨rfl, hb2⟩
  have hsa : (w.alloc (.cells #[.int .i64 i.op, .int .i64 i.a, .int .i64 i.b] 87)).heap.size = w.heap.size + 1 := by simp
  have hbw : Below w.heap.size w w2 := hba.trans (hb2.mono (by omega))
  have d1 := cellk hbw c1 (cell_lt c1)
  have dx := cellk hbw cx (cell_lt cx)
  have dI := (hb2.block w.heap.size (by omega)).trans (hnew w _)
  have di0 : w2.cell? ⟨w.heap.size, 0, none⟩ = some (.int .i64 i.op) := hcell dI 0
  have di1 : w2.cell? ⟨w.heap.size, 1, none⟩ = some (.int .i64 i.a) := hcell dI 1
  have HG2 := hide ((unhide HG).keep hbw)
  have HBW := hide hbw
  have HB2 : Hid (B ≤ w2.heap.size) := Nat.le_trans (unhide HB) hbw.size
  clear hba hb2 hsa hbw dI c0 c1 cx j0 j1 j2 HG
  have HS := hide hs1
  have hneg : ¬ ((n : Int) - takes i < 0) := by omega
  have dneg : decide ((n : Int) - takes i < 0) = false := by simpa using hneg
  have e40 : (i.op == 40) = false := beq_eq_false_iff_ne.2 (by omega)
  have e41 : (i.op == 41) = false := beq_eq_false_iff_ne.2 (by omega)
  have e15 : (i.op == 15) = false := beq_eq_false_iff_ne.2 (by omega)
  have e16 : (i.op == 16) = false := beq_eq_false_iff_ne.2 (by omega)
  have e17 : (i.op == 17) = false := beq_eq_false_iff_ne.2 (by omega)
  have e18 : (i.op == 18) = false := beq_eq_false_iff_ne.2 (by omega)
  clear ho
  go_wp2_with fail
  refine (come_int (unhide HG2).ways (unhide HB2) rfl (unhide HN) ((unhide HG2).olen (unhide HU)) _ _ (by omega) (by omega) (by omega) (by omega)).mono ?_
  rintro e w3 hc
  obtain ⟨hb3, hc⟩ := (unhide HG2).come (unhide HR1) hc
  have HBB3 := hide hb3
  clear hb3
  rcases hc with ⟨rfl, hbad⟩ | ⟨rfl, f3, o3, v3, hg3, hf3, hm3⟩
  · have HBAD := hide hbad
    clear hbad
    go_wp2_with fail
    go_ret
    exact GoPost.bad (((unhide HBW).mono (unhide HB)).trans (unhide HBB3)) (unhide HBAD)
  · have HG3 := hide hg3
    have HF3 := hide hf3
    have HM3 := hide hm3
    clear hg3 hf3 hm3
    go_wp2_with fail
    go_ret
    refine (unhide HG3).done (((unhide HBW).mono (unhide HB)).trans (unhide HBB3)) (unhide HI) (unhide HM3 _ _ (unhide HX)) (unhide HS) fun q k hm => ?_
    rw [nexts_mem] at hm
    rcases hm with ⟨z, _⟩ | ⟨z, rfl, rfl⟩
    · have := unhide HGT
      omega
    · exact at_eq (unhide HF3) (by omega) rfl

theorem goOn_any {B : Nat} {c : List PI} {hs : List PH} {w : World} {r vb gb go cap : Nat} {f : Nat → Option Nat} {o : List Nat} {vopen : Value} {u x n : Nat} {i : PI} (h : GoAsk B c hs w r vb gb go cap f o vopen u x n i) {m : PM} {s : Int} (hok : nameOk m s c.length i = true) :
    Calls Tryd.prog 44 #[.pointer (some ⟨r, 0, none⟩), .int .i64 x] w fun e w' => GoPost B c hs w r vb (.slice (some ⟨gb, go, none⟩) c.length cap) f u e w' := by
  rcases Decidable.em ((n : Int) < takes i) with k | k
  · exact goOn_short h hok k
  · have k' : takes i ≤ n := by omega
    rcases Decidable.em (i.op = 40 ∨ i.op = 41) with k1 | k1
    · exact goOn_ends h hok k' k1
    · rcases Decidable.em (i.op = 15) with k2 | k2
      · exact goOn_jump h hok k' k2
      · rcases Decidable.em (i.op = 16) with k3 | k3
        · exact goOn_unless h hok k' k3
        · rcases Decidable.em (i.op = 17) with k4 | k4
          · exact goOn_ifTrue h hok k' k4
          · rcases Decidable.em (i.op = 18) with k5 | k5
            · exact goOn_ifFalse h hok k' k5
            · exact goOn_on h hok k' (by omega)
end Go.Proofs.YtcbgcjkcfolcoaaDoor
