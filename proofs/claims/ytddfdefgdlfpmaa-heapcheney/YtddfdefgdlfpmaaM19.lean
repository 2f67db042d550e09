/-
  What collections keep, as plain data: heaps that are good stay so; behind a Major there is just what a root leads to.
  One root, handed in some times.
  rewindkeep.moved: a field stays behind a Minor.
  HeapCheney: objects that are made and set, ahead of collections.
-/
import Derived.Test.YtddfdefgdlfpmaaM18
namespace Go.Proofs.Ytddfdefgdlfpmaa
open Go.RowKit Go.Maps

theorem map_inj {α β : Type} {f : α → β} : ∀ {l : List α}, (l.map f).Nodup → ∀ a ∈ l, ∀ b ∈ l, f a = f b → a = b
  | [], _, a, ha, _, _, _ => by cases ha
  | c :: r, h, a, ha, b, hb, e => by
    have h' := List.nodup_cons.1 h
    rcases List.mem_cons.1 ha with ha | ha <;> rcases List.mem_cons.1 hb with hb | hb
    · rw [ha, hb]
    · exact absurd (List.mem_map.2 ⟨b, hb, by rw [← e, ha]⟩) h'.1
    · exact absurd (List.mem_map.2 ⟨a, ha, by rw [e, hb]⟩) h'.1
    · exact map_inj h'.2 a ha b hb e
theorem sub_length : ∀ {l l' : List Int}, l.Nodup → (∀ a ∈ l, a ∈ l') → l.length ≤ l'.length
  | [], _, _, _ => Nat.zero_le _
  | a :: r, l', h, hs => by
    have h' := List.nodup_cons.1 h
    have ha := hs a (List.mem_cons_self ..)
    have h1 := sub_length (l := r) (l' := l'.erase a) h'.2 (fun b hb => (List.mem_erase_of_ne (by rintro rfl; exact h'.1 hb)).2 (hs b (List.mem_cons_of_mem _ hb)))
    rw [List.length_erase_of_mem ha] at h1
    have := List.length_pos_of_mem ha
    simp only [List.length_cons]
    omega
/-- A heap of which no identity is there twice, whose fields lead to objects, and whose identities are known. -/
structure Good (P : PHp) (D : DataW Unit) : Prop where
  nd : ((P.Y ++ P.O).map HO.id).Nodup
  pos : ∀ x ∈ P.Y ++ P.O, 0 < x.id ∧ x.id ≤ 1000
  keys : ∀ a, Maps.has D (.int .i64 a) = true ↔ ∃ o ∈ P.Y ++ P.O, o.id = a
  tied : Tied P
theorem Good.uniq {P : PHp} {D : DataW Unit} (h : Good P D) : Uniq P := fun _ _ x y hx hy e => map_inj h.nd x (objA_mem hx) y (objA_mem hy) e
theorem left_nil (l : List HO) : left l [] = 4 * l.length + 3 * (allF l).length := by
  induction l with
  | nil => rfl
  | cons x r ih =>
    have e : (allF (x :: r)).length = x.fs.length + (allF r).length := by simp [allF]
    rw [e]
    unfold left at *
    simp only [List.map_cons, List.sum_cons, List.length_cons, List.not_mem_nil, if_false] at ih ⊢
    omega
theorem objA_ex {P : PHp} (hs : Small P) {x : HO} (hx : x ∈ P.Y ++ P.O) : ∃ b, objA P b = some x := by
  have h1 := hs.yo
  have h2 := hs.oe
  rcases List.mem_append.1 hx with q | q
  · obtain ⟨i, hi⟩ := List.getElem?_of_mem q
    refine ⟨P.fy + 2 * i, ?_⟩
    unfold objA
    rw [numIn_some.2 ⟨(List.getElem?_eq_some_iff.1 hi).1, rfl⟩]
    exact hi
  · obtain ⟨i, hi⟩ := List.getElem?_of_mem q
    refine ⟨P.fo + 2 * i, ?_⟩
    unfold objA
    rw [numIn_no (fun k hk => by omega), numIn_some.2 ⟨(List.getElem?_eq_some_iff.1 hi).1, rfl⟩]
    exact hi
section
variable {P P' : PHp} {D : DataW Unit} {M : MS}

theorem obj_in (hobj : (M.L.map PL.objs).flatten = P.Y ++ P.O) {q : Nat × Nat} {x : HO} (h : objAt M.L q = some x) : x ∈ P.Y ++ P.O := by
  rw [← hobj]
  unfold objAt at h
  cases hL : M.L[q.1]? with
  | none => rw [hL] at h; cases h
  | some p =>
    rw [hL] at h
    exact List.mem_flatten.2 ⟨p.objs, List.mem_map.2 ⟨p, List.mem_of_getElem? hL, rfl⟩, List.mem_of_getElem? h⟩
theorem Z_nd (g : Good P D) (hf : Full M.L) (hobj : (M.L.map PL.objs).flatten = P.Y ++ P.O) : ((Z M.L).map fun p => p.1.id).Nodup := by
  have e : ((Z M.L).map fun p => p.1.id) = ((Z M.L).map Prod.fst).map HO.id := by rw [List.map_map]; rfl
  rw [e, Z_objs hf, hobj]
  exact g.nd
theorem one_gone (g : Good P D) (hf : Full M.L) (hobj : (M.L.map PL.objs).flatten = P.Y ++ P.O) {q q' : Nat × Nat} {x x' : HO} (h : objAt M.L q = some x) (h' : objAt M.L q' = some x') (e : x.id = x'.id) : goneTo M.L q = goneTo M.L q' := by
  have := map_inj (Z_nd g hf hobj) (x, goneTo M.L q) ((Z_mem hf).2 ⟨q, h, rfl⟩) (x', goneTo M.L q') ((Z_mem hf).2 ⟨q', h', rfl⟩) e
  exact congrArg Prod.snd this
theorem Good.moved (g : Good P D) (hm : Maps.IsMap D) (hI : MInv 0 (allF M.T).length M) (cov : Cover P M.L) (hobj : (M.L.map PL.objs).flatten = P.Y ++ P.O) (hY : P'.Y = []) (hO : P'.O = M.T) (hf : P'.fo = M.ft) : Good P' (idsAll D M.L) := by
  have hYO : P'.Y ++ P'.O = M.T := by rw [hY, hO, List.nil_append]
  have hft := hI.ft
  have from' : ∀ y ∈ M.T, ∃ (t : Nat) (q : Nat × Nat) (x : HO), M.T[t]? = some y ∧ goneTo M.L q = M.ft + 2 * (t : Int) ∧ objAt M.L q = some x ∧ y.id = x.id := fun y hy => by
    obtain ⟨t, ht⟩ := List.mem_iff_getElem?.1 hy
    obtain ⟨q, x, a1, a2, a3⟩ := hI.orig t y (Nat.zero_le _) ht
    exact ⟨t, q, x, ht, a1, a2, hdr_id a3⟩
  refine ⟨?_, ?_, ?_, ?_⟩
  · rw [hYO]
    refine List.pairwise_map.2 (List.pairwise_iff_getElem.2 fun i j hi hj hij e => ?_)
    obtain ⟨q, x, a1, a2, a3⟩ := hI.orig i M.T[i] (Nat.zero_le _) (List.getElem?_eq_getElem hi)
    obtain ⟨q', x', b1, b2, b3⟩ := hI.orig j M.T[j] (Nat.zero_le _) (List.getElem?_eq_getElem hj)
    have := one_gone g hI.full hobj a2 b2 (by rw [← hdr_id a3, ← hdr_id b3]; exact e)
    omega
  · intro y hy
    rw [hYO] at hy
    obtain ⟨t, q, x, _, _, h3, h4⟩ := from' y hy
    rw [h4]
    exact g.pos x (obj_in hobj h3)
  · intro a
    rw [idsAll_Z, has_steps _ D hm (Z_nd g hI.full hobj) (fun p hp => by
      obtain ⟨q, h1, _⟩ := (Z_mem hI.full (x := p.1) (a := p.2)).1 hp
      exact (g.pos _ (obj_in hobj h1)).1) a, hYO]
    constructor
    · rintro (⟨p, hp, h1, h2⟩ | ⟨h1, h2⟩)
      · obtain ⟨q, h3, h4⟩ := (Z_mem hI.full (x := p.1) (a := p.2)).1 hp
        obtain ⟨t, y, hy, _, e, _⟩ := went_obj hI h3 (by rw [h4]; exact h2)
        exact ⟨y, List.mem_of_getElem? hy, e.trans h1⟩
      · obtain ⟨o, ho, e⟩ := (g.keys a).1 h2
        rw [← hobj, ← Z_objs hI.full] at ho
        obtain ⟨p, hp, rfl⟩ := List.mem_map.1 ho
        exact absurd e (h1 p hp)
    · rintro ⟨y, hy, rfl⟩
      obtain ⟨t, q, x, _, h2, h3, h4⟩ := from' y hy
      exact Or.inl ⟨(x, goneTo M.L q), (Z_mem hI.full).2 ⟨q, h3, rfl⟩, h4.symm, by show goneTo M.L q ≠ 0; omega⟩
  · intro y hy u' hu' hk
    rw [hYO] at hy
    obtain ⟨t, q, x, h1, h2, h3, h4⟩ := from' y hy
    obtain ⟨t', y', hy', e, _, _, _, b4, b5⟩ := went_obj hI h3 (by omega)
    have : t' = t := by omega
    subst this
    rw [h1] at hy'
    cases hy'
    rw [b4] at hu'
    obtain ⟨u, hu, rfl⟩ := List.mem_map.1 hu'
    have hk' : u.kind = 4 := by rw [← (phi_kind M.L u).1]; exact hk
    obtain ⟨z, hz⟩ := g.tied x (obj_in hobj h3) u hu hk'
    obtain ⟨z', hz', _⟩ := (sim_moved hI cov hY hO hf).obj u z (b5 u hu) hk' hz
    exact ⟨z', hz'⟩
/-- Just what the root leads to is there. -/
theorem Good.count (g : Good P D) (hs : Small P) (hobj : (M.L.map PL.objs).flatten = P.Y ++ P.O) (g' : Good P' (idsAll D M.L)) (hI : MInv 0 (allF M.T).length M) (cov : Cover P M.L) (hY : P'.Y = []) (hO : P'.O = M.T) {f : Nat} (hf : left (P.Y ++ P.O) [] < f) (hf' : left (P'.Y ++ P'.O) [] < f) {root root' : HV} {out seen : List Int} (hr : Leads P root) (hr' : Leads P' root')
    (hsh : shp P f root [] = some (out, seen)) (hsh' : shp P' f root' [] = some (out, seen)) (hgone : ClosedL seen M.L → RIn seen M.L root → GoneIn seen M.L) : M.T.length = seen.length := by
  have hYO : P'.Y ++ P'.O = M.T := by rw [hY, hO, List.nil_append]
  obtain ⟨r, e1, ⟨_, a2, _, a4⟩, a5, _⟩ := shape_ok g.uniq g.tied f root [] hr hf
  rw [hsh] at e1
  cases e1
  obtain ⟨r, e2, ⟨_, _, b3, _⟩, _, _⟩ := shape_ok g'.uniq g'.tied f root' [] hr' hf'
  rw [hsh'] at e2
  cases e2
  have hin := all_in hI (hgone (fun q x hq hx u hu hk q' y h1 h2 => by
    obtain ⟨t, ht⟩ : ∃ b, objA P b = some x := objA_ex hs (obj_in hobj hq)
    exact a4 t x ht hx (by simp) u hu hk y ((cov _ _).2 ⟨q', h1, h2⟩)) (fun hk q y h1 h2 => a5 hk y ((cov _ _).2 ⟨q, h1, h2⟩)))
  have nd' := g'.nd
  rw [hYO] at nd' b3
  have h1 := sub_length nd' (l' := seen) (fun a ha => by
    obtain ⟨y, hy, rfl⟩ := List.mem_map.1 ha
    exact hin y hy)
  have h2 := sub_length (a2 List.nodup_nil) (l' := M.T.map HO.id) (fun a ha => by
    rcases b3 a ha with q | ⟨y, hy, e⟩
    · cases q
    · exact List.mem_map.2 ⟨y, hy, e⟩)
  rw [List.length_map] at h1 h2
  exact Nat.le_antisymm h1 h2
end
theorem cover_maj (P : PHp) : Cover P (majM P).L := fun a x => by
  unfold objA majM leadsTo leadsTo leadsTo
  cases h1 : numIn P.fy P.Y.length a with
  | some i =>
    simp only [Option.some.injEq]
    constructor
    · intro h
      exact ⟨(0, i), rfl, by simpa [objAt] using h⟩
    · rintro ⟨q, rfl, h⟩
      simpa [objAt] using h
  | none =>
    simp only
    cases h2 : numIn P.fo P.O.length a with
    | some i =>
      simp only [Option.some.injEq]
      constructor
      · intro h
        exact ⟨(1, i), rfl, by simpa [objAt] using h⟩
      · rintro ⟨q, rfl, h⟩
        simpa [objAt] using h
    | none => simp
theorem cover_min {P : PHp} (hO : P.O = []) : Cover P (minM P).L := fun a x => by
  unfold objA minM leadsTo leadsTo
  cases h1 : numIn P.fy P.Y.length a with
  | some i =>
    simp only [Option.some.injEq]
    constructor
    · intro h
      exact ⟨(0, i), rfl, by simpa [objAt] using h⟩
    · rintro ⟨q, rfl, h⟩
      simpa [objAt] using h
  | none =>
    simp only
    rw [hO, numIn_no (fun k hk => by simp at hk)]
    simp
theorem fresh_in {S : List Int} {L : List PL} (h : Fresh L) : GoneIn S L := fun q _ hg => absurd (h.gone q) hg
theorem root_leads {P P' : PHp} {M : MS} {root : HV} (s : Sim P P' (phi M.L) (Went M.L)) (hw : Went M.L root) (hr : Leads P root) : Leads P' (phi M.L root) := fun hk => by
  have hk' : root.kind = 4 := by rw [← (phi_kind M.L root).1]; exact hk
  obtain ⟨z, hz⟩ := hr hk'
  obtain ⟨z', hz', _⟩ := s.obj root z hw hk' hz
  exact ⟨z', hz'⟩
/-- What a collection leaves: a good heap, with the same shape, and no more. -/
structure Kept (P P' : PHp) (D' : DataW Unit) (f : Nat) (root' : HV) (out seen : List Int) : Prop where
  good : Good P' D'
  shape : shp P' f root' [] = some (out, seen)
  leads : Leads P' root'
  fuel : left (P'.Y ++ P'.O) [] < f
theorem kept_major {P : PHp} {D : DataW Unit} (g : Good P D) (hm : Maps.IsMap D) (hs : Small P) (h2 : 2 ≤ P.fo) {l : List HV} {root : HV} (hl : ∀ v ∈ l, v = root) {M : MS} (he : M = restM (Go.Proofs.Ytddfdefgdlfpmaa.pot (rootsM (majM P) l)) (rootsM (majM P) l) 0) (hI : MInv 0 (allF M.T).length M) (hL : Later (majM P).L M.L) (hft : M.ft = P.fo + 2 * P.O.length) (hw : Went M.L root) (mj : Int) {f : Nat} (hf : left (P.Y ++ P.O) [] < f) (hr : Leads P root) {out seen : List Int} (hsh : shp P f root [] = some (out, seen)) :
    Kept P (majP P M.T mj) (idsAll D M.L) f (phi M.L root) out seen ∧ M.T.length = seen.length := by
  have cov : Cover P M.L := (cover_maj P).later hL
  have hobj : (M.L.map PL.objs).flatten = P.Y ++ P.O := by
    rw [he, rest_objs, roots_objs]
    simp [majM]
  have sim : Sim P (majP P M.T mj) (phi M.L) (Went M.L) := sim_moved hI cov rfl rfl hft.symm
  have g' : Good (majP P M.T mj) (idsAll D M.L) := g.moved hm hI cov hobj rfl rfl hft.symm
  have hsh' := sim.shape f root [] (out, seen) hw hsh
  have hr' := root_leads sim hw hr
  obtain ⟨f1, f2⟩ := maj_few h2 l he
  have hf' : left ((majP P M.T mj).Y ++ (majP P M.T mj).O) [] < f := by
    rw [left_nil] at hf ⊢
    simp only [majP, List.nil_append]
    simp only [allF, List.flatMap_append, List.length_append] at hf f2 ⊢
    omega
  refine ⟨⟨g', hsh', hr', hf'⟩, g.count hs hobj g' hI cov rfl rfl hf hf' hr hr' hsh hsh' fun hc hri => ?_⟩
  have hI0 := MInv.start (M := majM P) (maj_fresh P) (by simp only [majM]; omega)
  have hz : (allF (majM P).T).length = 0 := by simp [majM, allF]
  have hz2 : (majM P).T.length = 0 := by simp [majM]
  rw [hz, hz2] at hI0
  have hc0 : ClosedL seen (majM P).L := fun q x h1 h2 u hu hk q' y h3 h4 => hc q x (by rw [hL.objs]; exact h1) h2 u hu hk q' y (by rw [hL.leads]; exact h3) (by rw [hL.objs]; exact h4)
  have hr0 : RIn seen (majM P).L root := fun hk q y h3 h4 => hri hk q y (by rw [hL.leads]; exact h3) (by rw [hL.objs]; exact h4)
  obtain ⟨h5, l5, _⟩ := hI0.roots l
  have g5 := gone_roots (S := seen) l hI0 (fresh_in (maj_fresh P)) (fun v hv => by rw [hl v hv]; exact hr0)
  rw [he]
  exact gone_rest _ h5 g5 (hc0.later l5)
theorem kept_minor {P : PHp} {D : DataW Unit} (g : Good P D) (hm : Maps.IsMap D) (h2 : 2 ≤ P.fo) (hO : P.O = []) {l : List HV} {root : HV} {M : MS} (he : M = restM (Go.Proofs.Ytddfdefgdlfpmaa.pot (rootsM (minM P) l) - (allF P.O).length) (rootsM (minM P) l) (allF P.O).length) (hI : MInv P.O.length (allF M.T).length M) (hL : Later (minM P).L M.L) (hft : M.ft = P.fo) (hw : Went M.L root) (mn : Int) {f : Nat} (hf : left (P.Y ++ P.O) [] < f) (hr : Leads P root) {out seen : List Int} (hsh : shp P f root [] = some (out, seen)) :
    Kept P (minP P M.T mn) (idsAll D M.L) f (phi M.L root) out seen := by
  have cov : Cover P M.L := (cover_min hO).later hL
  have hobj : (M.L.map PL.objs).flatten = P.Y ++ P.O := by
    rw [he, rest_objs, roots_objs, hO]
    simp [minM]
  rw [hO] at hI
  have sim : Sim P (minP P M.T mn) (phi M.L) (Went M.L) := sim_moved hI cov rfl rfl hft.symm
  obtain ⟨f1, f2⟩ := min_few h2 l he
  refine ⟨g.moved hm hI cov hobj rfl rfl hft.symm, sim.shape f root [] (out, seen) hw hsh, root_leads sim hw hr, ?_⟩
  rw [left_nil] at hf ⊢
  simp only [minP, List.nil_append]
  simp only [allF, List.flatMap_append, List.length_append] at hf f2 ⊢
  omega
theorem leads_no {f : Int} (a : Int) : leadsTo [⟨f, [], []⟩] 0 a = none := by
  unfold leadsTo leadsTo
  rw [show ([] : List HO).length = 0 from rfl, numIn_no (fun i hi => by omega)]
theorem move_none {M : MS} {f : Int} (h : M.L = [⟨f, [], []⟩]) (v : HV) : moveV M v = (M, v) := by
  unfold moveV
  split
  · rfl
  · rw [h, leads_no]
theorem roots_none {M : MS} {f : Int} (h : M.L = [⟨f, [], []⟩]) : ∀ l : List HV, rootsM M l = M
  | [] => rfl
  | v :: l => by
    show rootsM (moveV M v).1 l = M
    rw [move_none h]
    exact roots_none h l
theorem kept_same {P : PHp} {D : DataW Unit} (g : Good P D) (hY : P.Y = []) {l : List HV} {root : HV} {M : MS} (he : M = restM (Go.Proofs.Ytddfdefgdlfpmaa.pot (rootsM (minM P) l) - (allF P.O).length) (rootsM (minM P) l) (allF P.O).length) (mn : Int) {f : Nat} (hf : left (P.Y ++ P.O) [] < f) (hr : Leads P root) {out seen : List Int} (hsh : shp P f root [] = some (out, seen)) :
    Kept P (minP P M.T mn) (idsAll D M.L) f (phi M.L root) out seen := by
  have hL0 : (minM P).L = [⟨P.fy, [], []⟩] := by simp [minM, hY]
  have hM : M = minM P := by
    rw [he, roots_none hL0]
    cases hp : Go.Proofs.Ytddfdefgdlfpmaa.pot (minM P) - (allF P.O).length with
    | zero => rfl
    | succ k =>
      rw [restM, if_neg (by simp [minM])]
  subst hM
  have hph : phi (minM P).L root = root := by
    unfold phi
    split
    · rfl
    · rw [hL0, leads_no]
  have hids : idsAll D (minM P).L = D := by rw [hL0]; rfl
  have hob : ∀ a, objA (minP P (minM P).T mn) a = objA P a := fun a => by
    unfold objA
    simp only [minP, minM, hY, List.length_nil]
    rw [numIn_no (fun i hi => absurd hi (Nat.not_lt_zero i)), numIn_no (fun i hi => absurd hi (Nat.not_lt_zero i))]
  have hYO : (minP P (minM P).T mn).Y ++ (minP P (minM P).T mn).O = P.Y ++ P.O := by simp [minP, minM, hY]
  have hshp : ∀ f v s, shp (minP P (minM P).T mn) f v s = shp P f v s := fun f => by
    induction f with
    | zero => intros; rfl
    | succ f ih =>
      intro v s
      have : shp (minP P (minM P).T mn) f = shp P f := by funext v s; exact ih v s
      rw [shp, shp, hob, this]
  rw [hph, hids]
  refine ⟨⟨by rw [hYO]; exact g.nd, by rw [hYO]; exact g.pos, by rw [hYO]; exact g.keys, fun x hx u hu hk => ?_⟩, by rw [hshp]; exact hsh, fun hk => ?_, by rw [hYO]; exact hf⟩
  · rw [hYO] at hx
    obtain ⟨z, hz⟩ := g.tied x hx u hu hk
    exact ⟨z, by rw [hob]; exact hz⟩
  · obtain ⟨z, hz⟩ := hr hk
    exact ⟨z, by rw [hob]; exact hz⟩
end Go.Proofs.Ytddfdefgdlfpmaa

namespace Go.Proofs.Ytddfdefgdlfpmaa
open Go.RowKit Go.Maps

def rts (m rb : Nat) (v : HV) : List (Option (Nat × Nat × HV)) := List.replicate m (some (rb, 0, v))
theorem rts_len (m rb : Nat) (v : HV) : (rts m rb v).length = m := by simp [rts]
theorem rts_mem {m rb : Nat} {v : HV} {a b : Nat} {u : HV} (h : some (a, b, u) ∈ rts m rb v) : a = rb ∧ b = 0 ∧ u = v := by
  have := List.eq_of_mem_replicate h
  simpa using this
theorem rts_vs {m rb : Nat} {v u : HV} (h : u ∈ rootVs (rts m rb v)) : u = v := by
  unfold rootVs at h
  obtain ⟨r, hr, e⟩ := List.mem_filterMap.1 h
  rw [List.eq_of_mem_replicate hr] at e
  simpa using e.symm
theorem rts_in {m rb : Nat} {v : HV} (h : 0 < m) : some (rb, 0, v) ∈ rts m rb v := List.mem_replicate.2 ⟨by omega, rfl⟩
/-- A value in a block of its own. -/
def RootAt (w : World) (rb : Nat) (v : HV) : Prop := (∃ cs, w.heap[rb]? = some (.cells cs 34 (0, 0))) ∧ w.cell? ⟨rb, 0, none⟩ = some (.int .i64 v.kind) ∧ w.cell? ⟨rb, 1, none⟩ = some (.int .i64 v.n) ∧ w.cell? ⟨rb, 2, none⟩ = some (.string v.s)
theorem rt_free {w : World} {hp mb : Nat} {vyo vyf voo vof : Value} {gb rb m : Nat} {v : HV} {cs : Array Value} {fr : Nat × Nat} (hg : w.heap[gb]? = some (.cells cs 40 fr)) (hc : ∀ k, k < m → cs[k]? = some (.pointer (some ⟨rb, 0, none⟩))) (hr : RootAt w rb v) (n1 : vyf.ownBlock ≠ some rb) (n2 : vof.ownBlock ≠ some rb) (hn : I64 v.n) (hm : m ≤ 1000) :
    RtFree w hp mb vyo vyf voo vof (some ⟨gb, 0, none⟩) (rts m rb v) := by
  refine ⟨⟨fun k r hk => ?_, fun a b u hu => ?_⟩, fun a b e _ => ?_, fun a b u hu => ?_, fun a b u hu => ?_, fun a b u b' u' hu hu' => ?_, fun a b u hu => ?_, ?_⟩
  · have hk' := (List.getElem?_eq_some_iff.1 hk).1
    rw [rts_len] at hk'
    have e : r = some (rb, 0, v) := List.eq_of_mem_replicate (List.mem_of_getElem? hk)
    subst e
    refine ⟨gb, 0, rfl, ?_⟩
    rw [Nat.zero_add]
    simp only [World.cell?, hg]
    simpa using hc k hk'
  · obtain ⟨rfl, rfl, rfl⟩ := rts_mem hu
    exact hr.2
  · cases e
    exact ⟨_, _, hg⟩
  · obtain ⟨rfl, rfl, rfl⟩ := rts_mem hu
    exact hr.1
  · obtain ⟨rfl, rfl, rfl⟩ := rts_mem hu
    exact ⟨n1, n2⟩
  · exact Or.inl ((rts_mem hu).2.1.trans (rts_mem hu').2.1.symm)
  · obtain ⟨rfl, rfl, rfl⟩ := rts_mem hu
    exact hn
  · rw [rts_len]
    omega
theorem RootAt.made {w : World} {rb : Nat} {v : HV} (h : w.heap[rb]? = some (.cells #[.int .i64 v.kind, .int .i64 v.n, .string v.s] 34 (0, 0))) : RootAt w rb v := ⟨⟨_, h⟩, hcell h 0, hcell h 1, hcell h 2⟩
theorem RootAt.move {w w' : World} {rb : Nat} {v : HV} (h : RootAt w rb v) (hb : w'.heap[rb]? = w.heap[rb]?) : RootAt w' rb v := by
  obtain ⟨⟨cs, h1⟩, h2, h3, h4⟩ := h
  exact ⟨⟨cs, hb.trans h1⟩, (World.cell?_of_block hb).trans h2, (World.cell?_of_block hb).trans h3, (World.cell?_of_block hb).trans h4⟩
theorem RootAt.ty {w : World} {rb : Nat} {v : HV} (h : RootAt w rb v) : Typ w rb 34 := by
  obtain ⟨⟨cs, h1⟩, _⟩ := h
  exact ⟨_, _, h1⟩
theorem root_now {M : MS} {w : World} {g : Option Addr} {m rb : Nat} {v : HV} (h : RtNow M w g (rts m rb v) (rts m rb v).length) (hm : 0 < m) : RootAt w rb (phi M.L v) := by
  have hi : some (rb, 0, v) ∈ rts m rb v := rts_in hm
  have q := h.val rb 0 v hi
  rw [now_all M hi] at q
  exact ⟨h.fz rb 0 v hi, q.1, q.2.1, q.2.2⟩
theorem root_not {m rb k : Nat} {v : HV} (h : k ≠ rb) : ¬ rootB (rts m rb v) k := fun ⟨_, _, e⟩ => h (rts_mem e).1
end Go.Proofs.Ytddfdefgdlfpmaa

namespace Go.Proofs.Ytddfdefgdlfpmaa
open Go.RowKit Go.Maps

theorem own_not {w : World} {B : Nat} {e : TypeId} {k : Nat} {v : Value} {n : Nat} {xs : List Value} (h : w.ownsRow B e k v n xs) {j : Nat} (hj : j < B) : v.ownBlock ≠ some j := fun e => by
  have := (owns_type h j e).1
  omega
section
variable {B : Nat} {w w' : World} {hp mb : Nat} {P : PHp} {D : DataW Unit} {n : Nat} {vyo vyf voo vof vn : Value}
theorem AllocG.below {tag : Int} {sz : Nat} (h : HpG B w hp mb P D n vyo vyf voo vof vn) (hp0 : B ≤ hp) (hm0 : B ≤ mb) (q : AllocG B w hp mb P D n tag sz vyo vyf voo vof vn w') : Below B w w' := by
  obtain ⟨vo, vf, _, hk, _, _, hs, o1, o2, o3⟩ := q
  exact ⟨o1, o2, o3, hs, fun k hk' => hk k (Nat.lt_of_lt_of_le hk' h.hB) (by omega) (by omega) (own_not h.at'.yo hk') (own_not h.at'.yf hk')⟩
theorem SetG.below {i : Nat} {v : HV} (h : HpG B w hp mb P D n vyo vyf voo vof vn) (q : SetG B w hp mb P D n i v vyo vyf voo vof vn w') : Below B w w' := by
  obtain ⟨_, hk, hs, o1, o2, o3⟩ := q
  exact ⟨o1, o2, o3, hs, fun k hk' => hk k (Nat.lt_of_lt_of_le hk' h.hB) (own_not h.at'.yf hk')⟩
theorem MinorPost.below {g : Option Addr} {m rb : Nat} {v : HV} (h : HpG B w hp mb P D n vyo vyf voo vof vn) (hp0 : B ≤ hp) (hm0 : B ≤ mb) (hr0 : B ≤ rb) (q : MinorPost B P D n hp mb g (rts m rb v) voo vof w w') : Below B w w' := by
  obtain ⟨_, _, _, _, _, _, _, _, _, _, _, _, _, _, _, _, _, _, _, hk, hs, o1, o2, o3⟩ := q
  exact ⟨o1, o2, o3, hs, fun k hk' => hk k (Nat.lt_of_lt_of_le hk' h.hB) (by omega) (by omega) (own_not h.at'.oo hk') (own_not h.at'.of' hk') (root_not (by omega))⟩
theorem MajorPost.below {g : Option Addr} {m rb : Nat} {v : HV} (h : HpG B w hp mb P D n vyo vyf voo vof vn) (hp0 : B ≤ hp) (hm0 : B ≤ mb) (hr0 : B ≤ rb) (q : MajorPost B P D n hp mb g (rts m rb v) w w') : Below B w w' := by
  obtain ⟨_, _, _, _, _, _, _, _, _, _, _, _, _, _, _, _, _, hk, hs, o1, o2, o3⟩ := q
  exact ⟨o1, o2, o3, hs, fun k hk' => hk k (Nat.lt_of_lt_of_le hk' h.hB) (by omega) (by omega) (root_not (by omega))⟩
end
theorem objA_i64 {P : PHp} (hs : Small P) {a : Int} {x : HO} (h : objA P a = some x) : I64 a := by
  have h1 := hs.y0
  have h2 := hs.o0
  have h3 := hs.y1
  have h4 := hs.o1
  unfold objA at h
  split at h
  · rename_i i hi
    have := numIn_some.1 hi
    exact I64.of_small (by omega) (by omega)
  · split at h
    · rename_i i hi
      have := numIn_some.1 hi
      exact I64.of_small (by omega) (by omega)
    · cases h
def five : HV := ⟨2, 5, ⟨#[]⟩⟩
def oneP : PHp := { fy := 1, fo := 2, ry := 20, ro := 50, Y := [⟨2, 0, 1, [five], false⟩], O := [], noted := [], last := 1, minors := 0, majors := 0 }
theorem one_eq : { allocP (newP 20 50) 0 1 with Y := setF (allocP (newP 20 50) 0 1).Y (beginAt (allocP (newP 20 50) 0 1).Y 0 + 0) five } = oneP := rfl
theorem obj_one : objA oneP 1 = some ⟨2, 0, 1, [five], false⟩ := by
  have h : numIn oneP.fy oneP.Y.length 1 = some 0 := numIn_some.2 ⟨by simp [oneP], by simp [oneP]⟩
  unfold objA
  rw [h]
  rfl

set_option maxRecDepth 100000 in
set_option maxHeartbeats 8000000 in
theorem moved_true (w : World) : Calls Try.prog 5 #[] w fun e w' => e = .returned (.bool true) ∧ Below w.heap.size w w' := by
  go_enter Try.func5, Try.ntmps5
  go_wp2_with fail
  refine (heapNew_any 20 50 w).mono ?_
  rintro e w1 ⟨hb1, ⟨h1, _⟩ | ⟨_, hp, mb, rfl, hp0, hm0, hne, hm, hh⟩⟩
  · exact absurd h1 (by decide)
  have H1 := hide (HpG.new (n := 20) (o := 50) hh hm (B := w.heap.size) hb1.size)
  have HB1 := hide hb1
  have q0 := neqNilG
  clear hb1 hm hh
  go_wp2_with fail
  refine (alloc_any (unhide H1) (tag := 0) (sz := 1) (by decide) (by decide) (by decide) (by decide) (by decide) (by decide) (by decide) (by decide) (by decide) (by decide)).mono ?_
  rintro e w2 ⟨he, hA⟩
  rw [show ((newP 20 50).fy + 2 * ((newP 20 50).Y.length : Int)) = 1 from rfl] at he
  subst he
  have HB2 := hide ((unhide HB1).trans (hA.below (unhide H1) hp0 hm0))
  obtain ⟨vo, vf, h2, _, _, _, _⟩ := hA
  have H2 := hide h2
  clear h2
  go_wp2_with fail
  have HBA := hide ((Below.refl w2.heap.size w2).alloc (Nat.le_refl _) (.cells #[.int .i64 4, .int .i64 1, .string ⟨#[]⟩] 34))
  have HRT := hide (RootAt.made (v := ⟨4, 1, ⟨#[]⟩⟩) (hnew w2 (.cells #[.int .i64 4, .int .i64 1, .string ⟨#[]⟩] 34)))
  have hvf : vf.ownBlock ≠ some w2.heap.size := fun e => Nat.lt_irrefl _ (owns_type (unhide H2).at'.yf _ e).2.1
  have HVF := hide hvf
  have hsz := (unhide HB2).size
  have hw3 : w2.heap.size < (w2.alloc (.cells #[.int .i64 4, .int .i64 1, .string ⟨#[]⟩] 34)).heap.size := by simp
  generalize w2.alloc (.cells #[.int .i64 4, .int .i64 1, .string ⟨#[]⟩] 34) = w3 at *
  have H3 := hide ((unhide H2).keep (unhide HBA))
  have HB3 := hide ((unhide HB2).trans ((unhide HBA).mono hsz))
  have hS : Calls Try.prog 9 #[.pointer (some ⟨hp, 0, none⟩), .int .i64 1, .int .i64 0, .agg #[.int .i64 2, .int .i64 5, .string ⟨#[]⟩]] w3 fun e w' => e = .returned .nilIface ∧ SetG w.heap.size w3 hp mb (allocP (newP 20 50) 0 1) _ _ (beginAt (allocP (newP 20 50) 0 1).Y 0 + 0) five vo vf _ _ _ w' := set_val (unhide H3) (j := 0) (k := 0) (x := newO (newP 20 50) 0 1) rfl (by decide) five ⟨by decide, by decide⟩ (by decide)
  refine hS.mono ?_
  rintro e w4 ⟨rfl, hG⟩
  have HB4 := hide ((unhide HB3).trans (hG.below (unhide H3)))
  obtain ⟨h4, hk4, hs4, _⟩ := hG
  rw [one_eq] at h4
  have HRT4 := hide ((unhide HRT).move (hk4 _ hw3 (unhide HVF)))
  have H4 := hide h4
  clear h4 hk4 hS
  go_wp2_with fail
  have hr5 : RootAt (w4.alloc (.cells #[.pointer (some ⟨w2.heap.size, 0, none⟩)] 40)) w2.heap.size ⟨4, 1, ⟨#[]⟩⟩ := (unhide HRT4).move (Below.heap_alloc _ _ w2.heap.size (by omega))
  have hbb := (Below.refl w4.heap.size w4).alloc (Nat.le_refl _) (.cells #[.pointer (some ⟨w2.heap.size, 0, none⟩)] 40)
  have hg5 := hnew w4 (.cells #[.pointer (some ⟨w2.heap.size, 0, none⟩)] 40)
  have HB5 := hide ((unhide HB4).alloc (unhide HB4).size (.cells #[.pointer (some ⟨w2.heap.size, 0, none⟩)] 40))
  have H5 := hide ((unhide H4).keep hbb)
  generalize w4.alloc (.cells #[.pointer (some ⟨w2.heap.size, 0, none⟩)] 40) = w5 at *
  have hc5 : ∀ k : Nat, k < 1 → (#[Value.pointer (some ⟨w2.heap.size, 0, none⟩)] : Array Value)[k]? = some (.pointer (some ⟨w2.heap.size, 0, none⟩)) := fun k hk => by
    have e : k = 0 := Nat.lt_one_iff.1 hk
    rw [e]
    rfl
  have hfree : RtFree w5 hp mb vo vf (.slice none 0 0) (.slice none 0 0) (some ⟨w4.heap.size, 0, none⟩) (rts 1 w2.heap.size ⟨4, 1, ⟨#[]⟩⟩) := rt_free (m := 1) hg5 hc5 hr5 (unhide HVF) (by simp [Value.ownBlock]) ⟨by decide, by decide⟩ (by decide)
  refine (minor_clean (unhide H5) rfl hfree 1 (by decide) (by decide)).mono ?_
  rintro e w6 ⟨rfl, hM⟩
  have HB6 := hide ((unhide HB5).trans (hM.below (unhide H5) hp0 hm0 hsz))
  obtain ⟨M, n', vto, vtf, mn, h6, _, hI, hL, hft, _, _, _, hW, _, _, hR, _⟩ := hM.next (unhide H5) (by decide)
  have hroot := root_now hR (by decide)
  have hwent := hW w2.heap.size 0 ⟨4, 1, ⟨#[]⟩⟩ (rts_in (by decide))
  obtain ⟨y, hy, hid, _, _, hfs, _⟩ := (sim_moved (P := oneP) (P' := minP oneP M.T mn) hI ((cover_min rfl).later hL) rfl rfl hft.symm).obj ⟨4, 1, ⟨#[]⟩⟩ _ hwent rfl obj_one
  have H6 := hide h6
  obtain ⟨a, ha⟩ : ∃ a, (phi M.L ⟨4, 1, ⟨#[]⟩⟩).n = a := ⟨_, rfl⟩
  rw [ha] at hy
  have c1 : w6.cell? ⟨w2.heap.size, 1, none⟩ = some (.int .i64 a) := by rw [← ha]; exact hroot.2.2.1
  have hf0 : y.fs[0]? = some five := by
    rw [hfs]
    show some (phi M.L five) = some five
    rw [(phi_kind M.L five).2 (by decide)]
  have HY := hide hy
  have HF0 := hide hf0
  have HID := hide (show y.id = 1 from hid)
  have HA := hide (objA_i64 h6.small hy)
  clear hM hI hL hft hW hR hroot hwent hy hid hfs hf0 h6 ha
  go_wp2_with fail
  refine (get_at (unhide H6).at' (unhide H6).small (unhide H6).few (unhide HA) (unhide HY) (unhide HF0)).mono ?_
  rintro e w7 ⟨rfl, hb7⟩
  have HB7 := hide ((unhide HB6).trans (hb7.mono (unhide HB6).size))
  have HQ7 := hide (hb7.alloc hb7.size (.cells #[.int .i64 2, .int .i64 5, .string ⟨#[]⟩] 34))
  have c7 := cellk hb7 c1 (cell_lt c1)
  have hl7 : w2.heap.size ≠ w7.heap.size := Nat.ne_of_lt (cell_lt c7)
  have hl8 : w2.heap.size < w7.heap.size := cell_lt c7
  clear hb7 c1
  simp only [five]
  go_wp2_with fail
  refine (id_at ((unhide H6).at'.keep (unhide HQ7)) (unhide H6).small (unhide H6).few (unhide HA) (unhide HY)).mono ?_
  rintro e w8 ⟨he, hb8⟩
  rw [unhide HID] at he
  subst he
  have HB8 := hide (((unhide HB7).alloc (unhide HB7).size (.cells #[.int .i64 2, .int .i64 5, .string ⟨#[]⟩] 34)).trans (hb8.mono (Nat.le_trans (unhide HB7).size (by simp))))
  clear hb8
  go_wp2_with fail
  go_ret
  exact ⟨rfl, unhide HB8⟩
end Go.Proofs.Ytddfdefgdlfpmaa

namespace Go.Proofs.Ytddfdefgdlfpmaa
open Go.RowKit Go.Maps

/-- So many objects, all young; fields lead to them. -/
structure Ph (P : PHp) (D : DataW Unit) (i : Nat) : Prop where
  fy : P.fy = 1
  fo : P.fo = 2
  ry : P.ry = 400
  ro : P.ro = 2000
  old : P.O = []
  noted : P.noted = []
  last : P.last = i
  len : P.Y.length = i
  fs : (allF P.Y).length ≤ 7 * i
  ids : ∀ (j : Nat) (x : HO), P.Y[j]? = some x → x.id = j + 1 ∧ x.kind = 2
  keys : ∀ a, Maps.has D (.int .i64 a) = true ↔ ∃ o ∈ P.Y, o.id = a
  isMap : Maps.IsMap D
  tied : ∀ x ∈ P.Y, ∀ u ∈ x.fs, u.kind = 4 → ∃ j : Nat, j < i ∧ u.n = 1 + 2 * (j : Int)
theorem Ph.new : Ph (newP 400 2000) (.map []) 0 :=
  ⟨rfl, rfl, rfl, rfl, rfl, rfl, rfl, rfl, by simp [newP, allF], fun j x h => by simp [newP] at h, fun a => by
    have h0 : Maps.has (.map [] : DataW Unit) (.int .i64 a) = false := rfl
    rw [h0]
    simp [newP], Maps.isMap_empty, fun x hx => by simp [newP] at hx⟩
theorem Ph.alloc {P : PHp} {D : DataW Unit} {i : Nat} (h : Ph P D i) (tag : Int) {sz : Nat} (hsz : sz ≤ 7) (d : DataW Unit) : Ph (allocP P tag sz) (D.put (.int .i64 (P.last + 1)) d) (i + 1) := by
  have hf : (newO P tag sz).fs = zeroFs sz := rfl
  refine ⟨h.fy, h.fo, h.ry, h.ro, h.old, h.noted, ?_, ?_, ?_, fun j x hj => ?_, fun a => ?_, h.isMap.put _ _, fun x hx u hu hk => ?_⟩
  · simp only [allocP, h.last]
    omega
  · simp [allocP, h.len]
  · have : (allF (P.Y ++ [newO P tag sz])).length = (allF P.Y).length + sz := by simp [allF, hf, zeroFs]
    show (allF (P.Y ++ [newO P tag sz])).length ≤ _
    have := h.fs
    omega
  · have hj : (P.Y ++ [newO P tag sz])[j]? = some x := hj
    by_cases hl : j < P.Y.length
    · rw [List.getElem?_append_left hl] at hj
      exact h.ids j x hj
    · have := (List.getElem?_eq_some_iff.1 hj).1
      simp only [List.length_append, List.length_singleton] at this
      obtain rfl : j = P.Y.length := by omega
      rw [List.getElem?_append_right (Nat.le_refl _), Nat.sub_self] at hj
      cases hj
      exact ⟨by show P.last + 1 = _; rw [h.last, h.len], rfl⟩
  · show _ ↔ ∃ o ∈ P.Y ++ [newO P tag sz], o.id = a
    by_cases e : a = P.last + 1
    · rw [← e, Maps.has_put_same h.isMap (by simp [WideAt.IsKeyLit])]
      simp only [true_iff]
      exact ⟨newO P tag sz, by simp, e.symm⟩
    · rw [Maps.has_put_other (fun q => e (by injection q)), h.keys]
      constructor
      · rintro ⟨o, ho, q⟩
        exact ⟨o, List.mem_append_left _ ho, q⟩
      · rintro ⟨o, ho, q⟩
        rcases List.mem_append.1 ho with ho | ho
        · exact ⟨o, ho, q⟩
        · rw [List.mem_singleton.1 ho] at q
          exact absurd q.symm e
  · have hx : x ∈ P.Y ++ [newO P tag sz] := hx
    rcases List.mem_append.1 hx with hx | hx
    · obtain ⟨j, hj, e⟩ := h.tied x hx u hu hk
      exact ⟨j, by omega, e⟩
    · rw [List.mem_singleton.1 hx, hf] at hu
      rw [List.eq_of_mem_replicate hu] at hk
      simp [zeroHV] at hk
theorem setF_at {l : List HO} {q : Nat} {v : HV} {j : Nat} {y : HO} (h : (setF l q v)[j]? = some y) : ∃ x, l[j]? = some x ∧ hdr y = hdr x := by
  have e := congrArg (fun z => z[j]?) (setF_hdr l q v)
  simp only [List.getElem?_map, h, Option.map_some] at e
  cases hx : l[j]? with
  | none => rw [hx] at e; cases e
  | some x => rw [hx] at e; exact ⟨x, rfl, Option.some.inj e⟩
theorem Ph.set {P : PHp} {D : DataW Unit} {i : Nat} (h : Ph P D i) (q : Nat) {v : HV} (hv : v.kind = 4 → ∃ j : Nat, j < i ∧ v.n = 1 + 2 * (j : Int)) : Ph { P with Y := setF P.Y q v } D i := by
  have hl : (allF (setF P.Y q v)).length = (allF P.Y).length := by rw [setF_allF, List.length_set]
  have hids : (setF P.Y q v).map HO.id = P.Y.map HO.id := by
    have := congrArg (fun l => l.map fun z : Int × Int × Int × Nat × Bool => z.2.2.1) (setF_hdr P.Y q v)
    simp only [List.map_map] at this
    exact this
  refine ⟨h.fy, h.fo, h.ry, h.ro, h.old, h.noted, h.last, by simp only [setF_len]; exact h.len, by simp only [hl]; exact h.fs, fun j y hj => ?_, fun a => ?_, h.isMap, fun y hy u hu hk => ?_⟩
  · obtain ⟨x, hx, e⟩ := setF_at hj
    obtain ⟨a, b⟩ := h.ids j x hx
    unfold hdr at e
    simp only [Prod.mk.injEq] at e
    exact ⟨by rw [e.2.2.1]; exact a, by rw [e.1]; exact b⟩
  · rw [h.keys]
    have e : ∀ l : List HO, (∃ o ∈ l, o.id = a) ↔ a ∈ l.map HO.id := fun l => List.mem_map.symm
    rw [e, e, ← hids]
  · have hm : u ∈ allF (setF P.Y q v) := mem_allF hy hu
    rw [setF_allF] at hm
    rcases List.mem_or_eq_of_mem_set hm with hm | rfl
    · unfold allF at hm
      obtain ⟨x, hx, hxu⟩ := List.mem_flatMap.1 hm
      exact h.tied x hx u hxu hk
    · exact hv hk
theorem Ph.obj {P : PHp} {D : DataW Unit} {i : Nat} (h : Ph P D i) {j : Nat} (hj : j < i) : ∃ x, P.Y[j]? = some x ∧ objA P (1 + 2 * (j : Int)) = some x := by
  obtain ⟨x, hx⟩ : ∃ x, P.Y[j]? = some x := ⟨_, List.getElem?_eq_getElem (by rw [h.len]; exact hj)⟩
  refine ⟨x, hx, ?_⟩
  have e : numIn P.fy P.Y.length (1 + 2 * (j : Int)) = some j := numIn_some.2 ⟨by rw [h.len]; exact hj, by rw [h.fy]⟩
  unfold objA
  rw [e]
  exact hx
theorem Ph.good {P : PHp} {D : DataW Unit} {i : Nat} (h : Ph P D i) (hi : i ≤ 30) : Good P D := by
  have hYO : P.Y ++ P.O = P.Y := by rw [h.old, List.append_nil]
  refine ⟨?_, fun x hx => ?_, fun a => by rw [hYO]; exact h.keys a, fun x hx u hu hk => ?_⟩
  · rw [hYO]
    refine List.pairwise_map.2 (List.pairwise_iff_getElem.2 fun a b ha hb hab e => ?_)
    have h1 := (h.ids a _ (List.getElem?_eq_getElem ha)).1
    have h2 := (h.ids b _ (List.getElem?_eq_getElem hb)).1
    omega
  · rw [hYO] at hx
    obtain ⟨j, hj⟩ := List.getElem?_of_mem hx
    have := (List.getElem?_eq_some_iff.1 hj).1
    rw [h.len] at this
    rw [(h.ids j x hj).1]
    exact ⟨by omega, by omega⟩
  · rw [hYO] at hx
    obtain ⟨j, hj, e⟩ := h.tied x hx u hu hk
    obtain ⟨y, _, hy⟩ := h.obj hj
    exact ⟨y, by rw [e]; exact hy⟩
def refV (j : Nat) : HV := ⟨4, 1 + 2 * (j : Int), ⟨#[]⟩⟩
/-- Values that lead to the first objects. -/
def allRow (k : Nat) : List Value := ((List.range k).map refV).flatMap vCells
theorem allRow_succ (k : Nat) : allRow (k + 1) = allRow k ++ vCells (refV k) := by
  unfold allRow
  rw [List.range_succ]
  simp
/-- Memory, ahead of collections. -/
structure St (w0 w : World) (hp mb : Nat) (P : PHp) (D : DataW Unit) (n : Nat) (vyo vyf va : Value) (i k : Nat) : Prop where
  hpg : HpG w0.heap.size w hp mb P D n vyo vyf (.slice none 0 0) (.slice none 0 0) (.slice none 0 0)
  ph : Ph P D i
  all : w.ownsRow w0.heap.size 34 3 va k (allRow k)
  sep : ∀ j, va.ownBlock = some j → vyf.ownBlock ≠ some j
  bel : Below w0.heap.size w0 w
  hp0 : w0.heap.size ≤ hp
  mb0 : w0.heap.size ≤ mb
  few : n ≤ i
section
variable {w0 w w' : World} {hp mb : Nat} {P : PHp} {D : DataW Unit} {n : Nat} {vyo vyf va : Value} {i k : Nat}
theorem St.keep (h : St w0 w hp mb P D n vyo vyf va i k) (hb : Below w.heap.size w w') : St w0 w' hp mb P D n vyo vyf va i k :=
  ⟨h.hpg.keep hb, h.ph, owns_keep h.all hb, h.sep, h.bel.trans (hb.mono h.bel.size), h.hp0, h.mb0, h.few⟩
theorem St.alloc (h : St w0 w hp mb P D n vyo vyf va i k) {tag : Int} {sz : Nat} (hsz : sz ≤ 7) (q : AllocG w0.heap.size w hp mb P D n tag sz vyo vyf (.slice none 0 0) (.slice none 0 0) (.slice none 0 0) w') : ∃ P' D' n' vo vf, St w0 w' hp mb P' D' n' vo vf va (i + 1) k := by
  have hb := q.below h.hpg h.hp0 h.mb0
  obtain ⟨vo, vf, h2, hk, h3, h4, hs, _⟩ := q
  have tH : Typ w hp 51 := ⟨_, _, h.hpg.at'.blk⟩
  obtain ⟨es, cl, m1, _⟩ := h.hpg.own
  refine ⟨_, _, _, vo, vf, h2, h.ph.alloc tag hsz _, owns_move h.all fun j hj => ?_, fun j hj => ?_, h.bel.trans hb, h.hp0, h.mb0, by have := h.few; omega⟩
  · have tj := owns_ty h.all hj
    exact hk j tj.lt (tj.ne tH (by decide)) (not_map m1 tj) (fun e => tj.ne (owns_ty h.hpg.at'.yo e) (by decide) rfl) (h.sep j hj)
  · rcases h4 with e | e
    · rw [e]
      exact h.sep j hj
    · intro e2
      have := e j e2
      have := (owns_ty h.all hj).lt
      omega
theorem HpG.other {B : Nat} {voo vof vn : Value} (h : HpG B w hp mb P D n vyo vyf voo vof vn) {r : Option Nat} (hg : w.grownBy w' r) (hr : ∀ j, r = some j → Typ w j 34 ∧ vyf.ownBlock ≠ some j ∧ vof.ownBlock ≠ some j) : HpG B w' hp mb P D n vyo vyf voo vof vn := by
  obtain ⟨es, cl, m1, m2⟩ := h.own
  have mv : ∀ {k t}, Typ w k t → (∀ j, r = some j → k ≠ j) → w'.heap[k]? = w.heap[k]? := fun hk hne => hg.block _ hk.lt (fun e => hne _ e.symm rfl)
  have mt : ∀ {k t}, Typ w k t → t ≠ 34 → w'.heap[k]? = w.heap[k]? := fun hk hne => mv hk (fun j hj => hk.ne (hr j hj).1 hne)
  have tH : Typ w hp 51 := ⟨_, _, h.at'.blk⟩
  have hm : w'.heap[mb]? = w.heap[mb]? := hg.block _ (hlt m1) (fun e => not_map m1 (hr mb e.symm).1 rfl)
  exact ⟨⟨(mt tH (by decide)).trans h.at'.blk, owns_move h.at'.yo fun j hj => mt (owns_ty h.at'.yo hj) (by decide), owns_move h.at'.yf fun j hj => mv (owns_ty h.at'.yf hj) (fun j' hj' e => (hr j' hj').2.1 (e ▸ hj)), owns_move h.at'.oo fun j hj => mt (owns_ty h.at'.oo hj) (by decide), owns_move h.at'.of' fun j hj => mv (owns_ty h.at'.of' hj) (fun j' hj' e => (hr j' hj').2.2 (e ▸ hj)), owns_move h.at'.nt fun j hj => mt (owns_ty h.at'.nt hj) (by decide)⟩, ⟨es, cl, hm.trans m1, m2⟩, h.ao, h.af, h.small, h.few, h.two, h.cnt, h.pot, h.top, h.vals, Nat.le_trans h.hB hg.size⟩
/-- One more is appended. -/
theorem St.more (h : St w0 w hp mb P D n vyo vyf va i k) {g cap : Nat} (ho : w'.ownsRow w0.heap.size 34 3 (.slice (some ⟨g, 0, none⟩) (k + 1) cap) (k + 1) (allRow k ++ vCells (refV k))) (hg : w.grownBy w' va.ownBlock) (hat : va.ownBlock = some g ∨ g = w.heap.size) : St w0 w' hp mb P D n vyo vyf (.slice (some ⟨g, 0, none⟩) (k + 1) cap) i (k + 1) := by
  refine ⟨h.hpg.other hg (fun j hj => ⟨owns_ty h.all hj, h.sep j hj, by simp [Value.ownBlock]⟩), h.ph, by rw [allRow_succ]; exact ho, fun j hj => ?_, ⟨hg.os.trans h.bel.os, hg.tape.trans h.bel.tape, hg.output.trans h.bel.output, Nat.le_trans h.bel.size hg.size, fun j hj => (hg.block j (Nat.lt_of_lt_of_le hj h.bel.size) (fun e => own_not h.all hj e.symm)).trans (h.bel.block j hj)⟩, h.hp0, h.mb0, h.few⟩
  have e : g = j := by
    simp only [Value.ownBlock] at hj
    exact Option.some.inj hj
  subst e
  rcases hat with q | q
  · exact h.sep g q
  · intro e
    have := (owns_ty h.hpg.at'.yf e).lt
    omega
theorem St.set (h : St w0 w hp mb P D n vyo vyf va i k) {q : Nat} {v : HV} (hv : v.kind = 4 → ∃ j : Nat, j < i ∧ v.n = 1 + 2 * (j : Int)) (hs : SetG w0.heap.size w hp mb P D n q v vyo vyf (.slice none 0 0) (.slice none 0 0) (.slice none 0 0) w') : St w0 w' hp mb { P with Y := setF P.Y q v } D n vyo vyf va i k := by
  have hb := hs.below h.hpg
  obtain ⟨h2, hk, _⟩ := hs
  exact ⟨h2, h.ph.set q hv, owns_move h.all fun j hj => hk j (owns_ty h.all hj).lt (h.sep j hj), h.sep, h.bel.trans hb, h.hp0, h.mb0, h.few⟩
/-- A value of the list. -/
theorem St.ref (h : St w0 w hp mb P D n vyo vyf va i k) {j : Nat} (hj : j < k) : ∃ g cap, va = .slice (some ⟨g, 0, none⟩) k cap ∧ w.cell? ⟨g, j * 3, none⟩ = some (.int .i64 4) ∧ w.cell? ⟨g, j * 3 + 1, none⟩ = some (.int .i64 (1 + 2 * (j : Int))) ∧ w.cell? ⟨g, j * 3 + 2, none⟩ = some (.string ⟨#[]⟩) := by
  have hg : ((List.range k).map refV)[j]? = some (refV j) := by simp [hj]
  obtain ⟨g, cap, e, _, h0, _⟩ := owns_get h.all (j := j * 3) (by omega)
  obtain ⟨g1, cap1, e1, _, h1, _⟩ := owns_get h.all (j := j * 3 + 1) (by omega)
  obtain ⟨g2, cap2, e2, _, h2, _⟩ := owns_get h.all (j := j * 3 + 2) (by omega)
  rw [e] at e1 e2
  cases e1
  cases e2
  refine ⟨g, cap, e, h0.trans ?_, h1.trans ?_, h2.trans ?_⟩
  · exact vals_get hg (j := 0) (by omega)
  · exact vals_get hg (j := 1) (by omega)
  · exact vals_get hg (j := 2) (by omega)
end
end Go.Proofs.Ytddfdefgdlfpmaa
