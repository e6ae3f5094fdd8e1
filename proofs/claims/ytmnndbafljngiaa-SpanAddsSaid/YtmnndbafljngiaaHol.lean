/-
  Layer 4: plain facts for the law SpanHolds, and rows of the call's own. Conditions: those written at each fact.
-/
import Derived.Test.YtmnndbafljngiaaGueB
import Derived.Test.YtmnndbafljngiaaSpL
namespace Go.Proofs.Ytmnndbafljngiaa
open Go.RowKit

theorem foldl_min : ∀ (l : List Int) (a : Int), l.foldl min a ≤ a ∧ (∀ x ∈ l, l.foldl min a ≤ x) ∧ (l.foldl min a = a ∨ l.foldl min a ∈ l)
  | [], a => ⟨Int.le_refl _, by simp, .inl rfl⟩
  | x :: l, a => by
    obtain ⟨h1, h2, h3⟩ := foldl_min l (min a x)
    rw [List.foldl_cons]
    refine ⟨by omega, fun y hy => ?_, ?_⟩
    · rcases List.mem_cons.1 hy with rfl | hy
      · omega
      · exact h2 y hy
    · rcases h3 with h3 | h3
      · by_cases g : a ≤ x
        · exact .inl (by omega)
        · exact .inr (by rw [h3, show min a x = x by omega]; exact List.mem_cons_self ..)
      · exact .inr (List.mem_cons_of_mem _ h3)
theorem foldl_max : ∀ (l : List Int) (a : Int), a ≤ l.foldl max a ∧ (∀ x ∈ l, x ≤ l.foldl max a) ∧ (l.foldl max a = a ∨ l.foldl max a ∈ l)
  | [], a => ⟨Int.le_refl _, by simp, .inl rfl⟩
  | x :: l, a => by
    obtain ⟨h1, h2, h3⟩ := foldl_max l (max a x)
    rw [List.foldl_cons]
    refine ⟨by omega, fun y hy => ?_, ?_⟩
    · rcases List.mem_cons.1 hy with rfl | hy
      · omega
      · exact h2 y hy
    · rcases h3 with h3 | h3
      · by_cases g : x ≤ a
        · exact .inl (by omega)
        · exact .inr (by rw [h3, show max a x = x by omega]; exact List.mem_cons_self ..)
      · exact .inr (List.mem_cons_of_mem _ h3)
theorem foldS_one (f g : Int → Int → Int) : ∀ (l : List (Int × Int)) (a : Int × Int), foldS f g a l = ((l.map Prod.fst).foldl f a.1, (l.map Prod.snd).foldl g a.2)
  | [], a => rfl
  | s :: l, a => by
    have := foldS_one f g l (f a.1 s.1, g a.2 s.2)
    unfold foldS at *
    rw [List.foldl_cons, this]
    rfl
/-- The least, and the greatest, of both ends. -/
structure Ends (P : List (Int × Int)) (a0 a1 b0 b1 : Int) : Prop where
  all : ∀ s ∈ P, a0 ≤ s.1 ∧ a1 ≤ s.2 ∧ s.1 ≤ b0 ∧ s.2 ≤ b1
  a0 : ∃ s ∈ P, s.1 = a0
  a1 : ∃ s ∈ P, s.2 = a1
  b0 : ∃ s ∈ P, s.1 = b0
  b1 : ∃ s ∈ P, s.2 = b1
theorem ends_of (s : Int × Int) (t : List (Int × Int)) : ∃ a0 a1 b0 b1, accS min min (s :: t) = (a0, a1) ∧ accS max max (s :: t) = (b0, b1) ∧ accS min max (s :: t) = (a0, b1) ∧ accS max min (s :: t) = (b0, a1) ∧ Ends (s :: t) a0 a1 b0 b1 := by
  have e : ∀ f g, accS f g (s :: t) = (((s :: t).map Prod.fst).foldl f s.1, ((s :: t).map Prod.snd).foldl g s.2) := fun f g => foldS_one f g (s :: t) s
  refine ⟨_, _, _, _, e _ _, e _ _, e _ _, e _ _, ?_⟩
  obtain ⟨p1, p2, p3⟩ := foldl_min ((s :: t).map Prod.fst) s.1
  obtain ⟨q1, q2, q3⟩ := foldl_min ((s :: t).map Prod.snd) s.2
  obtain ⟨r1, r2, r3⟩ := foldl_max ((s :: t).map Prod.fst) s.1
  obtain ⟨u1, u2, u3⟩ := foldl_max ((s :: t).map Prod.snd) s.2
  have at1 : ∀ z, (z = s.1 ∨ z ∈ (s :: t).map Prod.fst) → ∃ x ∈ s :: t, x.1 = z := by
    rintro z (rfl | h)
    · exact ⟨s, List.mem_cons_self .., rfl⟩
    · obtain ⟨x, h1, h2⟩ := List.mem_map.1 h; exact ⟨x, h1, h2⟩
  have at2 : ∀ z, (z = s.2 ∨ z ∈ (s :: t).map Prod.snd) → ∃ x ∈ s :: t, x.2 = z := by
    rintro z (rfl | h)
    · exact ⟨s, List.mem_cons_self .., rfl⟩
    · obtain ⟨x, h1, h2⟩ := List.mem_map.1 h; exact ⟨x, h1, h2⟩
  exact ⟨fun x hx => ⟨p2 _ (List.mem_map_of_mem hx), q2 _ (List.mem_map_of_mem hx), r2 _ (List.mem_map_of_mem hx), u2 _ (List.mem_map_of_mem hx)⟩, at1 _ p3, at2 _ q3, at1 _ r3, at2 _ u3⟩

/-- A slice of spans of the call's own that is not nil. -/
def OwnS (W : World) (g c : Nat) (l : List (Int × Int)) : Prop := ∀ i s, l[i]? = some s → g < W.heap.size ∧ W.cell? ⟨g, i * 2, none⟩ = some (.int .i64 s.1) ∧ W.cell? ⟨g, i * 2 + 1, none⟩ = some (.int .i64 s.2) ∧ W.frozen? ⟨g, i * 2, none⟩ = false ∧ W.frozen? ⟨g, i * 2 + 1, none⟩ = false ∧ l.length ≤ c
def OwnI (W : World) (g c : Nat) (l : List Int) : Prop := ∀ i z, l[i]? = some z → g < W.heap.size ∧ W.cell? ⟨g, i, none⟩ = some (.int .i64 z) ∧ W.frozen? ⟨g, i, none⟩ = false ∧ l.length ≤ c
theorem OwnS.below {W w' : World} {g c : Nat} {l : List (Int × Int)} (h : OwnS W g c l) (hb : Below W.heap.size W w') : OwnS w' g c l := fun i s hs => by
  obtain ⟨h1, h2, h3, h4, h5, h6⟩ := h i s hs
  exact ⟨Nat.lt_of_lt_of_le h1 hb.size, (hb.cell (by exact h1)).trans h2, (hb.cell (by exact h1)).trans h3, (hb.frozen (by exact h1)).trans h4, (hb.frozen (by exact h1)).trans h5, h6⟩
theorem OwnI.below {W w' : World} {g c : Nat} {l : List Int} (h : OwnI W g c l) (hb : Below W.heap.size W w') : OwnI w' g c l := fun i s hs => by
  obtain ⟨h1, h2, h3, h4⟩ := h i s hs
  exact ⟨Nat.lt_of_lt_of_le h1 hb.size, (hb.cell (by exact h1)).trans h2, (hb.frozen (by exact h1)).trans h3, h4⟩
theorem OwnS.reads {W : World} {g c : Nat} {l : List (Int × Int)} (h : OwnS W g c l) : ReadsS W (.slice (some ⟨g, 0, none⟩) l.length c) l :=
  ⟨_, _, rfl, fun i s hs => ⟨g, 0, rfl, (h i s hs).1, by simpa using (h i s hs).2.1, by simpa using (h i s hs).2.2.1⟩⟩
theorem ownS_of {w : World} {B : Nat} {t : TypeId} {v : Value} {l : List (Int × Int)} (h : w.ownsRow B t 2 v l.length (flatS l)) (hne : l ≠ []) : ∃ g c, v = .slice (some ⟨g, 0, none⟩) l.length c ∧ OwnS w g c l ∧ B ≤ g := by
  obtain ⟨hl, h⟩ := h
  rcases h with ⟨rfl, h0⟩ | ⟨g, cap, cur, rfl, hB, hg, hn, _, hs, ht⟩
  · exact absurd (List.eq_nil_of_length_eq_zero h0) hne
  · refine ⟨g, cap, rfl, fun i s hi => ⟨(Array.getElem?_eq_some_iff.1 hg).1, ?_, ?_, ?_, ?_, hn⟩, hB⟩
    all_goals
      have hi' : i < l.length := (List.getElem?_eq_some_iff.1 hi).1
      obtain ⟨e1, e2⟩ := flatS_at l i s hi
      rw [← ht, List.getElem?_take, if_pos (by omega)] at e1
      rw [← ht, List.getElem?_take, if_pos (by omega)] at e2
    · simp [World.cell?, hg]; simpa using e1
    · simp [World.cell?, hg]; simpa using e2
    · simp [World.frozen?, hg]
    · simp [World.frozen?, hg]
theorem ownI_of {w : World} {B : Nat} {t : TypeId} {v : Value} {l : List Int} (h : w.ownsRow B t 1 v l.length (l.map (Value.int .i64))) (hne : l ≠ []) : ∃ g c, v = .slice (some ⟨g, 0, none⟩) l.length c ∧ OwnI w g c l ∧ B ≤ g := by
  obtain ⟨hl, h⟩ := h
  rcases h with ⟨rfl, h0⟩ | ⟨g, cap, cur, rfl, hB, hg, hn, _, hs, ht⟩
  · exact absurd (List.eq_nil_of_length_eq_zero h0) hne
  · refine ⟨g, cap, rfl, fun i z hi => ⟨(Array.getElem?_eq_some_iff.1 hg).1, ?_, ?_, hn⟩, hB⟩
    · have hi' : i < l.length := (List.getElem?_eq_some_iff.1 hi).1
      have e : (l.map (Value.int .i64))[i]? = some (.int .i64 z) := by rw [List.getElem?_map, hi]; rfl
      rw [← ht, List.getElem?_take, if_pos (by omega)] at e
      simp [World.cell?, hg]; simpa using e
    · simp [World.frozen?, hg]
theorem badS_good {l : List (Int × Int)} (h : ∀ s ∈ l, s.1 ≤ s.2) : badS l = false := by
  unfold badS
  rw [List.any_eq_false]
  intro s hs
  have := h s hs
  simp
  omega
theorem resS_good (f g : Int → Int → Int) (s : Int × Int) (t : List (Int × Int)) (h : ∀ x ∈ s :: t, x.1 ≤ x.2) {a b : Int} (e : accS f g (s :: t) = (a, b)) : resS f g (s :: t) = .tuple #[spV a b, .int .i64 0] := by
  unfold resS
  rw [if_neg (by simp), badS_good h, if_neg (by simp), e]
/-- Spans that are right, and a number in each. -/
def PairPQ (P : List (Int × Int)) (Q : List Int) : Prop := Q.length = P.length ∧ ∀ (i : Nat) (s : Int × Int) (q : Int), P[i]? = some s → Q[i]? = some q → s.1 ≤ q ∧ q ≤ s.2
theorem pair_mem {P : List (Int × Int)} {Q : List Int} (h : PairPQ P Q) {q : Int} (hq : q ∈ Q) : ∃ s ∈ P, s.1 ≤ q ∧ q ≤ s.2 := by
  obtain ⟨i, hi, rfl⟩ := List.mem_iff_getElem.1 hq
  have hp : i < P.length := by have := h.1; omega
  exact ⟨P[i], List.getElem_mem hp, h.2 i _ _ (List.getElem?_eq_getElem hp) (List.getElem?_eq_getElem hi)⟩
theorem pair_mem2 {P : List (Int × Int)} {Q : List Int} (h : PairPQ P Q) {s : Int × Int} (hs : s ∈ P) : ∃ q ∈ Q, s.1 ≤ q ∧ q ≤ s.2 := by
  obtain ⟨i, hi, rfl⟩ := List.mem_iff_getElem.1 hs
  have hp : i < Q.length := by have := h.1; omega
  exact ⟨Q[i], List.getElem_mem hp, h.2 i _ _ (List.getElem?_eq_getElem hi) (List.getElem?_eq_getElem hp)⟩
theorem holds_facts {P : List (Int × Int)} {Q : List Int} (h : PairPQ P Q) (hR : ∀ s ∈ P, s.1 ≤ s.2) {a0 a1 b0 b1 : Int} (hE : Ends P a0 a1 b0 b1) :
    (∀ q ∈ Q, a0 ≤ q ∧ q ≤ b1) ∧ (∀ m, (∀ q ∈ Q, m ≤ q) → m ≤ a1) ∧ (∀ m, (∀ q ∈ Q, q ≤ m) → b0 ≤ m) ∧ (∀ m, (∀ s ∈ P, s.2 - s.1 ≤ m) → a1 - a0 ≤ m ∧ b1 - b0 ≤ m) ∧ a0 ≤ a1 ∧ b0 ≤ b1 ∧ a0 ≤ b0 ∧ a1 ≤ b1 := by
  obtain ⟨s1, h1, e1⟩ := hE.a0
  obtain ⟨s2, h2, e2⟩ := hE.a1
  obtain ⟨s3, h3, e3⟩ := hE.b0
  obtain ⟨s4, h4, e4⟩ := hE.b1
  have f1 := hE.all _ h1
  have f2 := hE.all _ h2
  have f3 := hE.all _ h3
  have f4 := hE.all _ h4
  have r1 := hR _ h1
  have r2 := hR _ h2
  have r3 := hR _ h3
  have r4 := hR _ h4
  refine ⟨fun q hq => ?_, fun m hm => ?_, fun m hm => ?_, fun m hm => ?_, by omega, by omega, by omega, by omega⟩
  · obtain ⟨s, hs, k⟩ := pair_mem h hq
    have := hE.all _ hs
    omega
  · obtain ⟨q, hq, k⟩ := pair_mem2 h h2
    have := hm _ hq
    omega
  · obtain ⟨q, hq, k⟩ := pair_mem2 h h3
    have := hm _ hq
    omega
  · have k1 := hm _ h1
    have k4 := hm _ h4
    omega
theorem pair_kept (l : List (Int × Int × Int)) : PairPQ (spansG (keptG l)) (numsG (keptG l)) := by
  refine ⟨by simp [spansG, numsG], fun i s q h1 h2 => ?_⟩
  unfold spansG at h1
  unfold numsG at h2
  rw [List.getElem?_map] at h1 h2
  cases hx : (keptG l)[i]? with
  | none => rw [hx] at h1; cases h1
  | some x =>
    rw [hx] at h1 h2
    injection h1 with h1
    injection h2 with h2
    subst h1 h2
    have hm := List.mem_of_getElem? hx
    unfold keptG at hm
    have := (List.mem_filter.1 hm).2
    exact lies_range _ _ _ (by simpa using this)
theorem right_kept (l : List (Int × Int × Int)) : ∀ s ∈ spansG (keptG l), s.1 ≤ s.2 := by
  intro s hs
  obtain ⟨x, hx, rfl⟩ := List.mem_map.1 hs
  unfold keptG at hx
  simpa using (List.mem_filter.1 hx).2
theorem ok_kept {l : List (Int × Int × Int)} (h : OkG l) : OkS (spansG (keptG l)) := by
  intro s hs
  obtain ⟨x, hx, rfl⟩ := List.mem_map.1 hs
  unfold keptG at hx
  obtain ⟨h1, h2, h3, h4, _⟩ := h x (List.mem_of_mem_take (List.mem_filter.1 hx).1)
  exact ⟨h1, h2, h3, h4⟩
end Go.Proofs.Ytmnndbafljngiaa
