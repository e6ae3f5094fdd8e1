/-
  Layer 8: bands that are cut elsewhere, joined, or narrower; each two of them. Conditions: those written at each fact.
-/
import Derived.Test.YtmkminaipeodnaaMaA
namespace Go.Proofs.Ytmkminaipeodnaa.P8
open Go.RowKit

theorem Cov.zero {l : List Bd} (h : l = []) : Cov l 0 := by subst h; exact .nil
theorem cov_append : ∀ {l1 l2 : List Bd} {a b : Nat}, Cov l1 a → Cov l2 b → Cov (l1 ++ l2) (a + b) := by
  intro l1 l2 a b h
  induction h with
  | nil => intro h2; simpa using h2
  | @cons l m p v h1 h2 h3 h4 ih =>
    intro k
    have e : m + 1 + b = (m + b) + 1 := by omega
    rw [e]
    refine .cons p v h1 (by rw [List.length_append]; omega) ?_ ?_
    · rw [List.take_append_of_le_length h2]; exact h3
    · rw [List.drop_append_of_le_length h2]; exact ih k
theorem cov_split {l : List Bd} {m : Nat} (h : Cov l m) : ∀ k, k ≤ l.length → ∃ a b, Cov (l.take k) a ∧ Cov (l.drop k) b ∧ a + b ≤ m + 1 ∧ a ≤ m ∧ b ≤ m := by
  induction h with
  | nil => intro k _; exact ⟨0, 0, Cov.zero (by simp), Cov.zero (by simp), by omega, by omega, by omega⟩
  | @cons l m p v h1 h2 h3 h4 ih =>
    intro k hk
    by_cases g0 : k = 0
    · subst g0
      exact ⟨0, m + 1, Cov.zero (by simp), by simpa using Cov.cons p v h1 h2 h3 h4, by omega, by omega, by omega⟩
    by_cases gp : k ≤ p
    · have c1 : Cov (l.take k) 1 := by
        refine Cov.cons (m := 0) k v (by omega) (by rw [List.length_take]; omega) ?_ (Cov.zero (by simp))
        rw [List.take_take, Nat.min_self]
        exact h3.sub fun b hb => List.mem_of_mem_take (i := k) (by rwa [List.take_take, Nat.min_eq_left gp])
      by_cases ge : k = p
      · subst ge
        exact ⟨1, m, c1, h4, by omega, by omega, by omega⟩
      · refine ⟨1, m + 1, c1, ?_, by omega, by omega, by omega⟩
        refine Cov.cons (p - k) v (by omega) (by rw [List.length_drop]; omega) ?_ ?_
        · have e : (l.drop k).take (p - k) = (l.take p).drop k := by rw [List.drop_take]
          rw [e]
          exact h3.sub fun b hb => List.mem_of_mem_drop hb
        · rw [List.drop_drop, show k + (p - k) = p by omega]; exact h4
    · obtain ⟨a, b, ca, cb, hab, ha, hb⟩ := ih (k - p) (by rw [List.length_drop]; omega)
      refine ⟨a + 1, b, ?_, ?_, by omega, by omega, by omega⟩
      · refine Cov.cons p v h1 (by rw [List.length_take]; omega) ?_ ?_
        · rw [List.take_take, Nat.min_eq_left (by omega)]; exact h3
        · rw [List.drop_take]; exact ca
      · rw [List.drop_drop, show p + (k - p) = k by omega] at cb
        exact cb
/-- Bands have no more parts than their first ones and the others by themselves, and at most one less; and no fewer than either. -/
theorem joins {l : List Bd} (hR : ∀ b ∈ l, BdOk b) (k : Nat) (hk : k ≤ l.length) :
    (cutN l).length ≤ (cutN (l.take k)).length + (cutN (l.drop k)).length ∧ (cutN (l.take k)).length ≤ (cutN l).length ∧ (cutN (l.drop k)).length ≤ (cutN l).length ∧
      (cutN (l.take k)).length + (cutN (l.drop k)).length ≤ (cutN l).length + 1 := by
  have c1 := cov_cut (l := l.take k) fun b hb => hR b (List.mem_of_mem_take hb)
  have c2 := cov_cut (l := l.drop k) fun b hb => hR b (List.mem_of_mem_drop hb)
  have c := cov_append c1 c2
  rw [List.take_append_drop] at c
  obtain ⟨a, b, ca, cb, hab, ha, hb⟩ := cov_split (cov_cut hR) k hk
  have h1 := least_cut c
  have h2 := least_cut ca
  have h3 := least_cut cb
  omega
/-- Narrower bands. -/
def Nar (l m : List Bd) : Prop := l.length = m.length ∧ ∀ (i : Nat) (b c : Bd), l[i]? = some b → m[i]? = some c → b.lo ≤ c.lo ∧ c.hi ≤ b.hi
theorem Nar.take {l m : List Bd} (h : Nar l m) (k : Nat) : Nar (l.take k) (m.take k) := by
  refine ⟨by rw [List.length_take, List.length_take, h.1], fun i b c h1 h2 => ?_⟩
  rw [List.getElem?_take] at h1 h2
  split at h1
  · rename_i hi
    rw [if_pos hi] at h2
    exact h.2 i b c h1 h2
  · cases h1
theorem Nar.drop {l m : List Bd} (h : Nar l m) (k : Nat) : Nar (l.drop k) (m.drop k) := by
  refine ⟨by rw [List.length_drop, List.length_drop, h.1], fun i b c h1 h2 => ?_⟩
  rw [List.getElem?_drop] at h1 h2
  exact h.2 _ b c h1 h2
theorem Nar.thru {l m : List Bd} (h : Nar l m) {v : Int} (hm : Thru m v) : Thru l v := by
  intro b hb
  obtain ⟨i, hi⟩ := List.mem_iff_getElem?.1 hb
  have hl : i < m.length := by rw [← h.1]; exact (List.getElem?_eq_some_iff.1 hi).1
  have h2 := h.2 i b _ hi (List.getElem?_eq_getElem hl)
  have h3 := hm m[i] (List.getElem_mem hl)
  omega
theorem cov_narrow {m : List Bd} {n : Nat} (h : Cov m n) : ∀ l, Nar l m → Cov l n := by
  induction h with
  | nil => intro l hl; exact Cov.zero (List.eq_nil_of_length_eq_zero (by rw [hl.1]; rfl))
  | @cons m n p v h1 h2 h3 h4 ih =>
    intro l hl
    exact .cons p v h1 (by rw [hl.1]; exact h2) ((hl.take p).thru h3) (ih _ (hl.drop p))
theorem narrows {l m : List Bd} (hR : ∀ b ∈ m, BdOk b) (h : Nar l m) : (cutN l).length ≤ (cutN m).length := least_cut (cov_narrow (cov_cut hR) l h)

/-- Of all bands: whether the first part is all of them, and what is told. -/
theorem all_thru {l : List Bd} (hne : l ≠ []) (h : ¬ (firstD l).n < l.length) (v : Int) : ((firstD l).lo ≤ v ∧ v ≤ (firstD l).hi) ↔ Thru l v := by
  have := first_thru hne v
  rwa [List.take_of_length_le (by omega)] at this
theorem none_thru {l : List Bd} (h : (firstD l).n < l.length) (v : Int) : ¬ Thru l v := fun h2 => first_max h v (h2.sub fun _ hb => List.mem_of_mem_take hb)
theorem max_r {a b : Int} (h : a ≤ b) : max a b = b := by omega
theorem max_l {a b : Int} (h : ¬ a ≤ b) : max a b = a := by omega
theorem min_r {a b : Int} (h : b ≤ a) : min a b = b := by omega
theorem min_l {a b : Int} (h : ¬ b ≤ a) : min a b = a := by omega
theorem goM_ends : ∀ (l : List Bd) (lo hi : Int), ((goM lo hi l).2.1 = lo ∨ ∃ b ∈ l, (goM lo hi l).2.1 = b.lo) ∧ ((goM lo hi l).2.2 = hi ∨ ∃ b ∈ l, (goM lo hi l).2.2 = b.hi)
  | [], lo, hi => ⟨.inl rfl, .inl rfl⟩
  | b :: l, lo, hi => by
    by_cases g : min hi b.hi < max lo b.lo
    · rw [goM_stop g]; exact ⟨.inl rfl, .inl rfl⟩
    · rw [goM_next g]
      obtain ⟨h1, h2⟩ := goM_ends l (max lo b.lo) (min hi b.hi)
      refine ⟨?_, ?_⟩
      · rcases h1 with h1 | ⟨c, hc, h1⟩
        · by_cases g1 : lo ≤ b.lo
          · exact .inr ⟨b, by simp, h1.trans (max_r g1)⟩
          · exact .inl (h1.trans (max_l g1))
        · exact .inr ⟨c, by simp [hc], h1⟩
      · rcases h2 with h2 | ⟨c, hc, h2⟩
        · by_cases g1 : b.hi ≤ hi
          · exact .inr ⟨b, by simp, h2.trans (min_r g1)⟩
          · exact .inl (h2.trans (min_l g1))
        · exact .inr ⟨c, by simp [hc], h2⟩
/-- Both ends of what is told are ends of bands. -/
theorem first_ends {l : List Bd} (hne : l ≠ []) : (∃ b ∈ l, (firstD l).lo = b.lo) ∧ (∃ b ∈ l, (firstD l).hi = b.hi) := by
  obtain ⟨b, l', rfl⟩ := List.exists_cons_of_ne_nil hne
  obtain ⟨h1, h2⟩ := goM_ends l' b.lo b.hi
  simp only [firstD]
  refine ⟨?_, ?_⟩
  · rcases h1 with h1 | ⟨c, hc, h1⟩
    · exact ⟨b, by simp, h1⟩
    · exact ⟨c, by simp [hc], h1⟩
  · rcases h2 with h2 | ⟨c, hc, h2⟩
    · exact ⟨b, by simp, h2⟩
    · exact ⟨c, by simp [hc], h2⟩
theorem max_of : ∀ (l : List Bd), l ≠ [] → (∃ b ∈ l, ∀ c ∈ l, c.lo ≤ b.lo) ∧ (∃ b ∈ l, ∀ c ∈ l, b.hi ≤ c.hi)
  | [], h => absurd rfl h
  | [b], _ => ⟨⟨b, by simp, by simp⟩, ⟨b, by simp, by simp⟩⟩
  | b :: c :: l, _ => by
    obtain ⟨⟨x, hx, h1⟩, ⟨y, hy, h2⟩⟩ := max_of (c :: l) (by simp)
    refine ⟨?_, ?_⟩
    · by_cases g : x.lo ≤ b.lo
      · refine ⟨b, by simp, fun z hz => ?_⟩
        rcases List.mem_cons.1 hz with rfl | hz
        · exact Int.le_refl _
        · exact Int.le_trans (h1 z hz) g
      · refine ⟨x, List.mem_cons_of_mem _ hx, fun z hz => ?_⟩
        rcases List.mem_cons.1 hz with rfl | hz
        · omega
        · exact h1 z hz
    · by_cases g : b.hi ≤ y.hi
      · refine ⟨b, by simp, fun z hz => ?_⟩
        rcases List.mem_cons.1 hz with rfl | hz
        · exact Int.le_refl _
        · exact Int.le_trans g (h2 z hz)
      · refine ⟨y, List.mem_cons_of_mem _ hy, fun z hz => ?_⟩
        rcases List.mem_cons.1 hz with rfl | hz
        · omega
        · exact h2 z hz
/-- A constant goes through bands, if one goes through each two of them. -/
theorem pairs_thru {l : List Bd} (hne : l ≠ []) (h : ∀ b ∈ l, ∀ c ∈ l, b.lo ≤ c.hi) : ∃ v, Thru l v := by
  obtain ⟨⟨b, hb, h1⟩, _⟩ := max_of l hne
  exact ⟨b.lo, fun c hc => ⟨h1 c hc, h b hb c hc⟩⟩
end Go.Proofs.Ytmkminaipeodnaa.P8
