/-
  Layer 8: the parts of bands, in numbers: the first part is the longest one, and no other way has fewer parts. Conditions: those written at each fact.
-/
import Derived.Test.YtmkminaipeodnaaBdK
namespace Go.Proofs.Ytmkminaipeodnaa.P8
open Go.RowKit

/-- A constant goes through bands. -/
def Thru (l : List Bd) (v : Int) : Prop := ∀ b ∈ l, b.lo ≤ v ∧ v ≤ b.hi
theorem Thru.nil (v : Int) : Thru [] v := fun b hb => by simp at hb
theorem thru_cons {b : Bd} {l : List Bd} {v : Int} : Thru (b :: l) v ↔ (b.lo ≤ v ∧ v ≤ b.hi) ∧ Thru l v := by
  unfold Thru
  simp
theorem Thru.sub {l m : List Bd} {v : Int} (h : Thru l v) (hs : ∀ b ∈ m, b ∈ l) : Thru m v := fun b hb => h b (hs b hb)
theorem goM_inv : ∀ (l : List Bd) (lo hi : Int), lo ≤ hi → lo ≤ (goM lo hi l).2.1 ∧ (goM lo hi l).2.1 ≤ (goM lo hi l).2.2 ∧ (goM lo hi l).2.2 ≤ hi
  | [], lo, hi, h => ⟨Int.le_refl _, h, Int.le_refl _⟩
  | b :: l, lo, hi, h => by
    by_cases g : min hi b.hi < max lo b.lo
    · rw [goM_stop g]; exact ⟨Int.le_refl _, h, Int.le_refl _⟩
    · rw [goM_next g]
      obtain ⟨h1, h2, h3⟩ := goM_inv l (max lo b.lo) (min hi b.hi) (by omega)
      simp only
      omega
theorem goM_thru : ∀ (l : List Bd) (lo hi v : Int), ((goM lo hi l).2.1 ≤ v ∧ v ≤ (goM lo hi l).2.2) ↔ ((lo ≤ v ∧ v ≤ hi) ∧ Thru (l.take (goM lo hi l).1) v)
  | [], lo, hi, v => by simp [goM, Thru.nil]
  | b :: l, lo, hi, v => by
    by_cases g : min hi b.hi < max lo b.lo
    · rw [goM_stop g]; simp [Thru.nil]
    · rw [goM_next g]
      have h1 := goM_thru l (max lo b.lo) (min hi b.hi) v
      simp only [List.take_succ_cons]
      rw [h1, thru_cons]
      constructor
      · rintro ⟨h2, h3⟩
        exact ⟨by omega, by omega, h3⟩
      · rintro ⟨h2, h3, h4⟩
        exact ⟨by omega, h4⟩
theorem goM_max : ∀ (l : List Bd) (lo hi v : Int), (goM lo hi l).1 < l.length → lo ≤ v → v ≤ hi → ¬ Thru (l.take ((goM lo hi l).1 + 1)) v
  | [], lo, hi, v, h, _, _ => by simp at h
  | b :: l, lo, hi, v, h, h1, h2 => by
    by_cases g : min hi b.hi < max lo b.lo
    · rw [goM_stop g]
      intro h3
      have := h3 b (by simp)
      omega
    · rw [goM_next g] at h ⊢
      simp only [List.length_cons] at h
      simp only [List.take_succ_cons]
      rw [thru_cons]
      rintro ⟨h3, h4⟩
      have hl : (goM (max lo b.lo) (min hi b.hi) l).1 < l.length := by omega
      refine goM_max l (max lo b.lo) (min hi b.hi) v hl (by omega) (by omega) ?_
      have e : (l.take ((goM (max lo b.lo) (min hi b.hi) l).1 + 1)) = (l.take ((goM (max lo b.lo) (min hi b.hi) l).1 + 1)) := rfl
      exact h4
theorem first_n {l : List Bd} (hne : l ≠ []) : 1 ≤ (firstD l).n ∧ (firstD l).n ≤ l.length := by
  obtain ⟨b, l', rfl⟩ := List.exists_cons_of_ne_nil hne
  have := goM_le l' b.lo b.hi
  simp only [firstD, List.length_cons]
  omega
theorem first_thru {l : List Bd} (hne : l ≠ []) (v : Int) : ((firstD l).lo ≤ v ∧ v ≤ (firstD l).hi) ↔ Thru (l.take (firstD l).n) v := by
  obtain ⟨b, l', rfl⟩ := List.exists_cons_of_ne_nil hne
  simp only [firstD, List.take_succ_cons]
  rw [goM_thru, thru_cons]
theorem first_max {l : List Bd} (hl : (firstD l).n < l.length) (v : Int) : ¬ Thru (l.take ((firstD l).n + 1)) v := by
  cases l with
  | nil => simp at hl
  | cons b l' =>
    simp only [firstD, List.length_cons] at hl
    simp only [firstD, List.take_succ_cons]
    rw [thru_cons]
    rintro ⟨h1, h2⟩
    exact goM_max l' b.lo b.hi v (by omega) h1.1 h1.2 h2
theorem first_le {l : List Bd} (hR : ∀ b ∈ l, BdOk b) (hne : l ≠ []) : -2305844108725321728 ≤ (firstD l).lo ∧ (firstD l).lo ≤ (firstD l).hi ∧ (firstD l).hi ≤ 2305844108725321728 := by
  obtain ⟨b, l', rfl⟩ := List.exists_cons_of_ne_nil hne
  obtain ⟨_, _, h1, h2, h3⟩ := hR b (by simp)
  obtain ⟨g1, g2, g3⟩ := goM_inv l' b.lo b.hi h1
  simp only [firstD]
  omega
/-- No longer part has a constant. -/
theorem first_long {l : List Bd} {p : Nat} {v : Int} (hp : p ≤ l.length) (h : Thru (l.take p) v) : p ≤ (firstD l).n := by
  by_cases g : p ≤ (firstD l).n
  · exact g
  · refine absurd (h.sub ?_) (first_max (l := l) (by omega) v)
    intro b hb
    exact List.mem_of_mem_take (i := (firstD l).n + 1) (by rwa [List.take_take, Nat.min_eq_left (by omega)])
theorem partsD_n : ∀ (n : Nat) (k k' : Nat) (l : List Bd), l.length ≤ n → (partsD k l).map (·.n) = (partsD k' l).map (·.n)
  | _, k, k', [], _ => by rw [partsD_nil, partsD_nil]
  | 0, _, _, _ :: _, h => by simp at h
  | n + 1, k, k', b :: l, h => by
    rw [partsD_cons, partsD_cons]
    simp only [List.map_cons, List.length_cons] at h ⊢
    rw [partsD_n n _ (k' + ((goM b.lo b.hi l).1 + 1)) _ (by rw [List.length_drop]; omega)]
/-- How many bands each part has. -/
def cutN (l : List Bd) : List Nat := (partsD 0 l).map (·.n)
theorem cutD_eq (l : List Bd) : cutD l = (cutN l).map (fun n : Nat => (n : Int)) := by simp [cutD, cutN, Function.comp_def]
theorem cutN_nil : cutN [] = [] := by rw [cutN, partsD_nil]; rfl
theorem cutN_next {l : List Bd} (hne : l ≠ []) : cutN l = (firstD l).n :: cutN (l.drop (firstD l).n) := by
  obtain ⟨b, l', rfl⟩ := List.exists_cons_of_ne_nil hne
  unfold cutN
  rw [partsD_cons, List.map_cons, partsD_n l'.length _ 0 _ (by rw [List.length_drop]; omega)]
  simp [firstD]
/-- Bands are cut into so many parts, through each of which a constant goes. -/
inductive Cov : List Bd → Nat → Prop
  | nil : Cov [] 0
  | cons {l : List Bd} {m : Nat} (p : Nat) (v : Int) (h1 : 1 ≤ p) (h2 : p ≤ l.length) (h3 : Thru (l.take p) v) (h4 : Cov (l.drop p) m) : Cov l (m + 1)
theorem cut_least {l : List Bd} {m : Nat} (h : Cov l m) : ∀ (n k : Nat), (l.drop k).length ≤ n → (cutN (l.drop k)).length ≤ m := by
  induction h with
  | nil => intro n k _; simp [cutN_nil]
  | @cons l m p v h1 h2 h3 h4 ih =>
    intro n k hn
    by_cases gp : p ≤ k
    · have e : l.drop k = (l.drop p).drop (k - p) := by rw [List.drop_drop]; congr 1; omega
      have := ih n (k - p) (by rw [← e]; exact hn)
      rw [e]; omega
    · by_cases hne : l.drop k = []
      · rw [hne, cutN_nil]; simp
      · rw [cutN_next hne]
        have hlong : p - k ≤ (firstD (l.drop k)).n := by
          refine first_long (v := v) (by rw [List.length_drop]; omega) (h3.sub ?_)
          intro b hb
          have e : (l.drop k).take (p - k) = (l.take p).drop k := by rw [List.drop_take]
          rw [e] at hb
          exact List.mem_of_mem_drop hb
        have e : (l.drop k).drop (firstD (l.drop k)).n = (l.drop p).drop (k + (firstD (l.drop k)).n - p) := by
          rw [List.drop_drop, List.drop_drop]; congr 1; omega
        have := ih n (k + (firstD (l.drop k)).n - p) (by
          rw [← e, List.length_drop]; omega)
        rw [e, List.length_cons]
        omega
theorem least_cut {l : List Bd} {m : Nat} (h : Cov l m) : (cutN l).length ≤ m := by
  have := cut_least h l.length 0 (by simp)
  simpa using this
theorem least_drop {l : List Bd} {m : Nat} (h : Cov l m) (k : Nat) : (cutN (l.drop k)).length ≤ m := cut_least h (l.drop k).length k (Nat.le_refl _)
theorem cut_cov : ∀ (n : Nat) (l : List Bd), l.length ≤ n → (∀ b ∈ l, BdOk b) → Cov l (cutN l).length
  | _, [], _, _ => by rw [cutN_nil]; exact .nil
  | 0, _ :: _, h, _ => by simp at h
  | n + 1, b :: l, h, hR => by
    have hne : b :: l ≠ [] := by simp
    obtain ⟨h1, h2⟩ := first_n hne
    obtain ⟨_, h3, _⟩ := first_le hR hne
    rw [cutN_next hne, List.length_cons]
    refine .cons (firstD (b :: l)).n (firstD (b :: l)).lo h1 h2 ((first_thru hne _).1 ⟨Int.le_refl _, h3⟩) ?_
    exact cut_cov n _ (by rw [List.length_drop, List.length_cons] at *; omega) (fun c hc => hR c (List.mem_of_mem_drop hc))
theorem cov_cut {l : List Bd} (hR : ∀ b ∈ l, BdOk b) : Cov l (cutN l).length := cut_cov l.length l (Nat.le_refl _) hR
end Go.Proofs.Ytmkminaipeodnaa.P8
