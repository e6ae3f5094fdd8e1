/-
  Layer 8: the document's own answers: all constants that go through bands. Conditions: those written at each fact.
-/
import Derived.Test.YtmkminaipeodnaaDcA
import Derived.Test.YtmkminaipeodnaaMaD
namespace Go.Proofs.Ytmkminaipeodnaa.P8
open Go.RowKit Go.Shelf

/-- Does a constant go through all bands? -/
def allD (l : List Bd) : Bool := !decide ((firstD l).n < l.length)
def refLo (l : List Bd) : Int := if allD l then (firstD l).lo else 0
def refHi (l : List Bd) : Int := if allD l then (firstD l).hi else 0
theorem allD_thru {l : List Bd} (hR : ∀ b ∈ l, BdOk b) (hne : l ≠ []) : allD l = true → Thru l (firstD l).lo ∧ Thru l (firstD l).hi := by
  intro h
  have hn : ¬ (firstD l).n < l.length := by unfold allD at h; simpa using h
  obtain ⟨_, h2, _⟩ := first_le hR hne
  exact ⟨(all_thru hne hn _).1 ⟨Int.le_refl _, h2⟩, (all_thru hne hn _).1 ⟨h2, Int.le_refl _⟩⟩
theorem thru_allD {l : List Bd} {v : Int} (h : Thru l v) : allD l = true := by
  unfold allD
  cases g : decide ((firstD l).n < l.length)
  · rfl
  · exact absurd h (none_thru (of_decide_eq_true g) v)
/-- An end of a band that goes through all is the one that is told. -/
theorem end_lo {l : List Bd} (hR : ∀ b ∈ l, BdOk b) (hne : l ≠ []) {b : Bd} (hb : b ∈ l) (h : thruB l b.lo = true) : b.lo = (firstD l).lo := by
  have ht := (thruB_iff _ _).1 h
  have ha := thru_allD ht
  have hn : ¬ (firstD l).n < l.length := by unfold allD at ha; simpa using ha
  have h1 := (all_thru hne hn _).2 ht
  have h2 := (allD_thru hR hne ha).1 b hb
  omega
theorem end_hi {l : List Bd} (hR : ∀ b ∈ l, BdOk b) (hne : l ≠ []) {b : Bd} (hb : b ∈ l) (h : thruB l b.hi = true) : b.hi = (firstD l).hi := by
  have ht := (thruB_iff _ _).1 h
  have ha := thru_allD ht
  have hn : ¬ (firstD l).n < l.length := by unfold allD at ha; simpa using ha
  have h1 := (all_thru hne hn _).2 ht
  have h2 := (allD_thru hR hne ha).2 b hb
  omega
/-- What has been found among the first k bands. -/
def Found (l : List Bd) (k : Nat) (p : Bool) (x y : Int) : Prop :=
  ((p = true ∧ x = (firstD l).lo ∧ allD l = true) ∨ (p = false ∧ x = 0 ∧ ∀ b ∈ l.take k, thruB l b.lo = false)) ∧ ((y = (firstD l).hi ∧ allD l = true) ∨ (y = 0 ∧ ∀ b ∈ l.take k, thruB l b.hi = false))
theorem Found.none (l : List Bd) : Found l 0 false 0 0 := ⟨.inr ⟨rfl, rfl, fun b hb => by simp at hb⟩, .inr ⟨rfl, fun b hb => by simp at hb⟩⟩
theorem mem_take_next {l : List Bd} {k : Nat} {b c : Bd} (h : l[k]? = some b) (hc : c ∈ l.take (k + 1)) : c ∈ l.take k ∨ c = b := by
  obtain ⟨h1, h2⟩ := List.getElem?_eq_some_iff.1 h
  rw [List.take_succ_eq_append_getElem h1, h2] at hc
  simpa using hc
theorem Found.next {l : List Bd} {k : Nat} {p : Bool} {x y : Int} (h : Found l k p x y) (hR : ∀ b ∈ l, BdOk b) {b : Bd} (hb : l[k]? = some b) :
    Found l (k + 1) (if thruB l b.lo then true else p) (if thruB l b.lo then b.lo else x) (if thruB l b.hi then b.hi else y) := by
  have hm := List.mem_of_getElem? hb
  have hne : l ≠ [] := by rintro rfl; simp at hb
  refine ⟨?_, ?_⟩
  · cases g : thruB l b.lo
    · simp only [Bool.false_eq_true, if_false]
      rcases h.1 with h1 | ⟨h1, h2, h3⟩
      · exact .inl h1
      · refine .inr ⟨h1, h2, fun c hc => ?_⟩
        rcases mem_take_next hb hc with hc | rfl
        · exact h3 c hc
        · exact g
    · exact .inl ⟨by simp, by simpa using end_lo hR hne hm g, thru_allD ((thruB_iff _ _).1 g)⟩
  · cases g : thruB l b.hi
    · simp only [Bool.false_eq_true, if_false]
      rcases h.2 with h1 | ⟨h1, h2⟩
      · exact .inl h1
      · refine .inr ⟨h1, fun c hc => ?_⟩
        rcases mem_take_next hb hc with hc | rfl
        · exact h2 c hc
        · exact g
    · exact .inl ⟨by simpa using end_hi hR hne hm g, thru_allD ((thruB_iff _ _).1 g)⟩
theorem Found.end {l : List Bd} {p : Bool} {x y : Int} (h : Found l l.length p x y) (hR : ∀ b ∈ l, BdOk b) (hne : l ≠ []) : p = allD l ∧ x = refLo l ∧ y = refHi l := by
  obtain ⟨⟨b, hb, e1⟩, ⟨c, hc, e2⟩⟩ := first_ends hne
  obtain ⟨h1, h2⟩ := h
  rw [List.take_length] at h1 h2
  cases g : allD l
  · refine ⟨?_, ?_, ?_⟩
    · rcases h1 with ⟨_, _, h3⟩ | ⟨h3, _⟩
      · rw [g] at h3; cases h3
      · exact h3
    · rcases h1 with ⟨_, _, h3⟩ | ⟨_, h3, _⟩
      · rw [g] at h3; cases h3
      · simp [refLo, g, h3]
    · rcases h2 with ⟨_, h3⟩ | ⟨h3, _⟩
      · rw [g] at h3; cases h3
      · simp [refHi, g, h3]
  · obtain ⟨t1, t2⟩ := allD_thru hR hne g
    have n1 : thruB l b.lo = true := (thruB_iff _ _).2 (by rw [← e1]; exact t1)
    have n2 : thruB l c.hi = true := (thruB_iff _ _).2 (by rw [← e2]; exact t2)
    refine ⟨?_, ?_, ?_⟩
    · rcases h1 with ⟨h3, _⟩ | ⟨_, _, h3⟩
      · exact h3
      · rw [h3 b hb] at n1; cases n1
    · rcases h1 with ⟨_, h3, _⟩ | ⟨_, _, h3⟩
      · simp [refLo, g, h3]
      · rw [h3 b hb] at n1; cases n1
    · rcases h2 with ⟨h3, _⟩ | ⟨_, h3⟩
      · simp [refHi, g, h3]
      · rw [h3 c hc] at n2; cases n2
end Go.Proofs.Ytmkminaipeodnaa.P8
