/-
  Layer 8: each two of bands; what is told of all. Conditions: those written at each fact.
-/
import Derived.Test.YtmkminaipeodnaaMaD
namespace Go.Proofs.Ytmkminaipeodnaa.P8
open Go.RowKit Go.Shelf

/-- Are two bands apart? -/
def sepB (a b : Bd) : Bool := decide (b.hi < a.lo) || decide (a.hi < b.lo)
def Sep (m : List Bd) : Prop := ∃ b ∈ m, ∃ c ∈ m, sepB b c = true
/-- None of the first i bands are apart, and the band i is not apart from the first j. -/
def NoSep (m : List Bd) (i : Nat) : Prop := ∀ (x y : Nat) (b c : Bd), y < x → x < i → m[x]? = some b → m[y]? = some c → sepB b c = false
def NoRow (m : List Bd) (i j : Nat) : Prop := ∀ (y : Nat) (b c : Bd), y < j → m[i]? = some b → m[y]? = some c → sepB b c = false
theorem NoSep.next {m : List Bd} {i : Nat} (h : NoSep m i) (k : NoRow m i i) : NoSep m (i + 1) := fun x y b c h1 h2 h3 h4 => by
  by_cases e : x = i
  · subst e; exact k y b c h1 h3 h4
  · exact h x y b c h1 (by omega) h3 h4
theorem NoRow.next {m : List Bd} {i j : Nat} (h : NoRow m i j) {b c : Bd} (hb : m[i]? = some b) (hc : m[j]? = some c) (hs : sepB b c = false) : NoRow m i (j + 1) := fun y b' c' h1 h2 h3 => by
  by_cases e : y = j
  · subst e
    rw [hb] at h2
    rw [hc] at h3
    cases h2
    cases h3
    exact hs
  · exact h y b' c' (by omega) h2 h3
theorem sep_at {m : List Bd} {i j : Nat} {b c : Bd} (hb : m[i]? = some b) (hc : m[j]? = some c) (hs : sepB b c = true) : Sep m := ⟨b, List.mem_of_getElem? hb, c, List.mem_of_getElem? hc, hs⟩
theorem sepB_false {a b : Bd} : sepB a b = false ↔ a.lo ≤ b.hi ∧ b.lo ≤ a.hi := by
  unfold sepB
  simp only [Bool.or_eq_false_iff, decide_eq_false_iff_not]
  omega
theorem sep_none {m : List Bd} (h : Sep m) (v : Int) : ¬ Thru m v := by
  obtain ⟨b, hb, c, hc, hs⟩ := h
  intro ht
  have h1 := ht b hb
  have h2 := ht c hc
  have : sepB b c = false := sepB_false.2 ⟨by omega, by omega⟩
  rw [this] at hs
  cases hs
theorem nosep_some {m : List Bd} (hk : okD m = true) (h : NoSep m m.length) : ∃ v, Thru m v := by
  refine pairs_thru (okD_ne hk) fun b hb c hc => ?_
  obtain ⟨x, hx⟩ := List.mem_iff_getElem?.1 hb
  obtain ⟨y, hy⟩ := List.mem_iff_getElem?.1 hc
  have hxl := (List.getElem?_eq_some_iff.1 hx).1
  have hyl := (List.getElem?_eq_some_iff.1 hy).1
  by_cases g : x = y
  · subst g
    rw [hx] at hy
    cases hy
    exact ((okD_facts hk).2.2 b hb).2.2.1
  · by_cases g2 : y < x
    · exact (sepB_false.1 (h x y b c g2 hxl hx hy)).1
    · exact (sepB_false.1 (h y x c b (by omega) hyl hy hx)).2
/-- What is told of all bands, if a constant goes through. -/
theorem pairs_told {m : List Bd} (hk : okD m = true) (h : NoSep m m.length) :
    ∃ x y z : Int, codeC m = 0 ∧ fitD m = z ∧ comLo m = x ∧ comHi m = y ∧ thruB m z = true ∧ thruB m x = true ∧ thruB m y = true ∧ thruB m (x - 1) = false ∧ thruB m (y + 1) = false ∧ (z - x = y - z ∨ z - x + 1 = y - z) ∧ -2305844108725321728 ≤ x ∧ x ≤ z ∧ z ≤ y ∧ y ≤ 2305844108725321728 := by
  obtain ⟨v, hv⟩ := nosep_some hk h
  obtain ⟨h1, h2⟩ := told_all hk hv
  have hne := okD_ne hk
  have hn : ¬ (firstD m).n < m.length := by
    intro g
    simp [codeC, hk, g] at h1
  obtain ⟨f1, f2, f3⟩ := first_le (okD_facts hk).2.2 hne
  obtain ⟨⟨b, hb, e1⟩, ⟨c, hc, e2⟩⟩ := first_ends hne
  have ez : fitD m = ((firstD m).lo + (firstD m).hi) / 2 := by simp [fitD, comLo, comHi, h1]
  refine ⟨(firstD m).lo, (firstD m).hi, fitD m, h1, rfl, by simp [comLo, h1], by simp [comHi, h1], h2, (thruB_iff _ _).2 ((all_thru hne hn _).1 ⟨by omega, by omega⟩), (thruB_iff _ _).2 ((all_thru hne hn _).1 ⟨by omega, by omega⟩), ?_, ?_, by omega, f1, by omega, by omega, f3⟩
  · cases g : thruB m ((firstD m).lo - 1)
    · rfl
    · have := (thruB_iff _ _).1 g b hb
      omega
  · cases g : thruB m ((firstD m).hi + 1)
    · rfl
    · have := (thruB_iff _ _).1 g c hc
      omega
end Go.Proofs.Ytmkminaipeodnaa.P8
