/-
  Layer 2, plain facts: what is got has just those bytes. No program. Conditions: those written at each fact.
-/
import Derived.Test.YtahfopednhmbiaaScanB
import Derived.Test.YtahfopednhmbiaaRow2
import Derived.Test.YtahfopednhmbiaaPref
namespace Go.Proofs.Ytahfopednhmbiaa

theorem scan_canon : ∀ (l : List Int) (s : Nat), (∀ z ∈ l, 0 ≤ z ∧ z < 256) → (scan s l).1 = 0 → ∃ k, (scan s l).2 = s + k ∧ digs (numOf (l.take k)).toNat = l.take k ∧ (1 ≤ s → 1 ≤ numOf (l.take k))
  | [], s, _, h => by simp [scan] at h
  | d :: l, s, hb, h => by
    have hd := hb d (List.mem_cons_self ..)
    rw [scan] at h ⊢
    by_cases h1 : s = 9 ∧ 1 < d
    · rw [if_pos h1] at h; cases h
    · rw [if_neg h1] at h ⊢
      by_cases h2 : 128 ≤ d
      · rw [if_pos h2] at h ⊢
        obtain ⟨k, e1, e2, e3⟩ := scan_canon l (s + 1) (fun z hz => hb z (List.mem_cons_of_mem _ hz)) h
        have h3 := e3 (by omega)
        refine ⟨k + 1, by omega, ?_, fun _ => ?_⟩
        · rw [List.take_succ_cons, numOf]
          generalize numOf (l.take k) = N at *
          have e4 : (d % 128 + 128 * N).toNat / 128 = N.toNat := by omega
          rw [digs_more (by omega), e4, e2]
          congr 1
          omega
        · rw [List.take_succ_cons, numOf]; omega
      · rw [if_neg h2] at h ⊢
        by_cases h3 : d = 0 ∧ 1 ≤ s
        · rw [if_pos h3] at h; cases h
        · rw [if_neg h3]
          refine ⟨1, rfl, ?_, fun hs => ?_⟩
          · simp only [List.take_succ_cons, List.take_zero, numOf]
            rw [digs_end (by omega)]
            congr 1
            omega
          · simp only [List.take_succ_cons, List.take_zero, numOf]
            omega
/-- What is got has just those bytes. -/
theorem got_alone {l : List Int} (hb : ∀ z ∈ l, 0 ≤ z ∧ z < 256) {a : Nat} (ha : a ≤ l.length) (h : gotE l a = 0) :
    ∃ u p : Nat, gotN l a = u ∧ gotP l a = p ∧ u < 18446744073709551616 ∧ a < p ∧ p ≤ l.length ∧ digs u = (l.drop a).take (p - a) := by
  have he : (scan 0 (l.drop a)).1 = 0 := by
    by_cases he : (scan 0 (l.drop a)).1 = 0
    · exact he
    · have := (got_err ha he).2.2; rw [this] at h; exact absurd h he
  obtain ⟨e1, e2, _⟩ := got_ok ha he
  obtain ⟨p, f1, f2, f3⟩ := got_place ha h
  have hr := got_range hb a
  obtain ⟨k, g1, g2, _⟩ := scan_canon (l.drop a) 0 (fun z hz => hb z (List.mem_of_mem_drop hz)) he
  rw [Nat.zero_add] at g1
  rw [g1] at e1 e2
  have hp : p - a = k := by omega
  refine ⟨(gotN l a).toNat, p, by omega, f1, by omega, f2, f3, ?_⟩
  rw [hp, e1, g2]
theorem digs_init : ∀ (k n : Nat), n < 128 ^ (k + 1) → ∀ i, i < (digs n).length → ∀ z ∈ (digs n).take i, 128 ≤ z
  | 0, n, h, i, hi, z, hz => by
    rw [digs_end (by omega)] at hi hz
    obtain rfl : i = 0 := by simpa using hi
    simp at hz
  | k + 1, n, h, i, hi, z, hz => by
    by_cases g : n < 128
    · rw [digs_end g] at hi hz
      obtain rfl : i = 0 := by simpa using hi
      simp at hz
    · rw [digs_more g] at hi hz
      cases i with
      | zero => simp at hz
      | succ i =>
        rw [List.take_succ_cons] at hz
        rcases List.mem_cons.1 hz with rfl | hz
        · omega
        · exact digs_init k (n / 128) (by rw [Nat.pow_succ] at h; omega) i (by simpa using hi) z hz
theorem got_cut {n i : Nat} (hn : n < 18446744073709551616) (hi : i < (digs n).length) : gotE ((digs n).take i) 0 = 6 := by
  have hc : Cont ((digs n).take i) := ⟨by have := (digs_ten hn).2; simp; omega, digs_init 9 n (by omega) i hi⟩
  have hs := scan_short hc
  have := got_err (l := (digs n).take i) (a := 0) (by simp) (by rw [List.drop_zero, hs]; exact (by decide : (6 : Int) ≠ 0))
  rw [List.drop_zero, hs] at this
  exact this.2.2
theorem digs_pref {u n : Nat} (hu : u < 18446744073709551616) (hn : n < 18446744073709551616) (h : digs u <+: digs n) : u = n := by
  obtain ⟨r, e⟩ := h
  have h1 := scan_digs 9 0 u r (by omega) (by omega) (.inr rfl)
  have h2 := scan_digs 9 0 n [] (by omega) (by omega) (.inr rfl)
  rw [List.append_nil] at h2
  rw [e] at h1
  rw [h1] at h2
  have hl : (digs u).length = (digs n).length := by simpa using h2
  have hr : r = [] := by
    have := congrArg List.length e
    simp at this
    exact List.eq_nil_of_length_eq_zero (by omega)
  rw [hr, List.append_nil] at e
  have a1 := num_digs 9 u (by omega)
  have a2 := num_digs 9 n (by omega)
  rw [e] at a1
  omega
theorem pref_no {u n : Nat} (hu : u < 18446744073709551616) (hn : n < 18446744073709551616) (h : u ≠ n) : prefB (digs n) (digs u) = false := by
  unfold prefB
  exact decide_eq_false (fun g => h (digs_pref hu hn g))
end Go.Proofs.Ytahfopednhmbiaa
