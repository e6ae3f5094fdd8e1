/-
  Layer 9: the law SwingAny's walk. Conditions: those written at each fact.
-/
import Derived.Test.YtoephkglpbophaaGreatSwP
namespace Go.Proofs.YtoephkglpbophaaGreat.P9
open Go.RowKit Go.Shelf Go.Proofs.YtoephkglpbophaaGreat.P8

theorem okD_times {b0 : Bd} {l : List Bd} (hk : okD (b0 :: l) = true) : (∀ b ∈ b0 :: l, BdOk b) ∧ (∀ b ∈ l, b0.t < b.t) := by
  obtain ⟨_, _, h1, h2⟩ := (okD_iff _).1 hk
  exact ⟨h1, (List.pairwise_cons.1 h2).1⟩
theorem line_ok {b0 : Bd} (h : BdOk b0) {n d : Int} (hs : slopeB n d = true) (hn : lowN n d = n ∧ lowD n d = d) : lineB (mid b0) 0 n d = true := by
  obtain ⟨_, h2, h3⟩ := band_ok h
  have hm := mid_in h
  have h1 := ((slopeB_iff _ _).1 hs).2.2.1
  rw [lineB_iff]
  refine ⟨hs, hn, ?_, by omega, by omega⟩
  rw [backB_iff] at *
  omega
theorem goes_iff (a r n d t0 : Int) (l : List Bd) : goesB a r n d t0 l = true ↔ ∀ b ∈ l, wnB a r n d (b.t - t0) b.lo b.hi = true := by
  unfold goesB
  rw [List.all_eq_true]
theorem wn_iff {b0 b : Bd} (h0 : BdOk b0) (hb : BdOk b) (ht : b0.t ≤ b.t) {n d : Int} (hl : lineB (mid b0) 0 n d = true) : wnB (mid b0) 0 n d (b.t - b0.t) b.lo b.hi = true ↔ OkB b0.t (mid b0) b n d := by
  have htm : timeB (b.t - b0.t) = true := by
    rw [timeB_iff]
    obtain ⟨h1, h2, _⟩ := h0
    obtain ⟨h3, h4, _⟩ := hb
    omega
  unfold wnB exV OkB
  rw [hl, htm]
  simp only [Bool.and_self, Bool.true_and, Bool.and_eq_true, decide_eq_true_eq, Int.add_zero, Int.sub_mul]
  omega
/-- A line from the hinge goes through bands just if it goes through all but the first one. -/
theorem thr_iff {b0 : Bd} {l : List Bd} (hk : okD (b0 :: l) = true) {n d : Int} (hl : lineB (mid b0) 0 n d = true) : thrB (mid b0) 0 n d (b0 :: l) = true ↔ ∀ b ∈ b0 :: l, b0.t < b.t → OkB b0.t (mid b0) b n d := by
  obtain ⟨hR, hT⟩ := okD_times hk
  have h0 := hR b0 (List.mem_cons_self ..)
  have hd := ((slopeB_iff _ _).1 ((lineB_iff _ _ _ _).1 hl).1).2.2.1
  unfold thrB
  rw [hk, Bool.true_and, headT, goes_iff]
  constructor
  · intro h b hb ht
    exact (wn_iff h0 (hR b hb) (by omega) hl).1 (h b hb)
  · intro h b hb
    rcases List.mem_cons.1 hb with e | hb2
    · subst e
      refine (wn_iff h0 h0 (Int.le_refl _) hl).2 ?_
      have hm := mid_in h0
      unfold OkB
      rw [Int.sub_self, Int.mul_zero]
      have a1 := Int.mul_nonneg (show (0 : Int) ≤ mid b - b.lo by omega) (show (0 : Int) ≤ d by omega)
      have a2 := Int.mul_nonneg (show (0 : Int) ≤ b.hi - mid b by omega) (show (0 : Int) ≤ d by omega)
      rw [Int.sub_mul] at a1 a2 ⊢
      rw [Int.sub_mul]
      omega
    · exact (wn_iff h0 (hR b hb) (by have := hT b hb2; omega) hl).2 (h b hb (hT b hb2))
end Go.Proofs.YtoephkglpbophaaGreat.P9
