/-
  Layer 9: the law SwingAny's walk. Conditions: those written at each fact.
-/
import Derived.Test.YtlhjijigpjfokaaGreatSwP
namespace Go.Proofs.YtlhjijigpjfokaaGreat.P9
open Go.RowKit Go.Shelf Go.Proofs.YtlhjijigpjfokaaGreat.P8

theorem okD_times {b0 : Bd} {l : List Bd} (hk : okD (b0 :: l) = true) : (∀ b ∈ b0 :: l, BdOk b) ∧ (∀ b ∈ l, b0.t < b.t) := by
  obtain ⟨_, _, h1, h2⟩ := (okD_iff _).1 hk
  exact ⟨h1, (List.pairwise_cons.1 h2).1⟩
theorem line_ok {b0 : Bd} (h : BdOk b0) {n d : Int} (hs : slopeB n d = true) (hn : lowN n d = n ∧ lowD n d = d) : lineB (mid b0) 0 n d = true := by
  obtain ⟨_, h2, h3⟩ := band_ok h
  have hm := mid_in h
  have h1 := ((slopeB_iff _ _).1 hs).2.2.1
  rw [lineB_iff]
  refine ⟨hs, hn, ?_, by omega, by omega⟩
  rw [backB_iff] at *
  omega
theorem goes_iff (a r n d t0 : Int) (l : List Bd) : goesB a r n d t0 l = true ↔ ∀ b ∈ l, wnB a r n d (b.t - t0) b.lo b.hi = true := by
  unfold goesB
  rw [List.all_eq_true]
theorem wn_iff {b0 b : Bd} (h0 : BdOk b0) (hb : BdOk b) (ht : b0.t ≤ b.t) {n d : Int} (hl : lineB (mid b0) 0 n d = true) : wnB (mid b0) 0 n d (b.t - b0.t) b.lo b.hi = true ↔ OkB b0.t (mid b0) b n d := by
  have htm : timeB (b.t - b0.t) = true := by
    rw [timeB_iff]
    obtain ⟨h1, h2, _⟩ := h0
    obtain ⟨h3, h4, _⟩ := hb
    omega
  unfold wnB exV OkB
  rw [hl, htm]
  simp only [Bool.and_self, Bool.true_and, Bool.and_eq_true, decide_eq_true_eq, Int.add_zero, Int.sub_mul]
  omega
/-- A line from the hinge goes through bands just if it goes through all but the first one. -/
theorem thr_iff {b0 : Bd} {l : List Bd} (hk : okD (b0 :: l) = true) {n d : Int} (hl : lineB (mid b0) 0 n d = true) : thrB (mid b0) 0 n d (b0 :: l) = true ↔ ∀ b ∈ b0 :: l, b0.t < b.t → OkB b0.t (mid b0) b n d := by
  obtain ⟨hR, hT⟩ := okD_times hk
  have h0 := hR b0 (List.mem_cons_self ..)
  have hd := ((slopeB_iff _ _).1 ((lineB_iff _ _ _ _).1 hl).1).2.2.1
  unfold thrB
  rw [hk, Bool.true_and, headT, goes_iff]
  constructor
  · intro h b hb ht
    exact (wn_iff h0 (hR b hb) (by omega) hl).1 (h b hb)
  · intro h b hb
    rcases List.mem_cons.1 hb with e | hb2
    · subst e
      refine (wn_iff h0 h0 (Int.le_refl _) hl).2 ?_
      have hm := mid_in h0
      unfold OkB
      rw [Int.sub_self, Int.mul_zero]
      have a1 := Int.mul_nonneg (show (0 : Int) ≤ mid b - b.lo by omega) (show (0 : Int) ≤ d by omega)
      have a2 := Int.mul_nonneg (show (0 : Int) ≤ b.hi - mid b by omega) (show (0 : Int) ≤ d by omega)
      rw [Int.sub_mul] at a1 a2 ⊢
      rw [Int.sub_mul]
      omega
    · exact (wn_iff h0 (hR b hb) (by have := hT b hb2; omega) hl).2 (h b hb (hT b hb2))
/-- What is fitted is as near to 0 as any line that goes through. -/
theorem any_fits {m : List Bd} (hk : okD m = true) {n d : Int} (hs : slopeB n d = true) (ht : thrB (hinQ m) 0 (lowN n d) (lowD n d) m = true) :
    fitE m = 0 ∧ slopesB (sizeI (fitN m)) (fitD9 m) (sizeI (lowN n d)) (lowD n d) = true ∧ cpI (sizeI (fitN m)) (fitD9 m) (sizeI (lowN n d)) (lowD n d) ≤ 0 := by
  obtain ⟨b0, l, rfl⟩ := List.exists_cons_of_ne_nil (okD_ne hk)
  obtain ⟨hR, hT⟩ := okD_times hk
  have h0 := hR b0 (List.mem_cons_self ..)
  have hq : hinQ (b0 :: l) = mid b0 := by simp [hinQ, hk]
  rw [hq] at ht
  have hs' := low_bounds hs
  have hlow := lowest_again (n := n) (d := d) ((slopeB_iff _ _).1 hs).2.2.1
  generalize lowN n d = p at *
  generalize lowD n d = q at *
  have hq1 := ((slopeB_iff _ _).1 hs').2.2.1
  obtain ⟨e1, e2⟩ := all_in hR hs' ((thr_iff hk (line_ok h0 hs' hlow)).1 ht)
  have hE : fitE (b0 :: l) = 0 := by rw [fitE, hk, e1]; simp
  have hok := firX_ok (okD_ne hk) hR
  have hle := flat_least hok hq1 e2
  have hfl := (flat_ok hok).1
  have ef : fitN (b0 :: l) = flatN (firX (b0 :: l)) ∧ fitD9 (b0 :: l) = flatE (firX (b0 :: l)) := by simp [fitN, fitD9, hE]
  rw [ef.1, ef.2]
  generalize flatN (firX (b0 :: l)) = x at *
  generalize flatE (firX (b0 :: l)) = y at *
  have hsl : slopesB (sizeI x) y (sizeI p) q = true := by
    rw [slopesB, Bool.and_eq_true, slopeB_iff, slopeB_iff]
    rw [slopeB_iff] at hfl hs'
    have b1 : -4611688217450643456 ≤ sizeI x ∧ sizeI x ≤ 4611688217450643456 := by unfold sizeI; split <;> omega
    have b2 : -4611688217450643456 ≤ sizeI p ∧ sizeI p ≤ 4611688217450643456 := by unfold sizeI; split <;> omega
    exact ⟨⟨b1.1, b1.2, hfl.2.2⟩, ⟨b2.1, b2.2, hs'.2.2⟩⟩
  refine ⟨hE, hsl, ?_⟩
  simp only [cpI, hsl, if_true, cmpI]
  split
  · exact Int.le_refl _
  · rw [if_pos (by omega)]; decide
end Go.Proofs.YtlhjijigpjfokaaGreat.P9
