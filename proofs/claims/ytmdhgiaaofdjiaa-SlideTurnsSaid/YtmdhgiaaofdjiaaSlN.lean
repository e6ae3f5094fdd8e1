/-
  Layer 10: facts of what is fitted to a part. Conditions: those written at each fact.
-/
import Derived.Test.YtmdhgiaaofdjiaaSlM
namespace Go.Proofs.Ytmdhgiaaofdjiaa.P10
open Go.RowKit Go.Shelf Go.Proofs.Ytmdhgiaaofdjiaa.P8

theorem ex_eq {C d : Int} (n t : Int) : exV (C / d) (C % d) n d t = C + n * t := by
  have := Int.mul_ediv_add_emod C d
  unfold exV
  rw [Int.mul_comm (C / d) d]
  omega
theorem time_of {l : List Bd} (h : RowOk l) {b : Bd} (hb : b ∈ l) : timeB (b.t - headT l) = true := by
  obtain ⟨x, m, rfl⟩ := List.exists_cons_of_ne_nil (List.ne_nil_of_mem hb)
  obtain ⟨h1, h2, _⟩ := h.1 b hb
  obtain ⟨h3, h4, _⟩ := h.1 x (List.mem_cons_self ..)
  have h5 : x.t ≤ b.t := by
    rcases List.mem_cons.1 hb with rfl | hb
    · exact Int.le_refl _
    · exact Int.le_of_lt ((List.pairwise_cons.1 h.2).1 b hb)
  rw [timeB_iff]
  show 0 ≤ b.t - x.t ∧ b.t - x.t ≤ _
  omega
structure Told (l : List Bd) : Prop where
  line : lineB (fitA l) (fitR l) (fitN l) (fitD l) = true
  thr : thrB (fitA l) (fitR l) (fitN l) (fitD l) l = true
  at0 : ∀ b ∈ l, tlE (fitA l) (fitR l) (fitN l) (fitD l) (b.t - headT l) = 0 ∧ b.lo ≤ tlQ (fitA l) (fitR l) (fitN l) (fitD l) (b.t - headT l) ∧ tlQ (fitA l) (fitR l) (fitN l) (fitD l) (b.t - headT l) ≤ b.hi
/-- What is fitted to all bands goes through them, exactly and rounded down. -/
theorem told_of {l : List Bd} (hk : okD l = true) (hn : firN l = l.length) : Told l := by
  have hF := flat_all hk hn
  have e : fitE l = 0 := by simp [fitE, hk, hn]
  have hp := hF.pos
  have hL := hF.line
  have e1 : fitA l = lineC l (firS l) / flatE (firS l) := by rw [fitA, if_pos e]
  have e2 : fitR l = lineC l (firS l) % flatE (firS l) := by rw [fitR, if_pos e]
  have e3 : fitN l = flatN (firS l) := by rw [fitN, if_pos e]
  have e4 : fitD l = flatE (firS l) := by rw [fitD, if_pos e]
  rw [← e1, ← e2, ← e3, ← e4] at hL
  have hT : ∀ b ∈ l, b.lo * fitD l ≤ exV (fitA l) (fitR l) (fitN l) (fitD l) (b.t - headT l) ∧ exV (fitA l) (fitR l) (fitN l) (fitD l) (b.t - headT l) ≤ b.hi * fitD l := by
    intro b hb
    have := hF.thru b hb
    rw [e1, e2, e3, e4, ex_eq]
    exact this
  refine ⟨hL, ?_, fun b hb => ?_⟩
  · unfold thrB goesB
    rw [hk, Bool.true_and, List.all_eq_true]
    intro b hb
    have h1 := time_of hF.row hb
    obtain ⟨h2, h3⟩ := hT b hb
    simp [wnB, hL, h1, h2, h3]
  · have h1 := time_of hF.row hb
    obtain ⟨h2, h3⟩ := hT b hb
    obtain ⟨_, _, _, g4, g5⟩ := hF.row.1 b hb
    rw [← e4] at hp
    have q1 : b.lo ≤ exV (fitA l) (fitR l) (fitN l) (fitD l) (b.t - headT l) / fitD l := (Int.le_ediv_iff_mul_le (by omega)).2 h2
    have q2 : exV (fitA l) (fitR l) (fitN l) (fitD l) (b.t - headT l) / fitD l ≤ b.hi := by
      have := Int.ediv_le_ediv (show 0 < fitD l by omega) h3
      rwa [Int.mul_ediv_cancel _ (by omega)] at this
    have hB : backB (exV (fitA l) (fitR l) (fitN l) (fitD l) (b.t - headT l) / fitD l) = true := by rw [backB_iff]; omega
    refine ⟨by simp [tlE, hL, atE, h1, ovE, hB], ?_⟩
    have : tlQ (fitA l) (fitR l) (fitN l) (fitD l) (b.t - headT l) = exV (fitA l) (fitR l) (fitN l) (fitD l) (b.t - headT l) / fitD l := by simp [tlQ, hL, atQ, h1, ovQ, hB]
    rw [this]
    exact ⟨q1, q2⟩
theorem firN_take {l : List Bd} : firN (l.take (firN l)) = (l.take (firN l)).length := by
  have hle : firN l ≤ l.length := goA_le l [] every0
  have hlen : (l.take (firN l)).length = firN l := List.length_take_of_le hle
  rw [hlen]
  refine firN_eq (by omega) (fun i hi => ?_) (.inl hlen.symm)
  rw [List.take_take, Nat.min_eq_left (by omega)]
  cases g : shutS (allS (l.take (i + 1)))
  · rfl
  · exfalso
    have key : ∀ (l h : List Bd) (s : Sl) (i : Nat), i < goA h s l → shutS (foldA h s (l.take (i + 1))) = false := by
      intro l
      induction l with
      | nil => intro h s i hi; simp [goA] at hi
      | cons y l ih =>
        intro h s i hi
        rw [goA] at hi
        split at hi
        · omega
        · rename_i g2
          cases i with
          | zero => simpa [foldA] using g2
          | succ i => exact ih (h ++ [y]) (letS y h s) i (by omega)
    have := key l [] every0 i hi
    unfold allS at g
    rw [g] at this
    cases this
theorem fit_over {l : List Bd} (hk : okD l = true) (h : firN l < l.length) : fitE (l.take (firN l + 1)) = 181 := by
  have hk2 := okD_take hk (k := firN l + 1) (by omega)
  have hs := firN_stop h
  rw [all_iff (row_ok hk2)] at hs
  have := of_decide_eq_true hs
  rw [fitE, if_pos hk2, if_pos this]
theorem fit_part {l : List Bd} (hk : okD l = true) : okD (l.take (firN l)) = true ∧ fitE (l.take (firN l)) = 0 ∧ Told (l.take (firN l)) := by
  have h1 := (firN_le (okD_ne hk)).1
  have hk2 := okD_take hk h1
  exact ⟨hk2, by simp [fitE, hk2, firN_take], told_of hk2 firN_take⟩
theorem headT_take {l : List Bd} {k : Nat} (h : 1 ≤ k) : headT (l.take k) = headT l := by
  cases l with
  | nil => simp
  | cons b l =>
    obtain ⟨j, rfl⟩ : ∃ j, k = j + 1 := ⟨k - 1, by omega⟩
    rfl
end Go.Proofs.Ytmdhgiaaofdjiaa.P10
