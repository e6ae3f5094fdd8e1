/-
  Layer 10: slide: lines through bands, the flattest slope, the lowest line, and the fewest parts, in numbers. Conditions: those written at each fact.
-/
import Derived.Test.YtmdhgiaaofdjiaaGreatSlA
namespace Go.Proofs.YtmdhgiaaofdjiaaGreat.P10
open Go.RowKit Go.Shelf Go.Proofs.YtmdhgiaaofdjiaaGreat.P8

/-- A line that is c / d at the time t0, and rises by n / d, goes through bands. -/
def ThruR (t0 c n d : Int) (l : List Bd) : Prop := ∀ b ∈ l, b.lo * d ≤ c + n * (b.t - t0) ∧ c + n * (b.t - t0) ≤ b.hi * d
/-- The flattest of slopes. -/
def flatN (s : Sl) : Int := if 0 < s.a then lowN s.a s.b else if s.c < 0 then lowN s.c s.d else 0
def flatE (s : Sl) : Int := if 0 < s.a then lowD s.a s.b else if s.c < 0 then lowD s.c s.d else 1
theorem low_of_one {n d : Int} (h : gcdI n d = 1) : lowN n d = n ∧ lowD n d = d := by simp [lowN, lowD, h]
theorem lowest_again {n d : Int} (h : 1 ≤ d) : lowN (lowN n d) (lowD n d) = lowN n d ∧ lowD (lowN n d) (lowD n d) = lowD n d := by
  have hg : gcdI (lowN n d) (lowD n d) = 1 := by
    unfold lowN lowD gcdI
    have h0 : 0 < Int.gcd n d := Int.gcd_pos_of_ne_zero_right _ (by omega)
    rw [Int.gcd_ediv_gcd_ediv_gcd h0]
    rfl
  exact low_of_one hg
theorem low_le {n d m e : Int} (he : 1 ≤ e) : (lowN m e * d ≤ n * lowD m e ↔ m * d ≤ n * e) ∧ (n * lowD m e ≤ lowN m e * d ↔ n * e ≤ m * d) := by
  have hg := gcdI_pos (n := m) he
  obtain ⟨e1, e2⟩ := low_mul m e
  have q1 : m * d = lowN m e * d * gcdI m e := by conv => lhs; rw [← e1]
                                                  rw [Int.mul_assoc, Int.mul_comm (gcdI m e) d, ← Int.mul_assoc]
  have q2 : n * e = n * lowD m e * gcdI m e := by conv => lhs; rw [← e2]
                                                  rw [← Int.mul_assoc]
  rw [q1, q2]
  exact ⟨⟨fun h => Int.mul_le_mul_of_nonneg_right h (by omega), fun h => Int.le_of_mul_le_mul_right h (by omega)⟩, ⟨fun h => Int.mul_le_mul_of_nonneg_right h (by omega), fun h => Int.le_of_mul_le_mul_right h (by omega)⟩⟩
theorem flat_ok {s : Sl} (h : StOk s) : slopeB (flatN s) (flatE s) = true ∧ lowN (flatN s) (flatE s) = flatN s ∧ lowD (flatN s) (flatE s) = flatE s := by
  have h1 := ((slopeB_iff _ _).1 h.lo).2.2.1
  have h2 := ((slopeB_iff _ _).1 h.hi).2.2.1
  unfold flatN flatE
  split
  · exact ⟨low_bounds h.lo, lowest_again h1⟩
  · split
    · exact ⟨low_bounds h.hi, lowest_again h2⟩
    · exact ⟨by simp [slopeB], by simp [lowN, gcdI], by simp [lowD, gcdI]⟩
theorem flat_in {s : Sl} (h : StOk s) (hs : shutS s = false) : InS s (flatN s) (flatE s) := by
  have hle := open_iff.1 hs
  have h1 := ((slopeB_iff _ _).1 h.lo).2.2.1
  have h2 := ((slopeB_iff _ _).1 h.hi).2.2.1
  unfold InS flatN flatE
  by_cases g1 : 0 < s.a
  · rw [if_pos g1, if_pos g1]
    exact ⟨(low_le h1).2.2 (Int.le_refl _), (low_le h1).1.2 hle⟩
  · rw [if_neg g1, if_neg g1]
    by_cases g2 : s.c < 0
    · rw [if_pos g2, if_pos g2]
      exact ⟨(low_le h2).2.2 hle, (low_le h2).1.2 (Int.le_refl _)⟩
    · rw [if_neg g2, if_neg g2]
      simp only [Int.mul_one, Int.zero_mul]
      omega
theorem low_sign {n d : Int} (h : 1 ≤ d) : (0 < n → 0 < lowN n d) ∧ (n < 0 → lowN n d < 0) := by
  have hg := gcdI_pos (n := n) h
  obtain ⟨e1, _⟩ := low_mul n d
  refine ⟨fun g => ?_, fun g => ?_⟩
  · by_cases k : 0 < lowN n d
    · exact k
    · have := Int.mul_le_mul_of_nonneg_right (Int.not_lt.1 k) (show 0 ≤ gcdI n d by omega)
      rw [e1, Int.zero_mul] at this
      omega
  · by_cases k : lowN n d < 0
    · exact k
    · have := Int.mul_nonneg (Int.not_lt.1 k) (show 0 ≤ gcdI n d by omega)
      rw [e1] at this
      omega
theorem flat_near {s : Sl} (h : StOk s) (hs : shutS s = false) : NearI s.a s.b s.c s.d (flatN s) (flatE s) 0 := by
  have hsl : slopesB s.a s.b s.c s.d = true := by simp [slopesB, h.lo, h.hi]
  have hle := open_iff.1 hs
  have hc : cpI s.a s.b s.c s.d ≤ 0 := by
    simp only [cpI, hsl, if_true, cmpI]
    split
    · exact Int.le_refl _
    · rw [if_pos (by omega)]; decide
  refine .inr ⟨hsl, .inr ⟨hc, ?_⟩⟩
  unfold flatN flatE
  by_cases g1 : 0 < s.a
  · rw [if_pos g1, if_pos g1]
    exact .inl ⟨g1, rfl, rfl, rfl⟩
  · rw [if_neg g1, if_neg g1]
    by_cases g2 : s.c < 0
    · rw [if_pos g2, if_pos g2]
      exact .inr (.inl ⟨by omega, g2, rfl, rfl, rfl⟩)
    · rw [if_neg g2, if_neg g2]
      exact .inr (.inr ⟨by omega, by omega, rfl, rfl, rfl⟩)

/-- How high a line of the slope n / d must be at t0 to be at a band's least value, d times. -/
def capC (t0 n d : Int) (b : Bd) : Int := b.lo * d - n * (b.t - t0)
def lowF (t0 n d : Int) : Int → List Bd → Int
  | m, [] => m
  | m, b :: l => lowF t0 n d (if m < capC t0 n d b then capC t0 n d b else m) l
/-- .. nowhere below a band. -/
def lowC (t0 n d : Int) : List Bd → Int
  | [] => 0
  | b :: l => lowF t0 n d (capC t0 n d b) l
theorem lowF_ge (t0 n d : Int) : ∀ (l : List Bd) (m : Int), m ≤ lowF t0 n d m l ∧ ∀ b ∈ l, capC t0 n d b ≤ lowF t0 n d m l
  | [], m => by simp [lowF]
  | x :: l, m => by
    obtain ⟨h1, h2⟩ := lowF_ge t0 n d l (if m < capC t0 n d x then capC t0 n d x else m)
    rw [lowF]
    have h3 : m ≤ (if m < capC t0 n d x then capC t0 n d x else m) ∧ capC t0 n d x ≤ (if m < capC t0 n d x then capC t0 n d x else m) := by split <;> omega
    refine ⟨by omega, fun b hb => ?_⟩
    rcases List.mem_cons.1 hb with rfl | hb
    · omega
    · exact h2 b hb
theorem lowF_is (t0 n d : Int) : ∀ (l : List Bd) (m : Int), lowF t0 n d m l = m ∨ ∃ b ∈ l, lowF t0 n d m l = capC t0 n d b
  | [], m => .inl rfl
  | x :: l, m => by
    rw [lowF]
    rcases lowF_is t0 n d l (if m < capC t0 n d x then capC t0 n d x else m) with h | ⟨b, hb, h⟩
    · rw [h]
      split
      · exact .inr ⟨x, by simp, rfl⟩
      · exact .inl rfl
    · exact .inr ⟨b, by simp [hb], h⟩
theorem lowC_ge {t0 n d : Int} {l : List Bd} {b : Bd} (h : b ∈ l) : capC t0 n d b ≤ lowC t0 n d l := by
  cases l with
  | nil => simp at h
  | cons x l =>
    obtain ⟨h1, h2⟩ := lowF_ge t0 n d l (capC t0 n d x)
    rcases List.mem_cons.1 h with rfl | h
    · exact h1
    · exact h2 b h
theorem lowC_is {t0 n d : Int} {l : List Bd} (hne : l ≠ []) : ∃ b ∈ l, lowC t0 n d l = capC t0 n d b := by
  obtain ⟨x, l, rfl⟩ := List.exists_cons_of_ne_nil hne
  rcases lowF_is t0 n d l (capC t0 n d x) with h | ⟨b, hb, h⟩
  · exact ⟨x, by simp, h⟩
  · exact ⟨b, by simp [hb], h⟩
theorem pair_any {R : Bd → Bd → Prop} : ∀ {l : List Bd}, l.Pairwise R → ∀ {x y : Bd}, x ∈ l → y ∈ l → x = y ∨ R x y ∨ R y x
  | [], _, _, _, hx, _ => by simp at hx
  | b :: l, h, x, y, hx, hy => by
    obtain ⟨h1, h2⟩ := List.pairwise_cons.1 h
    rcases List.mem_cons.1 hx with ex | mx
    · rcases List.mem_cons.1 hy with ey | my
      · exact .inl (ex.trans ey.symm)
      · exact .inr (.inl (by rw [ex]; exact h1 y my))
    · rcases List.mem_cons.1 hy with ey | my
      · exact .inr (.inr (by rw [ey]; exact h1 x mx))
      · exact pair_any h2 mx my
/-- The lowest line of a slope that each two bands let goes through all of them. -/
theorem low_thru {l : List Bd} {t0 n d : Int} (h : RowOk l) (hd : 1 ≤ d) (hp : PairW l n d) : ThruR t0 (lowC t0 n d l) n d l := by
  intro b hb
  refine ⟨?_, ?_⟩
  · have := lowC_ge (t0 := t0) (n := n) (d := d) hb
    unfold capC at this
    omega
  · obtain ⟨x, hx, e⟩ := lowC_is (t0 := t0) (n := n) (d := d) (l := l) (by intro e; subst e; simp at hb)
    rw [e]
    unfold capC
    have hlo : ∀ z ∈ l, z.lo * d ≤ z.hi * d := fun z hz => Int.mul_le_mul_of_nonneg_right (h.1 z hz).2.2.1 (by omega)
    rcases pair_any hp hx hb with rfl | g | g
    · have := hlo x hx
      omega
    · have g2 := g.2
      simp only [pairS, Int.sub_mul, Int.mul_sub] at *
      omega
    · have g1 := g.1
      simp only [pairS, Int.sub_mul, Int.mul_sub] at *
      omega
/-- How many bands each part has. -/
def cutN : List Bd → List Nat
  | [] => []
  | b :: t => firN (b :: t) :: cutN (t.drop (goA [b] every0 t))
termination_by l => l.length
decreasing_by simp; omega
theorem cutN_nil : cutN [] = [] := by rw [cutN]
theorem cutN_next {l : List Bd} (hne : l ≠ []) : cutN l = firN l :: cutN (l.drop (firN l)) := by
  obtain ⟨b, t, rfl⟩ := List.exists_cons_of_ne_nil hne
  rw [cutN, firN_cons, List.drop_succ_cons]
end Go.Proofs.YtmdhgiaaofdjiaaGreat.P10
