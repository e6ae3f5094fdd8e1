/-
  Layer 10: slide: lines through bands, the flattest slope, the lowest line, and the fewest parts, in numbers. Conditions: those written at each fact.
-/
import Derived.Test.YtoephkglpbophaaGreatSlA
namespace Go.Proofs.YtoephkglpbophaaGreat.P10
open Go.RowKit Go.Shelf Go.Proofs.YtoephkglpbophaaGreat.P8

/-- A line that is c / d at the time t0, and rises by n / d, goes through bands. -/
def ThruR (t0 c n d : Int) (l : List Bd) : Prop := ∀ b ∈ l, b.lo * d ≤ c + n * (b.t - t0) ∧ c + n * (b.t - t0) ≤ b.hi * d
theorem ThruR.sub {t0 c n d : Int} {l m : List Bd} (h : ThruR t0 c n d l) (hs : ∀ b ∈ m, b ∈ l) : ThruR t0 c n d m := fun b hb => h b (hs b hb)
theorem thru_pair {t0 c n d : Int} {x y : Bd} (hx : x.lo * d ≤ c + n * (x.t - t0) ∧ c + n * (x.t - t0) ≤ x.hi * d) (hy : y.lo * d ≤ c + n * (y.t - t0) ∧ c + n * (y.t - t0) ≤ y.hi * d) : InS (pairS x y) n d := by
  unfold InS pairS
  simp only [Int.sub_mul, Int.mul_sub] at *
  omega
theorem pairs_of {l : List Bd} {n d : Int} (h : ∀ x ∈ l, ∀ y ∈ l, InS (pairS x y) n d) : PairW l n d := by
  unfold PairW
  induction l with
  | nil => exact List.Pairwise.nil
  | cons b l ih => exact List.pairwise_cons.2 ⟨fun y hy => h b (List.mem_cons_self ..) y (List.mem_cons_of_mem _ hy), ih (fun x hx y hy => h x (List.mem_cons_of_mem _ hx) y (List.mem_cons_of_mem _ hy))⟩
theorem thru_pairs {t0 c n d : Int} {l : List Bd} (h : ThruR t0 c n d l) : PairW l n d := pairs_of fun x hx y hy => thru_pair (h x hx) (h y hy)
theorem in_of_pair {s : Sl} {n d : Int} (hs : StOk s) (hd : 1 ≤ d) (h : InS s n d) : InS every0 n d := by
  have h1 := (slopeB_iff _ _).1 hs.lo
  have h2 := (slopeB_iff _ _).1 hs.hi
  obtain ⟨p1, p2⟩ := hs.pos
  refine ⟨?_, ?_⟩
  · exact frac_trans (d := 1) (n := every0.a) (by omega) p1 (by omega) (by simp only [every0]; omega) h.1
  · exact frac_trans (f := 1) (k := every0.c) (by omega) p2 (by omega) h.2 (by simp only [every0]; omega)
theorem pairs_every {l : List Bd} {n d : Int} (h : RowOk l) (h2 : 2 ≤ l.length) (hd : 1 ≤ d) (hp : PairW l n d) : InS every0 n d := by
  match l, h, h2, hp with
  | x :: y :: _, h, _, hp =>
    have h1 := (List.pairwise_cons.1 hp).1 y (by simp)
    exact in_of_pair (pair_ok (h.1 x (by simp)) (h.1 y (by simp)) ((List.pairwise_cons.1 h.2).1 y (by simp))) hd h1
theorem pairs_open {l : List Bd} {n d : Int} (h : RowOk l) (hd : 1 ≤ d) (hp : PairW l n d) : shutS (allS l) = false := by
  match l, h, hp with
  | [], _, _ => exact every_open
  | [b], _, _ => exact every_open
  | x :: y :: m, h, hp => exact in_open (all_ok h) hd ((all_in h hd).2 ⟨pairs_every h (by simp) hd hp, hp⟩)
/-- No longer part has a line. -/
theorem thru_long {t0 c n d : Int} {l : List Bd} (h : RowOk l) (hd : 1 ≤ d) {p : Nat} (hp : p ≤ l.length) (ht : ThruR t0 c n d (l.take p)) : p ≤ firN l :=
  firN_long h hp (pairs_open (h.take p) hd (thru_pairs ht))

/-- The flattest of slopes. -/
def flatN (s : Sl) : Int := if 0 < s.a then lowN s.a s.b else if s.c < 0 then lowN s.c s.d else 0
def flatE (s : Sl) : Int := if 0 < s.a then lowD s.a s.b else if s.c < 0 then lowD s.c s.d else 1
theorem low_of_one {n d : Int} (h : gcdI n d = 1) : lowN n d = n ∧ lowD n d = d := by simp [lowN, lowD, h]
theorem lowest_again {n d : Int} (h : 1 ≤ d) : lowN (lowN n d) (lowD n d) = lowN n d ∧ lowD (lowN n d) (lowD n d) = lowD n d := by
  have hg : gcdI (lowN n d) (lowD n d) = 1 := by
    unfold lowN lowD gcdI
    have h0 : 0 < Int.gcd n d := Int.gcd_pos_of_ne_zero_right _ (by omega)
    rw [Int.gcd_ediv_gcd_ediv_gcd h0]
    rfl
  exact low_of_one hg
theorem low_le {n d m e : Int} (he : 1 ≤ e) : (lowN m e * d ≤ n * lowD m e ↔ m * d ≤ n * e) ∧ (n * lowD m e ≤ lowN m e * d ↔ n * e ≤ m * d) := by
  have hg := gcdI_pos (n := m) he
  obtain ⟨e1, e2⟩ := low_mul m e
  have q1 : m * d = lowN m e * d * gcdI m e := by conv => lhs; rw [← e1]
                                                  rw [Int.mul_assoc, Int.mul_comm (gcdI m e) d, ← Int.mul_assoc]
  have q2 : n * e = n * lowD m e * gcdI m e := by conv => lhs; rw [← e2]
                                                  rw [← Int.mul_assoc]
  rw [q1, q2]
  exact ⟨⟨fun h => Int.mul_le_mul_of_nonneg_right h (by omega), fun h => Int.le_of_mul_le_mul_right h (by omega)⟩, ⟨fun h => Int.mul_le_mul_of_nonneg_right h (by omega), fun h => Int.le_of_mul_le_mul_right h (by omega)⟩⟩
theorem flat_ok {s : Sl} (h : StOk s) : slopeB (flatN s) (flatE s) = true ∧ lowN (flatN s) (flatE s) = flatN s ∧ lowD (flatN s) (flatE s) = flatE s := by
  have h1 := ((slopeB_iff _ _).1 h.lo).2.2.1
  have h2 := ((slopeB_iff _ _).1 h.hi).2.2.1
  unfold flatN flatE
  split
  · exact ⟨low_bounds h.lo, lowest_again h1⟩
  · split
    · exact ⟨low_bounds h.hi, lowest_again h2⟩
    · exact ⟨by simp [slopeB], by simp [lowN, gcdI], by simp [lowD, gcdI]⟩
theorem flat_in {s : Sl} (h : StOk s) (hs : shutS s = false) : InS s (flatN s) (flatE s) := by
  have hle := open_iff.1 hs
  have h1 := ((slopeB_iff _ _).1 h.lo).2.2.1
  have h2 := ((slopeB_iff _ _).1 h.hi).2.2.1
  unfold InS flatN flatE
  by_cases g1 : 0 < s.a
  · rw [if_pos g1, if_pos g1]
    exact ⟨(low_le h1).2.2 (Int.le_refl _), (low_le h1).1.2 hle⟩
  · rw [if_neg g1, if_neg g1]
    by_cases g2 : s.c < 0
    · rw [if_pos g2, if_pos g2]
      exact ⟨(low_le h2).2.2 hle, (low_le h2).1.2 (Int.le_refl _)⟩
    · rw [if_neg g2, if_neg g2]
      simp only [Int.mul_one, Int.zero_mul]
      omega
theorem flat_near {s : Sl} (h : StOk s) (hs : shutS s = false) : NearI s.a s.b s.c s.d (flatN s) (flatE s) 0 := by
  have hsl : slopesB s.a s.b s.c s.d = true := by simp [slopesB, h.lo, h.hi]
  have hle := open_iff.1 hs
  have hc : cpI s.a s.b s.c s.d ≤ 0 := by
    simp only [cpI, hsl, if_true, cmpI]
    split
    · exact Int.le_refl _
    · rw [if_pos (by omega)]; decide
  refine .inr ⟨hsl, .inr ⟨hc, ?_⟩⟩
  unfold flatN flatE
  by_cases g1 : 0 < s.a
  · rw [if_pos g1, if_pos g1]
    exact .inl ⟨g1, rfl, rfl, rfl⟩
  · rw [if_neg g1, if_neg g1]
    by_cases g2 : s.c < 0
    · rw [if_pos g2, if_pos g2]
      exact .inr (.inl ⟨by omega, g2, rfl, rfl, rfl⟩)
    · rw [if_neg g2, if_neg g2]
      exact .inr (.inr ⟨by omega, by omega, rfl, rfl, rfl⟩)

/-- How high a line of the slope n / d must be at t0 to be at a band's least value, d times. -/
def capC (t0 n d : Int) (b : Bd) : Int := b.lo * d - n * (b.t - t0)
def lowF (t0 n d : Int) : Int → List Bd → Int
  | m, [] => m
  | m, b :: l => lowF t0 n d (if m < capC t0 n d b then capC t0 n d b else m) l
/-- .. nowhere below a band. -/
def lowC (t0 n d : Int) : List Bd → Int
  | [] => 0
  | b :: l => lowF t0 n d (capC t0 n d b) l
theorem lowF_ge (t0 n d : Int) : ∀ (l : List Bd) (m : Int), m ≤ lowF t0 n d m l ∧ ∀ b ∈ l, capC t0 n d b ≤ lowF t0 n d m l
  | [], m => by simp [lowF]
  | x :: l, m => by
    obtain ⟨h1, h2⟩ := lowF_ge t0 n d l (if m < capC t0 n d x then capC t0 n d x else m)
    rw [lowF]
    have h3 : m ≤ (if m < capC t0 n d x then capC t0 n d x else m) ∧ capC t0 n d x ≤ (if m < capC t0 n d x then capC t0 n d x else m) := by split <;> omega
    refine ⟨by omega, fun b hb => ?_⟩
    rcases List.mem_cons.1 hb with rfl | hb
    · omega
    · exact h2 b hb
theorem lowF_is (t0 n d : Int) : ∀ (l : List Bd) (m : Int), lowF t0 n d m l = m ∨ ∃ b ∈ l, lowF t0 n d m l = capC t0 n d b
  | [], m => .inl rfl
  | x :: l, m => by
    rw [lowF]
    rcases lowF_is t0 n d l (if m < capC t0 n d x then capC t0 n d x else m) with h | ⟨b, hb, h⟩
    · rw [h]
      split
      · exact .inr ⟨x, by simp, rfl⟩
      · exact .inl rfl
    · exact .inr ⟨b, by simp [hb], h⟩
theorem lowC_ge {t0 n d : Int} {l : List Bd} {b : Bd} (h : b ∈ l) : capC t0 n d b ≤ lowC t0 n d l := by
  cases l with
  | nil => simp at h
  | cons x l =>
    obtain ⟨h1, h2⟩ := lowF_ge t0 n d l (capC t0 n d x)
    rcases List.mem_cons.1 h with rfl | h
    · exact h1
    · exact h2 b h
theorem lowC_is {t0 n d : Int} {l : List Bd} (hne : l ≠ []) : ∃ b ∈ l, lowC t0 n d l = capC t0 n d b := by
  obtain ⟨x, l, rfl⟩ := List.exists_cons_of_ne_nil hne
  rcases lowF_is t0 n d l (capC t0 n d x) with h | ⟨b, hb, h⟩
  · exact ⟨x, by simp, h⟩
  · exact ⟨b, by simp [hb], h⟩
theorem pair_any {R : Bd → Bd → Prop} : ∀ {l : List Bd}, l.Pairwise R → ∀ {x y : Bd}, x ∈ l → y ∈ l → x = y ∨ R x y ∨ R y x
  | [], _, _, _, hx, _ => by simp at hx
  | b :: l, h, x, y, hx, hy => by
    obtain ⟨h1, h2⟩ := List.pairwise_cons.1 h
    rcases List.mem_cons.1 hx with ex | mx
    · rcases List.mem_cons.1 hy with ey | my
      · exact .inl (ex.trans ey.symm)
      · exact .inr (.inl (by rw [ex]; exact h1 y my))
    · rcases List.mem_cons.1 hy with ey | my
      · exact .inr (.inr (by rw [ey]; exact h1 x mx))
      · exact pair_any h2 mx my
/-- The lowest line of a slope that each two bands let goes through all of them. -/
theorem low_thru {l : List Bd} {t0 n d : Int} (h : RowOk l) (hd : 1 ≤ d) (hp : PairW l n d) : ThruR t0 (lowC t0 n d l) n d l := by
  intro b hb
  refine ⟨?_, ?_⟩
  · have := lowC_ge (t0 := t0) (n := n) (d := d) hb
    unfold capC at this
    omega
  · obtain ⟨x, hx, e⟩ := lowC_is (t0 := t0) (n := n) (d := d) (l := l) (by intro e; subst e; simp at hb)
    rw [e]
    unfold capC
    have hlo : ∀ z ∈ l, z.lo * d ≤ z.hi * d := fun z hz => Int.mul_le_mul_of_nonneg_right (h.1 z hz).2.2.1 (by omega)
    rcases pair_any hp hx hb with rfl | g | g
    · have := hlo x hx
      omega
    · have g2 := g.2
      simp only [pairS, Int.sub_mul, Int.mul_sub] at *
      omega
    · have g1 := g.1
      simp only [pairS, Int.sub_mul, Int.mul_sub] at *
      omega
/-- Through these bands goes a line of whatever fractions. -/
def Goes (l : List Bd) : Prop := ∃ t0 c n d, 1 ≤ d ∧ ThruR t0 c n d l
theorem Goes.sub {l m : List Bd} (h : Goes l) (hs : ∀ b ∈ m, b ∈ l) : Goes m := by
  obtain ⟨t0, c, n, d, hd, ht⟩ := h
  exact ⟨t0, c, n, d, hd, ht.sub hs⟩
theorem first_goes {l : List Bd} (h : RowOk l) : Goes (l.take (firN l)) := by
  have h1 := firS_ok h
  have h2 := ((slopeB_iff _ _).1 (flat_ok h1).1).2.2.1
  exact ⟨0, _, flatN (firS l), flatE (firS l), h2, low_thru (h.take _) h2 ((all_in (h.take _) h2).1 (flat_in h1 (firS_open l))).2⟩
theorem goes_long {l : List Bd} (h : RowOk l) {p : Nat} (hp : p ≤ l.length) (hf : Goes (l.take p)) : p ≤ firN l := by
  obtain ⟨t0, c, n, d, hd, ht⟩ := hf
  exact thru_long h hd hp ht
/-- How many bands each part has. -/
def cutN : List Bd → List Nat
  | [] => []
  | b :: t => firN (b :: t) :: cutN (t.drop (goA [b] every0 t))
termination_by l => l.length
decreasing_by simp; omega
theorem cutN_nil : cutN [] = [] := by rw [cutN]
theorem cutN_next {l : List Bd} (hne : l ≠ []) : cutN l = firN l :: cutN (l.drop (firN l)) := by
  obtain ⟨b, t, rfl⟩ := List.exists_cons_of_ne_nil hne
  rw [cutN, firN_cons, List.drop_succ_cons]
/-- Bands are cut into so many parts, through each of which a line goes. -/
inductive Cov : List Bd → Nat → Prop
  | nil : Cov [] 0
  | cons {l : List Bd} {m : Nat} (p : Nat) (h1 : 1 ≤ p) (h2 : p ≤ l.length) (h3 : Goes (l.take p)) (h4 : Cov (l.drop p) m) : Cov l (m + 1)
theorem cut_least {l : List Bd} {m : Nat} (h : Cov l m) (hR : RowOk l) : ∀ (n k : Nat), (l.drop k).length ≤ n → (cutN (l.drop k)).length ≤ m := by
  induction h with
  | nil => intro n k _; simp [cutN_nil]
  | @cons l m p h1 h2 h3 h4 ih =>
    intro n k hn
    by_cases gp : p ≤ k
    · have e : l.drop k = (l.drop p).drop (k - p) := by rw [List.drop_drop]; congr 1; omega
      have := ih (hR.drop p) n (k - p) (by rw [← e]; exact hn)
      rw [e]; omega
    · by_cases hne : l.drop k = []
      · rw [hne, cutN_nil]; simp
      · rw [cutN_next hne]
        have hlong : p - k ≤ firN (l.drop k) := by
          refine goes_long (hR.drop k) (by rw [List.length_drop]; omega) (h3.sub ?_)
          intro b hb
          have e : (l.drop k).take (p - k) = (l.take p).drop k := by rw [List.drop_take]
          rw [e] at hb
          exact List.mem_of_mem_drop hb
        have e : (l.drop k).drop (firN (l.drop k)) = (l.drop p).drop (k + firN (l.drop k) - p) := by
          rw [List.drop_drop, List.drop_drop]; congr 1; omega
        have := ih (hR.drop p) n (k + firN (l.drop k) - p) (by
          rw [← e, List.length_drop]; omega)
        rw [e, List.length_cons]
        omega
theorem least_cut {l : List Bd} {m : Nat} (h : Cov l m) (hR : RowOk l) : (cutN l).length ≤ m := by
  have := cut_least h hR l.length 0 (by simp)
  simpa using this
theorem cut_cov : ∀ (n : Nat) (l : List Bd), l.length ≤ n → RowOk l → Cov l (cutN l).length
  | _, [], _, _ => by rw [cutN_nil]; exact .nil
  | 0, _ :: _, h, _ => by simp at h
  | n + 1, b :: l, h, hR => by
    have hne : b :: l ≠ [] := by simp
    obtain ⟨h1, h2⟩ := firN_le hne
    rw [cutN_next hne, List.length_cons]
    refine .cons (firN (b :: l)) h1 h2 (first_goes hR) ?_
    exact cut_cov n _ (by rw [List.length_drop, List.length_cons] at *; omega) (hR.drop _)
theorem cov_cut {l : List Bd} (hR : RowOk l) : Cov l (cutN l).length := cut_cov l.length l (Nat.le_refl _) hR
theorem cut_le : ∀ (n : Nat) (l : List Bd), l.length ≤ n → (cutN l).length ≤ l.length
  | 0, l, h => by
    have e : l = [] := List.eq_nil_of_length_eq_zero (by omega)
    subst e
    rw [cutN_nil]; simp
  | n + 1, l, h => by
    by_cases hne : l = []
    · subst hne
      rw [cutN_nil]; simp
    · obtain ⟨h1, h2⟩ := firN_le hne
      rw [cutN_next hne, List.length_cons]
      have := cut_le n (l.drop (firN l)) (by rw [List.length_drop]; omega)
      rw [List.length_drop] at this
      omega
end Go.Proofs.YtoephkglpbophaaGreat.P10
