/-
  Layer 9: swing: what lies in a door; facts of numbers alone. Conditions: those written at each fact.
-/
import Derived.Test.YtoephkglpbophaaGreatSwO
namespace Go.Proofs.YtoephkglpbophaaGreat.P9
open Go.RowKit Go.Shelf Go.Proofs.YtoephkglpbophaaGreat.P8

/-- Fractions: from n / d up to m / e, up to k / f. -/
theorem frac_trans {n d m e k f : Int} (hd : 0 < d) (he : 0 < e) (hf : 0 < f) (h1 : n * e ≤ m * d) (h2 : m * f ≤ k * e) : n * f ≤ k * d := by
  have a1 := Int.mul_le_mul_of_nonneg_right h1 (Int.le_of_lt hf)
  have a2 := Int.mul_le_mul_of_nonneg_right h2 (Int.le_of_lt hd)
  have e1 : m * d * f = m * f * d := by rw [Int.mul_assoc, Int.mul_comm d f, ← Int.mul_assoc]
  have e2 : n * e * f = n * f * e := by rw [Int.mul_assoc, Int.mul_comm e f, ← Int.mul_assoc]
  have e3 : k * e * d = k * d * e := by rw [Int.mul_assoc, Int.mul_comm e d, ← Int.mul_assoc]
  rw [e2, e1] at a1
  rw [e3] at a2
  exact Int.le_of_mul_le_mul_right (Int.le_trans a1 a2) he
/-- The slope n / d lies in the door. -/
def InD (x : Dr) (n d : Int) : Prop := x.a * d ≤ n * x.b ∧ n * x.d ≤ x.c * d
/-- The line of slope n / d from (t, v) goes through a band. -/
def OkB (t v : Int) (b : Bd) (n d : Int) : Prop := (b.lo - v) * d ≤ n * (b.t - t) ∧ n * (b.t - t) ≤ (b.hi - v) * d
theorem DrOk.pos {x : Dr} (h : DrOk x) : 0 < x.b ∧ 0 < x.d := by
  have h1 := (slopeB_iff _ _).1 h.lo
  have h2 := (slopeB_iff _ _).1 h.hi
  omega
theorem low_le {n d m e : Int} (he : 1 ≤ e) : (lowN m e * d ≤ n * lowD m e ↔ m * d ≤ n * e) ∧ (n * lowD m e ≤ lowN m e * d ↔ n * e ≤ m * d) := by
  have hg := gcdI_pos (n := m) he
  obtain ⟨e1, e2⟩ := low_mul m e
  have q1 : m * d = lowN m e * d * gcdI m e := by rw [← e1]; rw [e1]; conv => lhs; rw [← e1]
                                                  rw [Int.mul_assoc, Int.mul_comm (gcdI m e) d, ← Int.mul_assoc]
  have q2 : n * e = n * lowD m e * gcdI m e := by conv => lhs; rw [← e2]
                                                  rw [← Int.mul_assoc]
  rw [q1, q2]
  exact ⟨⟨fun h => Int.mul_le_mul_of_nonneg_right h (by omega), fun h => Int.le_of_mul_le_mul_right h (by omega)⟩, ⟨fun h => Int.mul_le_mul_of_nonneg_right h (by omega), fun h => Int.le_of_mul_le_mul_right h (by omega)⟩⟩
theorem gre_le {a b p q n d : Int} (hb : 0 < b) (hq : 0 < q) (hd : 0 < d) : greN a b p q * d ≤ n * greD a b p q ↔ a * d ≤ n * b ∧ p * d ≤ n * q := by
  unfold greN greD
  by_cases g : p * b < a * q
  · rw [if_pos g, if_pos g]
    exact ⟨fun h => ⟨h, frac_trans hq hb hd (Int.le_of_lt g) h⟩, fun h => h.1⟩
  · rw [if_neg g, if_neg g]
    exact ⟨fun h => ⟨frac_trans hb hq hd (by omega) h, h⟩, fun h => h.2⟩
theorem les_le {a b p q n d : Int} (hb : 0 < b) (hq : 0 < q) (hd : 0 < d) : n * lesD a b p q ≤ lesN a b p q * d ↔ n * b ≤ a * d ∧ n * q ≤ p * d := by
  unfold lesN lesD
  by_cases g : p * b < a * q
  · rw [if_pos g, if_pos g]
    exact ⟨fun h => ⟨frac_trans hd hq hb h (Int.le_of_lt g), h⟩, fun h => h.2⟩
  · rw [if_neg g, if_neg g]
    exact ⟨fun h => ⟨h, frac_trans hd hb hq h (by omega)⟩, fun h => h.1⟩
theorem in_step {x : Dr} {b : Bd} {n d : Int} (hx : DrOk x) (hb : BdOk b) (hd : 1 ≤ d) : InD (stepD x b) n d ↔ InD x n d ∧ (x.t < b.t → OkB x.t x.v b n d) := by
  obtain ⟨h1, h2, h3⟩ := band_ok hb
  obtain ⟨p1, p2⟩ := hx.pos
  unfold stepD
  by_cases g : x.t < b.t
  · rw [if_pos g]
    obtain ⟨s1, _⟩ := sl_ok hx.v h2 hx.t h1 g
    obtain ⟨s2, _⟩ := sl_ok hx.v h3 hx.t h1 g
    have s1 := ((slopeB_iff _ _).1 s1).2.2.1
    have s2 := ((slopeB_iff _ _).1 s2).2.2.1
    unfold InD
    simp only
    rw [gre_le p1 (by omega) (by omega), les_le p2 (by omega) (by omega)]
    unfold slN slD OkB
    rw [(low_le (n := n) (d := d) (m := b.lo - x.v) (e := b.t - x.t) (by omega)).1, (low_le (n := n) (d := d) (m := b.hi - x.v) (e := b.t - x.t) (by omega)).2]
    exact ⟨fun h => ⟨⟨h.1.1, h.2.1⟩, fun _ => ⟨h.1.2, h.2.2⟩⟩, fun h => ⟨⟨h.1.1, (h.2 g).1⟩, ⟨h.1.2, (h.2 g).2⟩⟩⟩
  · rw [if_neg g]
    exact ⟨fun h => ⟨h, fun h' => absurd h' g⟩, fun h => h.1⟩
theorem in_fold : ∀ (l : List Bd) {x : Dr} {n d : Int}, DrOk x → (∀ b ∈ l, BdOk b) → 1 ≤ d → (InD (fD x l) n d ↔ InD x n d ∧ ∀ b ∈ l, x.t < b.t → OkB x.t x.v b n d)
  | [], _, _, _, _, _, _ => by simp [fD]
  | b :: l, x, n, d, hx, hR, hd => by
    have hb := hR b (List.mem_cons_self ..)
    obtain ⟨e1, e2⟩ := tv_step x b
    have h := in_fold l (x := stepD x b) (n := n) (d := d) (step_ok hx hb) (fun c hc => hR c (List.mem_cons_of_mem _ hc)) hd
    rw [e1, e2, in_step hx hb hd] at h
    show InD (fD (stepD x b) l) n d ↔ _
    rw [h]
    constructor
    · rintro ⟨⟨h1, h2⟩, h3⟩
      refine ⟨h1, fun c hc => ?_⟩
      rcases List.mem_cons.1 hc with rfl | hc
      · exact h2
      · exact h3 c hc
    · rintro ⟨h1, h2⟩
      exact ⟨⟨h1, h2 b (List.mem_cons_self ..)⟩, fun c hc => h2 c (List.mem_cons_of_mem _ hc)⟩
/-- A door is not shut just if some slope lies in it. -/
theorem in_open {x : Dr} {n d : Int} (hx : DrOk x) (hd : 1 ≤ d) (h : InD x n d) : shutD x = false := by
  obtain ⟨p1, p2⟩ := hx.pos
  have := frac_trans p1 (by omega) p2 h.1 h.2
  exact decide_eq_false (by omega)
theorem flat_in {x : Dr} (hs : shutD x = false) : InD x (flatN x) (flatE x) := by
  have hle : x.a * x.d ≤ x.c * x.b := by
    have := of_decide_eq_false hs
    omega
  unfold InD flatN flatE
  by_cases g1 : 0 < x.a
  · rw [if_pos g1, if_pos g1]
    exact ⟨Int.le_refl _, hle⟩
  · rw [if_neg g1, if_neg g1]
    by_cases g2 : x.c < 0
    · rw [if_pos g2, if_pos g2]
      exact ⟨hle, Int.le_refl _⟩
    · rw [if_neg g2, if_neg g2]
      simp only [Int.mul_one, Int.zero_mul]
      omega
theorem in_open0 {b : Bd} {n d : Int} : InD (open0 b) n d ↔ -4611688217450643456 * d ≤ n ∧ n ≤ 4611688217450643456 * d := by
  unfold InD open0
  simp only [Int.mul_one]
theorem slope_open {n d : Int} (h : slopeB n d = true) (b : Bd) : InD (open0 b) n d := by
  obtain ⟨h1, h2, h3, _⟩ := (slopeB_iff _ _).1 h
  rw [in_open0]
  have := Int.mul_le_mul_of_nonneg_left h3 (show (0 : Int) ≤ 4611688217450643456 by omega)
  omega
/-- If some slope goes through all bands, all of them are the first part. -/
theorem all_in {b0 : Bd} {l : List Bd} (hR : ∀ b ∈ b0 :: l, BdOk b) {n d : Int} (hs : slopeB n d = true) (h : ∀ b ∈ b0 :: l, b0.t < b.t → OkB b0.t (mid b0) b n d) : firN (b0 :: l) = (b0 :: l).length ∧ InD (firX (b0 :: l)) n d := by
  have hd := ((slopeB_iff _ _).1 hs).2.2.1
  have h0 := open_ok (hR b0 (List.mem_cons_self ..))
  have key : ∀ m : List Bd, (∀ b ∈ m, b ∈ b0 :: l) → InD (fD (open0 b0) m) n d := fun m hm => (in_fold m h0 (fun b hb => hR b (hm b hb)) hd).2 ⟨slope_open hs b0, fun b hb => h b (hm b hb)⟩
  have hn : firN (b0 :: l) = (b0 :: l).length := goS_eq _ _ _ (Nat.le_refl _) (fun i _ => in_open (fD_ok _ h0 (fun b hb => hR b (List.mem_of_mem_take hb))) hd (key _ (fun b hb => List.mem_of_mem_take hb))) (.inl rfl)
  exact ⟨hn, key _ (fun b hb => List.mem_of_mem_take hb)⟩
end Go.Proofs.YtoephkglpbophaaGreat.P9
