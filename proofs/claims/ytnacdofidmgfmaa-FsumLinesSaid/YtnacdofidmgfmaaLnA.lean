/-
  Layer 5: the greatest common divisor, slopes in lowest terms, which slopes may be. Conditions: those written at each fact.
-/
import Derived.Test.YtnacdofidmgfmaaChecked
import Derived.Test.YtnacdofidmgfmaaNum
import Derived.Test.YtnacdofidmgfmaaKitX
import Derived.StillTactics
import Derived.WalkMore
import Derived.ScopeJumps
namespace Go.Proofs.Ytnacdofidmgfmaa
open Go.RowKit

theorem tmod_gcd {p q : Int} (hp : 0 ≤ p) (hq : 0 < q) : Int.gcd q (p.tmod q) = Int.gcd p q ∧ 0 ≤ p.tmod q ∧ p.tmod q < q := by
  rw [Int.tmod_eq_emod_of_nonneg hp]
  refine ⟨?_, Int.emod_nonneg _ (by omega), Int.emod_lt_of_pos _ hq⟩
  obtain ⟨P, rfl⟩ := Int.eq_ofNat_of_zero_le hp
  obtain ⟨Q, rfl⟩ := Int.eq_ofNat_of_zero_le (Int.le_of_lt hq)
  rw [Int.gcd_comm, ← Int.natCast_emod]
  show Nat.gcd (P % Q) Q = Nat.gcd P Q
  rw [← Nat.gcd_rec, Nat.gcd_comm]
theorem gcd_nought {p : Int} (hp : 0 ≤ p) : ((Int.gcd p 0 : Nat) : Int) = p := by
  rw [Int.gcd_zero]; omega
theorem below_on {w w1 w2 : World} (h : Below w.heap.size w w1) (k : Below w1.heap.size w1 w2) : Below w.heap.size w w2 := under h k
def intOf' : Value → Int | .int _ q => q | _ => 0
set_option maxRecDepth 100000 in
theorem divisor_any (x y : Int) (hx : 0 ≤ x) (hx1 : x ≤ 9223372036854775807) (hy : 0 ≤ y) (hy1 : y ≤ 9223372036854775807) (w : World) :
    Calls Try.prog 92 #[.int .i64 x, .int .i64 y] w (Ret w (.int .i64 (Int.gcd x y))) := by
  go_enter Try.func92, Try.ntmps92
  go_wp2
  refine wp_scope_jumps 0 (fun a' w' => Below w.heap.size w w' ∧ ∃ (p q : Int) (u5 u6 u7 u8 u9 u10 : Value), a' = { tmps := #[.int .i64 p, .int .i64 q, undef, undef, .int .i64 0, u5, u6, u7, u8, u9, u10, undef], defers := [] } ∧ Int.gcd p q = Int.gcd x y ∧ 0 ≤ p ∧ p ≤ 9223372036854775807 ∧ 0 ≤ q ∧ q ≤ 9223372036854775807) (fun a' _ => (intOf' (a'.tmps.getD 1 undef)).toNat) rfl ?_ ?_
  · go_wp2
    go_step3
    by_cases g : 0 < y
    · have g0 : ¬ y = 0 := by omega
      obtain ⟨e1, e2, e3⟩ := tmod_gcd hx g
      go_wp2_with fail
      refine region_keeps (w0 := w) (L := []) (by kernel_rfl) (by first | exact hHeld | (refine ⟨by go_grown, ?_⟩; simp [Cells, go_sem]; done)) (fun hHeld0 => ?_)
      refine wpAnyH_take (i := 0) (oi := ⟨some 7, _, _, _, _, _⟩) (v := ?_) rfl (by kernel_rfl) (by kernel_rfl) (by kernel_rfl) (fun _ _ _ h => h) (Or.inl ⟨by rfl, ?_⟩) (by assumption) ?_
      rotate_left
      · intro wq hSw; go_simp; (try with_reducible rfl)
      try simp only [Act.put, List.setIfInBounds_toArray, List.set_cons_zero, List.set_cons_succ]
      refine wpAnyH_take (i := 1) (oi := ⟨some 8, _, _, _, _, _⟩) (v := ?_) rfl (by kernel_rfl) (by kernel_rfl) (by kernel_rfl) (fun _ _ _ h => h) (Or.inl ⟨by rfl, ?_⟩) (by assumption) ?_
      rotate_left
      · intro wq hSw; go_simp; (try with_reducible rfl)
      try simp only [Act.put, List.setIfInBounds_toArray, List.set_cons_zero, List.set_cons_succ]
      refine wpAnyH_take (i := 2) (oi := ⟨some 9, _, _, _, _, _⟩) (v := ?_) rfl (by kernel_rfl) (by kernel_rfl) (by kernel_rfl) (fun _ _ _ h => h) (Or.inl ⟨by rfl, ?_⟩) (by assumption) ?_
      rotate_left
      · intro wq hSw; go_simp; (try with_reducible rfl)
      try simp only [Act.put, List.setIfInBounds_toArray, List.set_cons_zero, List.set_cons_succ]
      refine wpAnyH_take (i := 3) (oi := ⟨some 10, _, _, _, _, _⟩) (v := ?_) rfl (by kernel_rfl) (by kernel_rfl) (by kernel_rfl) (fun _ _ _ h => h) (Or.inl ⟨by rfl, ?_⟩) (by assumption) ?_
      rotate_left
      · intro wq hSw; go_simp; (try with_reducible rfl)
      try simp only [Act.put, List.setIfInBounds_toArray, List.set_cons_zero, List.set_cons_succ]
      refine wpAnyH_take (i := 4) (oi := ⟨some 0, _, _, _, _, _⟩) (v := ?_) rfl (by kernel_rfl) (by kernel_rfl) (by kernel_rfl) (fun _ _ _ h => h) (Or.inl ⟨by rfl, ?_⟩) (by assumption) ?_
      rotate_left
      · intro wq hSw; go_simp; (try with_reducible rfl)
      try simp only [Act.put, List.setIfInBounds_toArray, List.set_cons_zero]
      refine wpAnyH_take (i := 5) (oi := ⟨some 1, _, _, _, _, _⟩) (v := ?_) rfl (by kernel_rfl) (by kernel_rfl) (by kernel_rfl) (fun _ _ _ h => h) (Or.inl ⟨by rfl, ?_⟩) (by assumption) ?_
      rotate_left
      · intro wq hSw; go_simp; (try with_reducible rfl)
      try simp only [Act.put, List.setIfInBounds_toArray, List.set_cons_zero, List.set_cons_succ]
      refine wpAnyH_done (by kernel_rfl) ?_ _
      have hHeld := hHeld0
      all_goals
        go_wp2
        go_step3
        exact ⟨rfl, hHeld.1, _, _, _, _, _, _, _, _, rfl, e1, hy, hy1, e2, by omega⟩
    · have g0 : y = 0 := by omega
      subst g0
      go_wp2
      simp only [Exit.jump]
      go_ret
      exact ⟨(congrArg (fun z => Ending.returned (.int .i64 z)) (show x = ((x.natAbs : Nat) : Int) by omega)), Below.refl _ _⟩
  · rintro a' w' ⟨hb, p, q, u5, u6, u7, u8, u9, u10, rfl, hg, hp, hp1, hq, hq1⟩
    by_cases g : 0 < q
    · have g0 : ¬ q = 0 := by omega
      obtain ⟨e1, e2, e3⟩ := tmod_gcd hp g
      go_wp2_with fail
      refine region_keeps (w0 := w') (L := []) (by kernel_rfl) (by first | exact hHeld | (refine ⟨by go_grown, ?_⟩; simp [Cells, go_sem]; done)) (fun hHeld0 => ?_)
      refine wpAnyH_take (i := 0) (oi := ⟨some 7, _, _, _, _, _⟩) (v := ?_) rfl (by kernel_rfl) (by kernel_rfl) (by kernel_rfl) (fun _ _ _ h => h) (Or.inl ⟨by rfl, ?_⟩) (by assumption) ?_
      rotate_left
      · intro wq hSw; go_simp; (try with_reducible rfl)
      try simp only [Act.put, List.setIfInBounds_toArray, List.set_cons_zero, List.set_cons_succ]
      refine wpAnyH_take (i := 1) (oi := ⟨some 8, _, _, _, _, _⟩) (v := ?_) rfl (by kernel_rfl) (by kernel_rfl) (by kernel_rfl) (fun _ _ _ h => h) (Or.inl ⟨by rfl, ?_⟩) (by assumption) ?_
      rotate_left
      · intro wq hSw; go_simp; (try with_reducible rfl)
      try simp only [Act.put, List.setIfInBounds_toArray, List.set_cons_zero, List.set_cons_succ]
      refine wpAnyH_take (i := 2) (oi := ⟨some 9, _, _, _, _, _⟩) (v := ?_) rfl (by kernel_rfl) (by kernel_rfl) (by kernel_rfl) (fun _ _ _ h => h) (Or.inl ⟨by rfl, ?_⟩) (by assumption) ?_
      rotate_left
      · intro wq hSw; go_simp; (try with_reducible rfl)
      try simp only [Act.put, List.setIfInBounds_toArray, List.set_cons_zero, List.set_cons_succ]
      refine wpAnyH_take (i := 3) (oi := ⟨some 10, _, _, _, _, _⟩) (v := ?_) rfl (by kernel_rfl) (by kernel_rfl) (by kernel_rfl) (fun _ _ _ h => h) (Or.inl ⟨by rfl, ?_⟩) (by assumption) ?_
      rotate_left
      · intro wq hSw; go_simp; (try with_reducible rfl)
      try simp only [Act.put, List.setIfInBounds_toArray, List.set_cons_zero, List.set_cons_succ]
      refine wpAnyH_take (i := 4) (oi := ⟨some 0, _, _, _, _, _⟩) (v := ?_) rfl (by kernel_rfl) (by kernel_rfl) (by kernel_rfl) (fun _ _ _ h => h) (Or.inl ⟨by rfl, ?_⟩) (by assumption) ?_
      rotate_left
      · intro wq hSw; go_simp; (try with_reducible rfl)
      try simp only [Act.put, List.setIfInBounds_toArray, List.set_cons_zero]
      refine wpAnyH_take (i := 5) (oi := ⟨some 1, _, _, _, _, _⟩) (v := ?_) rfl (by kernel_rfl) (by kernel_rfl) (by kernel_rfl) (fun _ _ _ h => h) (Or.inl ⟨by rfl, ?_⟩) (by assumption) ?_
      rotate_left
      · intro wq hSw; go_simp; (try with_reducible rfl)
      try simp only [Act.put, List.setIfInBounds_toArray, List.set_cons_zero, List.set_cons_succ]
      refine wpAnyH_done (by kernel_rfl) ?_ _
      have hHeld := hHeld0
      all_goals
        go_wp2
        go_step3
        exact ⟨rfl, ⟨below_on hb hHeld.1, _, _, _, _, _, _, _, _, rfl, by rw [e1, hg], hq, hq1, e2, by omega⟩, by simp [intOf']; omega⟩
    · have g0 : q = 0 := by omega
      subst g0
      go_wp2
      simp only [Exit.jump]
      go_ret
      rw [← hg]
      exact ⟨(congrArg (fun z => Ending.returned (.int .i64 z)) (gcd_nought hp).symm), hb⟩
/-- What may be a slope; its lowest terms. -/
def slopeB (n d : Int) : Bool := decide (-4611688217450643456 ≤ n) && decide (n ≤ 4611688217450643456) && decide (1 ≤ d) && decide (d ≤ 281474976710656)
theorem slopeB_iff (n d : Int) : slopeB n d = true ↔ -4611688217450643456 ≤ n ∧ n ≤ 4611688217450643456 ∧ 1 ≤ d ∧ d ≤ 281474976710656 := by
  unfold slopeB; simp only [Bool.and_eq_true, decide_eq_true_eq]; omega
def gcdI (n d : Int) : Int := (Int.gcd n d : Nat)
def lowN (n d : Int) : Int := n / gcdI n d
def lowD (n d : Int) : Int := d / gcdI n d
abbrev slV (n d : Int) : Value := .agg #[.int .i64 n, .int .i64 d]
theorem gcdI_pos {n d : Int} (h : 1 ≤ d) : 1 ≤ gcdI n d := by
  unfold gcdI
  have : 0 < Int.gcd n d := Int.gcd_pos_of_ne_zero_right n (by omega)
  omega
theorem gcdI_le {n d : Int} (h : 1 ≤ d) : gcdI n d ≤ d := by
  unfold gcdI
  have : ((Int.gcd n d : Nat) : Int) ∣ d := Int.gcd_dvd_right ..
  exact Int.le_of_dvd (by omega) this
theorem low_mul (n d : Int) : lowN n d * gcdI n d = n ∧ lowD n d * gcdI n d = d := by
  unfold lowN lowD gcdI
  exact ⟨Int.ediv_mul_cancel (Int.gcd_dvd_left ..), Int.ediv_mul_cancel (Int.gcd_dvd_right ..)⟩
theorem tdiv_of_mul {a g q : Int} (hg : 1 ≤ g) (h : q * g = a) : a.tdiv g = q := by
  rw [← h, Int.mul_tdiv_cancel _ (by omega)]
theorem abs_le_mul {q g a : Int} (hg : 1 ≤ g) (h : q * g = a) (hi : Int) (hh : -hi ≤ a ∧ a ≤ hi) : -hi ≤ q ∧ q ≤ hi := by
  have e : (a / g) = q := by rw [← h, Int.mul_ediv_cancel _ (by omega)]
  constructor
  · by_cases h0 : 0 ≤ q
    · omega
    · have : q * g ≤ q * 1 := Int.mul_le_mul_of_nonpos_left (by omega) hg
      omega
  · by_cases h0 : 0 ≤ q
    · have : q * 1 ≤ q * g := Int.mul_le_mul_of_nonneg_left hg h0
      omega
    · omega
theorem low_bounds {n d : Int} (h : slopeB n d = true) : slopeB (lowN n d) (lowD n d) = true := by
  rw [slopeB_iff] at *
  obtain ⟨h1, h2, h3, h4⟩ := h
  obtain ⟨e1, e2⟩ := low_mul n d
  have g1 := gcdI_pos (n := n) h3
  have b1 := abs_le_mul g1 e1 4611688217450643456 ⟨h1, h2⟩
  have b2 := abs_le_mul g1 e2 281474976710656 ⟨by omega, h4⟩
  have b3 : 1 ≤ lowD n d := by
    by_cases h0 : 1 ≤ lowD n d
    · exact h0
    · have : lowD n d * gcdI n d ≤ 0 := Int.mul_nonpos_of_nonpos_of_nonneg (by omega) (by omega)
      omega
  omega
attribute [irreducible] slopeB gcdI lowN lowD
end Go.Proofs.Ytnacdofidmgfmaa
