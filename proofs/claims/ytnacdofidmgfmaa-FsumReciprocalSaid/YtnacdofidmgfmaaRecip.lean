/-
  The walk of the law FsumReciprocal. Conditions: none.
-/
import Derived.Test.YtnacdofidmgfmaaFsJ
import Derived.Test.YtnacdofidmgfmaaLnA
namespace Go.Proofs.Ytnacdofidmgfmaa
open Go.RowKit

theorem neg_div_not {x m : Int} (hm : 1 ≤ m) (h : ¬ x % m = 0) : (-x) / m = -1 - x / m := by
  have e := Int.mul_ediv_add_emod x m
  have r0 := Int.emod_nonneg x (show m ≠ 0 by omega)
  have r1 := Int.emod_lt_of_pos x (show 0 < m by omega)
  have k : -x = (m - x % m) + m * (-1 - x / m) := by rw [Int.mul_sub]; omega
  rw [k, Int.add_mul_ediv_left _ _ (show m ≠ 0 by omega), Int.ediv_eq_zero_of_lt (by omega) (by omega)]
  omega
theorem not_mult {A n j : Nat} (hg : Nat.Coprime n A) (h0 : 0 < j) (h1 : j < n) : ¬ ((A : Int) * (j : Int)) % (n : Int) = 0 := by
  intro h
  have d : (n : Int) ∣ ((A * j : Nat) : Int) := Int.dvd_of_emod_eq_zero (by simpa using h)
  have d2 : n ∣ A * j := Int.natCast_dvd_natCast.1 d
  have d3 : n ∣ j := hg.dvd_of_dvd_mul_left d2
  have := Nat.le_of_dvd h0 d3
  omega
/-- The multiples of one number over another one, rounded down, gone through backwards. -/
theorem mirrored (A n k : Nat) (hn : n = k + 1) (hg : Nat.Coprime n A) (j : Nat) (hj : j ≤ k) : floorS j (-(A : Int)) ((A : Int) * k) n = j * ((A : Int) - 1) - floorS j A A n := by
  induction j with
  | zero => simp [floorS]
  | succ j ih =>
    simp only [floorS]
    rw [ih (by omega)]
    have hx : ¬ ((A : Int) * ((j + 1 : Nat) : Int)) % (n : Int) = 0 := not_mult hg (by omega) (by omega)
    have e1 : -(A : Int) * (j : Int) + (A : Int) * (k : Int) = -((A : Int) * ((j + 1 : Nat) : Int)) + (n : Int) * (A : Int) := by
      rw [show ((j + 1 : Nat) : Int) = (j : Int) + 1 by omega, show (n : Int) = (k : Int) + 1 by omega, Int.mul_add, Int.add_mul, Int.neg_mul, Int.mul_comm (k : Int)]
      omega
    have e2 : (A : Int) * (j : Int) + (A : Int) = (A : Int) * ((j + 1 : Nat) : Int) := by
      rw [show ((j + 1 : Nat) : Int) = (j : Int) + 1 by omega, Int.mul_add]; omega
    rw [e1, e2, Int.add_mul_ediv_left _ _ (show (n : Int) ≠ 0 by omega), neg_div_not (by omega) hx, show ((j + 1 : Nat) : Int) = (j : Int) + 1 by omega, Int.add_mul]
    omega
/-- Of two numbers without a common divisor. -/
theorem reciprocal (A n : Nat) (hn : 1 ≤ n) (hg : Nat.Coprime n A) : 2 * floorS n A 0 n = ((A : Int) - 1) * ((n : Int) - 1) := by
  obtain ⟨k, rfl⟩ : ∃ k, n = k + 1 := ⟨n - 1, by omega⟩
  have f := floor_front k A 0 ((k + 1 : Nat) : Int)
  rw [Int.zero_ediv, Int.zero_add, Int.zero_add] at f
  have t := floor_turn k A A ((k + 1 : Nat) : Int)
  rw [show (A : Int) + (A : Int) * ((k : Int) - 1) = (A : Int) * k by rw [Int.mul_sub]; omega, mirrored A (k + 1) k rfl hg k (by omega)] at t
  rw [f, show ((k + 1 : Nat) : Int) - 1 = k by omega, Int.mul_comm ((A : Int) - 1)]
  omega
set_option maxRecDepth 100000 in
set_option maxHeartbeats 4000000 in
theorem recip_walk (a m X Y G P H : Int) (Q : Nat) (w : World)
    (hX : max a 0 % 1099511627776 + 1 = X) (hY : max m 0 % 256 + 1 = Y) (hG : ((Int.gcd X Y : Nat) : Int) = G) (hX0 : 1 ≤ X) (hX1 : X ≤ 1099511627776) (hY0 : 1 ≤ Y) (hY1 : Y ≤ 256) (hG0 : ¬ G = 0)
    (hP : X.tdiv G = P) (hQ : Y.tdiv G = (Q : Int)) (hP0 : 1 ≤ P) (hP1 : P ≤ 1099511627776) (hQ0 : 1 ≤ Q) (hQ1 : Q ≤ 256) (hf : floorS Q P 0 Q = H) (hH : ((P - 1) * ((Q : Int) - 1)).tdiv 2 = H) :
    Calls Try.prog 9 #[.int .i64 a, .int .i64 m] w (Ret w (.bool true)) := by
  have WK := Lib.hid (fun W => wakes6_any W)
  have p0 : 0 ≤ (P - 1) * ((Q : Int) - 1) := Int.mul_nonneg (by omega) (by omega)
  have p1 : (P - 1) * ((Q : Int) - 1) ≤ 1099511627776 * 256 := Int.mul_le_mul (by omega) (by omega) (by omega) (by omega)
  have h0 : 0 ≤ H ∧ H ≤ 1099511627776 * 256 := by rw [← hH, Int.tdiv_eq_ediv_of_nonneg p0]; omega
  have LP := Lib.hid (fun W => low_any P (by unfold I64; omega) W)
  have LZ := fun W => low_any 0 (by unfold I64; omega) W
  have LH := Lib.hid (fun W => low_any H (by unfold I64; omega) W)
  have AS := fun W => asks_any Q P 0 Q hQ1 ((termB_iff _).2 (by omega)) ((termB_iff _).2 (by omega)) (by omega) (by omega) W
  rw [hf] at AS
  replace AS := Lib.hid AS
  replace LZ := Lib.hid LZ
  have e1 : IntKind.i64.wrap (max a 0 % 1099511627776 + 1) = X := by rw [hX, IntKind.wrap_i64]; omega
  have e2 : IntKind.i64.wrap (max m 0 % 256 + 1) = Y := by rw [hY, IntKind.wrap_i64]; omega
  have e3 : IntKind.i64.wrap (X.tdiv G) = P := by rw [hP, IntKind.wrap_i64]; omega
  have e4 : IntKind.i64.wrap (Y.tdiv G) = (Q : Int) := by rw [hQ, IntKind.wrap_i64]; omega
  have e5 : IntKind.i64.wrap (P - 1) = P - 1 := by rw [IntKind.wrap_i64]; omega
  have e6 : IntKind.i64.wrap ((Q : Int) - 1) = (Q : Int) - 1 := by rw [IntKind.wrap_i64]; omega
  have e7 : IntKind.i64.wrap ((P - 1) * ((Q : Int) - 1)) = (P - 1) * ((Q : Int) - 1) := by rw [IntKind.wrap_i64]; omega
  have e8 : IntKind.i64.wrap (((P - 1) * ((Q : Int) - 1)).tdiv 2) = H := by rw [hH, IntKind.wrap_i64]; omega
  have HG := Lib.hid (show ((Int.gcd X Y : Nat) : Int) = G ∧ 1 ≤ X ∧ X ≤ 1099511627776 ∧ 1 ≤ Y ∧ Y ≤ 256 from ⟨hG, hX0, hX1, hY0, hY1⟩)
  clear hX hY hG hX0 hX1 hY0 hY1 hP hQ hP0 hP1 hQ0 hQ1 hf hH p0 p1 h0
  generalize rhi H = H0 at *
  generalize rlo H = H1 at *
  generalize rhi P = P0 at *
  generalize rlo P = P1 at *
  generalize rhi 0 = Z0 at *
  generalize rlo 0 = Z1 at *
  go_enter Try.func9, Try.ntmps9
  go_wp2_with fail
  refine (WK.out _).mono ?_
  rintro e w1 ⟨rfl, hb⟩
  have hS : Keeps w [] w1 := ⟨hb, trivial⟩
  clear hb
  go_wp2_with fail
  go_loopw [6, 7] (fun s6 s7 wr => ∃ p q : Int, s6 = .int .i64 p ∧ s7 = .int .i64 q ∧ Hid (0 ≤ p ∧ p ≤ 1099511627776 ∧ 0 ≤ q ∧ q ≤ 1099511627776 ∧ ((Int.gcd p q : Nat) : Int) = G) ∧ Keeps w [] wr) (fun _ s7 _ => (intOf s7).toNat)
  case atStart =>
    obtain ⟨g1, g2, g3, g4, g5⟩ := HG.out
    exact ⟨_, _, rfl, rfl, Lib.hid ⟨by omega, by omega, by omega, by omega, g1⟩, hS⟩
  case round =>
    obtain ⟨p, q, rfl, rfl, HD, hHeld⟩ := hrel
    by_cases c : 0 < q
    · have c0 : ¬ q = 0 := by omega
      obtain ⟨g1, g2, g3, g4, g5⟩ := HD.out
      obtain ⟨t1, t2, t3⟩ := tmod_gcd g1 c
      have HN := Lib.hid (show 0 ≤ q ∧ q ≤ 1099511627776 ∧ 0 ≤ p.tmod q ∧ p.tmod q ≤ 1099511627776 ∧ ((Int.gcd q (p.tmod q) : Nat) : Int) = G ∧ p.tmod q < q from ⟨by omega, by omega, t2, by omega, by rw [t1]; exact g5, t3⟩)
      clear g1 g2 g3 g4 g5 t1 t2 t3 HD
      generalize hr : p.tmod q = r at *
      go_wp2_with fail
      refine region_keeps (w0 := w) (L := []) (by kernel_rfl) hHeld (fun hHeld0 => ?_)
      refine wpAnyH_take (i := 0) (oi := ⟨some 24, _, _, _, _, _⟩) (v := ?_) rfl (by kernel_rfl) (by kernel_rfl) (by kernel_rfl) (fun _ _ _ h => h) (Or.inl ⟨by rfl, ?_⟩) (by assumption) ?_
      rotate_left
      · intro wq hSw; go_simp; (try with_reducible rfl)
      try simp only [Act.put, List.setIfInBounds_toArray, List.set_cons_zero, List.set_cons_succ]
      refine wpAnyH_take (i := 1) (oi := ⟨some 25, _, _, _, _, _⟩) (v := ?_) rfl (by kernel_rfl) (by kernel_rfl) (by kernel_rfl) (fun _ _ _ h => h) (Or.inl ⟨by rfl, ?_⟩) (by assumption) ?_
      rotate_left
      · intro wq hSw; go_simp; (try with_reducible rfl)
      try simp only [Act.put, List.setIfInBounds_toArray, List.set_cons_zero, List.set_cons_succ]
      refine wpAnyH_take (i := 2) (oi := ⟨some 26, _, _, _, _, _⟩) (v := ?_) rfl (by kernel_rfl) (by kernel_rfl) (by kernel_rfl) (fun _ _ _ h => h) (Or.inl ⟨by rfl, ?_⟩) (by assumption) ?_
      rotate_left
      · intro wq hSw; go_simp; (try with_reducible rfl)
      try simp only [Act.put, List.setIfInBounds_toArray, List.set_cons_zero, List.set_cons_succ]
      refine wpAnyH_take (i := 3) (oi := ⟨some 27, _, _, _, _, _⟩) (v := ?_) rfl (by kernel_rfl) (by kernel_rfl) (by kernel_rfl) (fun _ _ _ h => h) (Or.inl ⟨by rfl, ?_⟩) (by assumption) ?_
      rotate_left
      · intro wq hSw; go_simp; (try with_reducible rfl)
      try simp only [Act.put, List.setIfInBounds_toArray, List.set_cons_zero, List.set_cons_succ]
      refine wpAnyH_take (i := 4) (oi := ⟨some 6, _, _, _, _, _⟩) (v := ?_) rfl (by kernel_rfl) (by kernel_rfl) (by kernel_rfl) (fun _ _ _ h => h) (Or.inl ⟨by rfl, ?_⟩) (by assumption) ?_
      rotate_left
      · intro wq hSw; go_simp; (try with_reducible rfl)
      try simp only [Act.put, List.setIfInBounds_toArray, List.set_cons_zero, List.set_cons_succ]
      refine wpAnyH_take (i := 5) (oi := ⟨some 7, _, _, _, _, _⟩) (v := ?_) rfl (by kernel_rfl) (by kernel_rfl) (by kernel_rfl) (fun _ _ _ h => h) (Or.inl ⟨by rfl, ?_⟩) (by assumption) ?_
      rotate_left
      · intro wq hSw; go_simp; (try with_reducible rfl)
      try simp only [Act.put, List.setIfInBounds_toArray, List.set_cons_zero, List.set_cons_succ]
      refine wpAnyH_done (by kernel_rfl) ?_ _
      have hHeld := hHeld0
      all_goals
        go_wp2_with fail
        go_roundw
        case rel =>
          obtain ⟨g1, g2, g3, g4, g5, g6⟩ := HN.out
          exact ⟨_, _, rfl, rfl, Lib.hid ⟨g1, g2, g3, g4, g5⟩, hHeld⟩
        case measure =>
          obtain ⟨g1, g2, g3, g4, g5, g6⟩ := HN.out
          simp [intOf]; omega
    · obtain ⟨g1, g2, g3, g4, g5⟩ := HD.out
      obtain rfl : q = 0 := by omega
      rw [gcd_nought g1] at g5
      subst g5
      clear g1 g2 g3 g4 HD c hS
      go_wp2_with fail
      refine region_keeps (w0 := w) (L := []) (by kernel_rfl) hHeld (fun hHeld0 => ?_)
      refine wpAnyH_take (i := 0) (oi := ⟨some 28, _, _, _, _, _⟩) (v := ?_) rfl (by kernel_rfl) (by kernel_rfl) (by kernel_rfl) (fun _ _ _ h => h) (Or.inl ⟨by rfl, ?_⟩) (by assumption) ?_
      rotate_left
      · intro wq hSw; go_simp; (try with_reducible rfl)
      try simp only [Act.put, List.setIfInBounds_toArray, List.set_cons_zero, List.set_cons_succ]
      refine wpAnyH_take (i := 1) (oi := ⟨some 29, _, _, _, _, _⟩) (v := ?_) rfl (by kernel_rfl) (by kernel_rfl) (by kernel_rfl) (fun _ _ _ h => h) (Or.inl ⟨by rfl, ?_⟩) (by assumption) ?_
      rotate_left
      · intro wq hSw; go_simp; (try with_reducible rfl)
      try simp only [Act.put, List.setIfInBounds_toArray, List.set_cons_zero, List.set_cons_succ]
      refine wpAnyH_take (i := 2) (oi := ⟨some 30, _, _, _, _, _⟩) (v := ?_) rfl (by kernel_rfl) (by kernel_rfl) (by kernel_rfl) (fun _ _ _ h => h) (Or.inl ⟨by rfl, ?_⟩) (by assumption) ?_
      rotate_left
      · intro wq hSw; go_simp; (try with_reducible rfl)
      try simp only [Act.put, List.setIfInBounds_toArray, List.set_cons_zero, List.set_cons_succ]
      refine wpAnyH_take (i := 3) (oi := ⟨some 31, _, _, _, _, _⟩) (v := ?_) rfl (by kernel_rfl) (by kernel_rfl) (by kernel_rfl) (fun _ _ _ h => h) (Or.inl ⟨by rfl, ?_⟩) (by assumption) ?_
      rotate_left
      · intro wq hSw; go_simp; (try with_reducible rfl)
      try simp only [Act.put, List.setIfInBounds_toArray, List.set_cons_zero, List.set_cons_succ]
      refine wpAnyH_take (i := 4) (oi := ⟨some 32, _, _, _, _, _⟩) (v := ?_) rfl (by kernel_rfl) (by kernel_rfl) (by kernel_rfl) (fun _ _ _ h => h) (Or.inl ⟨by rfl, ?_⟩) (by assumption) ?_
      rotate_left
      · intro wq hSw; go_simp; (try with_reducible rfl)
      try simp only [Act.put, List.setIfInBounds_toArray, List.set_cons_zero, List.set_cons_succ]
      refine wpAnyH_take (i := 5) (oi := ⟨some 33, _, _, _, _, _⟩) (v := ?_) rfl (by kernel_rfl) (by kernel_rfl) (by kernel_rfl) (fun _ _ _ h => h) (Or.inl ⟨by rfl, ?_⟩) (by assumption) ?_
      rotate_left
      · intro wq hSw; go_simp; (try with_reducible rfl)
      try simp only [Act.put, List.setIfInBounds_toArray, List.set_cons_zero, List.set_cons_succ]
      refine wpAnyH_take (i := 6) (oi := ⟨some 0, _, _, _, _, _⟩) (v := ?_) rfl (by kernel_rfl) (by kernel_rfl) (by kernel_rfl) (fun _ _ _ h => h) (Or.inl ⟨by rfl, ?_⟩) (by assumption) ?_
      rotate_left
      · intro wq hSw; go_simp; (try with_reducible rfl)
      try simp only [Act.put, List.setIfInBounds_toArray, List.set_cons_zero]
      refine wpAnyH_take (i := 7) (oi := ⟨some 5, _, _, _, _, _⟩) (v := ?_) rfl (by kernel_rfl) (by kernel_rfl) (by kernel_rfl) (fun _ _ _ h => h) (Or.inl ⟨by rfl, ?_⟩) (by assumption) ?_
      rotate_left
      · intro wq hSw; go_simp; (try with_reducible rfl)
      try simp only [Act.put, List.setIfInBounds_toArray, List.set_cons_zero, List.set_cons_succ]
      refine wpAnyH_done (by kernel_rfl) ?_ _
      have hHeld := hHeld0
      all_goals
        go_wp2_with fail
        refine (LP.out _).mono ?_
        rintro e w2 ⟨rfl, hb⟩
        replace hHeld := hHeld.next hb
        clear hb
        go_wp2_with fail
        refine (LZ.out _).mono ?_
        rintro e w3 ⟨rfl, hb⟩
        replace hHeld := hHeld.next hb
        clear hb
        go_wp2_with fail
        refine (AS.out _).mono ?_
        rintro e w4 ⟨rfl, hb⟩
        replace hHeld := hHeld.next hb
        clear hb
        go_wp2_with fail
        refine region_keeps (w0 := w) (L := [(w4.heap.size, 0, .int .i64 H0), (w4.heap.size, 1, .int .u64 H1)]) (by kernel_rfl) (newK2 (hHeld.alloc _)) (fun hHeld0 => ?_)
        refine wpAnyH_take (i := 0) (oi := ⟨some 44, _, _, _, _, _⟩) (v := ?_) rfl (by kernel_rfl) (by kernel_rfl) (by kernel_rfl) (fun _ _ _ h => h) (Or.inl ⟨by rfl, ?_⟩) (by assumption) ?_
        rotate_left
        · intro wq hSw; go_simp; (try with_reducible rfl)
        try simp only [Act.put, List.setIfInBounds_toArray, List.set_cons_zero, List.set_cons_succ]
        refine wpAnyH_take (i := 1) (oi := ⟨some 45, _, _, _, _, _⟩) (v := ?_) rfl (by kernel_rfl) (by kernel_rfl) (by kernel_rfl) (fun _ _ _ h => h) (Or.inl ⟨by rfl, ?_⟩) (by assumption) ?_
        rotate_left
        · intro wq hSw; go_simp; (try with_reducible rfl)
        try simp only [Act.put, List.setIfInBounds_toArray, List.set_cons_zero, List.set_cons_succ]
        refine wpAnyH_take (i := 2) (oi := ⟨some 46, _, _, _, _, _⟩) (v := ?_) rfl (by kernel_rfl) (by kernel_rfl) (by kernel_rfl) (fun _ _ _ h => h) (Or.inl ⟨by rfl, ?_⟩) (by assumption) ?_
        rotate_left
        · intro wq hSw; obtain ⟨⟨qz0, qc0, qf0⟩, ⟨qz1, qc1, qf1⟩, _⟩ := hSw.2; go_simp; (try with_reducible rfl)
        try simp only [Act.put, List.setIfInBounds_toArray, List.set_cons_zero, List.set_cons_succ]
        refine wpAnyH_take (i := 3) (oi := ⟨some 47, _, _, _, _, _⟩) (v := ?_) rfl (by kernel_rfl) (by kernel_rfl) (by kernel_rfl) (fun _ _ _ h => h) (Or.inl ⟨by rfl, ?_⟩) (by assumption) ?_
        rotate_left
        · intro wq hSw; go_simp; (try with_reducible rfl)
        try simp only [Act.put, List.setIfInBounds_toArray, List.set_cons_zero, List.set_cons_succ]
        refine wpAnyH_take (i := 4) (oi := ⟨some 48, _, _, _, _, _⟩) (v := ?_) rfl (by kernel_rfl) (by kernel_rfl) (by kernel_rfl) (fun _ _ _ h => h) (Or.inl ⟨by rfl, ?_⟩) (by assumption) ?_
        rotate_left
        · intro wq hSw; go_simp; (try with_reducible rfl)
        try simp only [Act.put, List.setIfInBounds_toArray, List.set_cons_zero, List.set_cons_succ]
        refine wpAnyH_take (i := 5) (oi := ⟨some 49, _, _, _, _, _⟩) (v := ?_) rfl (by kernel_rfl) (by kernel_rfl) (by kernel_rfl) (fun _ _ _ h => h) (Or.inl ⟨by rfl, ?_⟩) (by assumption) ?_
        rotate_left
        · intro wq hSw; go_simp; (try with_reducible rfl)
        try simp only [Act.put, List.setIfInBounds_toArray, List.set_cons_zero, List.set_cons_succ]
        refine wpAnyH_take (i := 6) (oi := ⟨some 50, _, _, _, _, _⟩) (v := ?_) rfl (by kernel_rfl) (by kernel_rfl) (by kernel_rfl) (fun _ _ _ h => h) (Or.inl ⟨by rfl, ?_⟩) (by assumption) ?_
        rotate_left
        · intro wq hSw; go_simp; (try with_reducible rfl)
        try simp only [Act.put, List.setIfInBounds_toArray, List.set_cons_zero, List.set_cons_succ]
        refine wpAnyH_take (i := 7) (oi := ⟨some 51, _, _, _, _, _⟩) (v := ?_) rfl (by kernel_rfl) (by kernel_rfl) (by kernel_rfl) (fun _ _ _ h => h) (Or.inl ⟨by rfl, ?_⟩) (by assumption) ?_
        rotate_left
        · intro wq hSw; go_simp; (try with_reducible rfl)
        try simp only [Act.put, List.setIfInBounds_toArray, List.set_cons_zero, List.set_cons_succ]
        refine wpAnyH_take (i := 8) (oi := ⟨some 52, _, _, _, _, _⟩) (v := ?_) rfl (by kernel_rfl) (by kernel_rfl) (by kernel_rfl) (fun _ _ _ h => h) (Or.inl ⟨by rfl, ?_⟩) (by assumption) ?_
        rotate_left
        · intro wq hSw; go_simp; (try with_reducible rfl)
        try simp only [Act.put, List.setIfInBounds_toArray, List.set_cons_zero, List.set_cons_succ]
        refine wpAnyH_ready (rs := [9]) (by kernel_rfl) (by simp) ?_
        refine AllReadyH.cons (o := ⟨some 53, _, _, _, _, _⟩) rfl (fun K hK => ?_) AllReadyH.nil
        go_simp
        (with_reducible refine Calls.mono (LH.out _) ?_); rintro e w5 ⟨rfl, hb⟩
        refine hK.out _ _ (hHeld0.next hb) (fun hHeld1 => ?_)
        clear hK K
        try clear hb
        try simp only [Act.put, List.setIfInBounds_toArray, List.set_cons_zero, List.set_cons_succ]
        refine wpAnyH_take (i := 10) (oi := ⟨some 54, _, _, _, _, _⟩) (v := ?_) rfl (by kernel_rfl) (by kernel_rfl) (by kernel_rfl) (fun _ _ _ h => h) (Or.inl ⟨by rfl, ?_⟩) (by assumption) ?_
        rotate_left
        · intro wq hSw; go_simp; (try with_reducible rfl)
        try simp only [Act.put, List.setIfInBounds_toArray, List.set_cons_zero, List.set_cons_succ]
        refine wpAnyH_take (i := 11) (oi := ⟨some 55, _, _, _, _, _⟩) (v := ?_) rfl (by kernel_rfl) (by kernel_rfl) (by kernel_rfl) (fun _ _ _ h => h) (Or.inl ⟨by rfl, ?_⟩) (by assumption) ?_
        rotate_left
        · intro wq hSw; go_simp; (try with_reducible rfl)
        try simp only [Act.put, List.setIfInBounds_toArray, List.set_cons_zero, List.set_cons_succ]
        refine wpAnyH_take (i := 12) (oi := ⟨some 4, _, _, _, _, _⟩) (v := ?_) rfl (by kernel_rfl) (by kernel_rfl) (by kernel_rfl) (fun _ _ _ h => h) (Or.inl ⟨by rfl, ?_⟩) (by assumption) ?_
        rotate_left
        · intro wq hSw; go_simp; (try with_reducible rfl)
        try simp only [Act.put, List.setIfInBounds_toArray, List.set_cons_zero, List.set_cons_succ]
        refine wpAnyH_done (by kernel_rfl) ?_ _
        have hHeld := hHeld1
        obtain ⟨⟨kz0, kc0, kf0⟩, ⟨kz1, kc1, kf1⟩, _⟩ := hHeld.2
        all_goals
          go_wp2_with fail
          go_ret
          exact ⟨rfl, hHeld.1⟩
theorem recip_any (a m : Int) (w : World) : Calls Try.prog 9 #[.int .i64 a, .int .i64 m] w (Ret w (.bool true)) := by
  have hX0 : 1 ≤ max a 0 % 1099511627776 + 1 := by omega
  have hX1 : max a 0 % 1099511627776 + 1 ≤ 1099511627776 := by omega
  have hY0 : 1 ≤ max m 0 % 256 + 1 := by omega
  have hY1 : max m 0 % 256 + 1 ≤ 256 := by omega
  obtain ⟨X, hX⟩ : ∃ X, max a 0 % 1099511627776 + 1 = X := ⟨_, rfl⟩
  obtain ⟨Y, hY⟩ : ∃ Y, max m 0 % 256 + 1 = Y := ⟨_, rfl⟩
  rw [hX] at hX0 hX1
  rw [hY] at hY0 hY1
  obtain ⟨x, rfl⟩ := Int.eq_ofNat_of_zero_le (show 0 ≤ X by omega)
  obtain ⟨y, rfl⟩ := Int.eq_ofNat_of_zero_le (show 0 ≤ Y by omega)
  have gd : Int.gcd (x : Int) (y : Int) = Nat.gcd x y := rfl
  have g0 : 0 < Nat.gcd x y := Nat.gcd_pos_of_pos_left _ (by omega)
  have dx := Nat.gcd_dvd_left x y
  have dy := Nat.gcd_dvd_right x y
  have px : 0 < x / Nat.gcd x y := Nat.div_pos (Nat.le_of_dvd (by omega) dx) g0
  have py : 0 < y / Nat.gcd x y := Nat.div_pos (Nat.le_of_dvd (by omega) dy) g0
  have lx := Nat.div_le_self x (Nat.gcd x y)
  have ly := Nat.div_le_self y (Nat.gcd x y)
  have cp : Nat.Coprime (y / Nat.gcd x y) (x / Nat.gcd x y) := (Nat.coprime_div_gcd_div_gcd g0).symm
  have rc := reciprocal (x / Nat.gcd x y) (y / Nat.gcd x y) py cp
  refine recip_walk a m x y _ ((x / Nat.gcd x y : Nat) : Int) (floorS (y / Nat.gcd x y) ((x / Nat.gcd x y : Nat) : Int) 0 ((y / Nat.gcd x y : Nat) : Int)) (y / Nat.gcd x y) w hX hY rfl hX0 hX1 hY0 hY1 (by rw [gd]; omega) ?_ ?_ (by omega) (by omega) py (by omega) rfl ?_
  · rw [gd, Int.tdiv_eq_ediv_of_nonneg (by omega)]; exact (Int.natCast_ediv ..).symm
  · rw [gd, Int.tdiv_eq_ediv_of_nonneg (by omega)]; exact (Int.natCast_ediv ..).symm
  · rw [← rc]; exact Int.mul_tdiv_cancel_left _ (by omega)
end Go.Proofs.Ytnacdofidmgfmaa
