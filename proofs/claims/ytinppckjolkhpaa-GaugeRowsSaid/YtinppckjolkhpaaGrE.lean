/-
  Layer 3: the document's own answers: Nearest, Within, Fixed; the law GaugeFixed, its walk. Conditions: words are of 64 bits.
-/
import Derived.Test.YtinppckjolkhpaaGrD
namespace Go.Proofs.Ytinppckjolkhpaa
open Go.RowKit Go.Shelf

/-- The whole number nearest to z over 2^n, of two the even one: below 0 as above it. -/
def nearZ (z : Int) (n : Nat) : Int := if z < 0 then -(cutN z.natAbs n : Int) else cutN z.natAbs n
theorem cutN_def (m n : Nat) : cutN m n = if 2 ^ n < 2 * (m % 2 ^ n) ∨ (2 * (m % 2 ^ n) = 2 ^ n ∧ m / 2 ^ n % 2 = 1) then m / 2 ^ n + 1 else m / 2 ^ n := by unfold cutN; rfl
theorem near_eq (z : Int) (n : Nat) : nearZ z n = if ((2 ^ n : Nat) : Int) < z % ((2 ^ n : Nat) : Int) + z % ((2 ^ n : Nat) : Int) ∨ (((2 ^ n : Nat) : Int) = z % ((2 ^ n : Nat) : Int) + z % ((2 ^ n : Nat) : Int) ∧ decide ((z / ((2 ^ n : Nat) : Int)).natAbs % 2 = 0) = false)
    then z / ((2 ^ n : Nat) : Int) + 1 else z / ((2 ^ n : Nat) : Int) := by
  have hP : 0 < 2 ^ n := Nat.two_pow_pos n
  unfold nearZ
  rw [cutN_def]
  generalize 2 ^ n = m at *
  have hr := Nat.mod_lt z.natAbs hP
  by_cases hz : z < 0
  · rw [if_pos hz]
    by_cases h0 : z.natAbs % m = 0
    · obtain ⟨e1, e2, e3⟩ := floor_plain hP (x := z) (Or.inr h0)
      have e4 : z / (m : Int) = -((z.natAbs / m : Nat) : Int) := by
        have := e2
        generalize z.natAbs / m = a at *
        generalize z / (m : Int) = b at *
        by_cases ha : a = 0
        · omega
        · have : b < 0 := e2.2 ⟨hz, ha⟩; omega
      rw [e3, h0, e4, if_neg (by omega), if_neg (by omega)]
    · obtain ⟨e1, e2⟩ := floor_up hP hz h0
      rw [e1, e2, neg_abs]
      simp only [decide_eq_false_iff_not]
      generalize z.natAbs / m = a at *
      generalize z.natAbs % m = r at *
      clear e1 e2
      split <;> split <;> omega
  · rw [if_neg hz]
    obtain ⟨e1, e2, e3⟩ := floor_plain hP (x := z) (Or.inl (by omega))
    have e4 : z / (m : Int) = ((z.natAbs / m : Nat) : Int) := by
      generalize z.natAbs / m = a at *
      generalize z / (m : Int) = b at *
      have : ¬ b < 0 := fun h => hz (e2.1 h).1
      omega
    rw [e3, e4, Int.natAbs_natCast]
    simp only [decide_eq_false_iff_not]
    generalize z.natAbs / m = a at *
    generalize z.natAbs % m = r at *
    split <;> split <;> omega
theorem nearest_any (z : Int) (N : Nat) (hN : N ≤ 1300) (hl : (sizeL z.natAbs).length ≤ 3900) (v : Value) (w : World) (h : NumZ w v z) : Calls Try.prog 13 #[v, .int .i64 N] w (RetZ w (nearZ z N)) := by
  obtain ⟨A, n, c, rfl, hn⟩ := h.parts
  have hP : 0 < 2 ^ N := Nat.two_pow_pos N
  have lp := size_pow N
  rw [near_eq]
  have lq : (sizeL (z / ((2 ^ N : Nat) : Int)).natAbs).length ≤ 3950 := by
    have a1 : (z / ((2 ^ N : Nat) : Int)).natAbs ≤ z.natAbs + 1 := by
      by_cases g : 0 ≤ z ∨ z.natAbs % 2 ^ N = 0
      · rw [(floor_plain hP g).1]; have := Nat.div_le_self z.natAbs (2 ^ N); omega
      · rw [(floor_up hP (by omega) (fun e => g (Or.inr e))).1, neg_abs]; have := Nat.div_le_self z.natAbs (2 ^ N); omega
    have a2 := size_mono a1
    have a3 := size_add z.natAbs 1
    have a4 := sizeL_length 1 1 (by decide)
    omega
  have r0 : 0 ≤ z % ((2 ^ N : Nat) : Int) := Int.emod_nonneg _ (by omega)
  have r1 : z % ((2 ^ N : Nat) : Int) < ((2 ^ N : Nat) : Int) := Int.emod_lt_of_pos _ (by omega)
  have lr : (sizeL (z % ((2 ^ N : Nat) : Int)).natAbs).length ≤ 1301 := by have := size_mono (show (z % ((2 ^ N : Nat) : Int)).natAbs ≤ 2 ^ N by omega); omega
  have lt : (sizeL (z % ((2 ^ N : Nat) : Int) + z % ((2 ^ N : Nat) : Int)).natAbs).length ≤ 1310 := by
    have := size_add (z % ((2 ^ N : Nat) : Int)).natAbs (z % ((2 ^ N : Nat) : Int)).natAbs
    rw [show (z % ((2 ^ N : Nat) : Int) + z % ((2 ^ N : Nat) : Int)).natAbs = (z % ((2 ^ N : Nat) : Int)).natAbs + (z % ((2 ^ N : Nat) : Int)).natAbs by omega]
    omega
  have l1 : (sizeL (1 : Int).natAbs).length ≤ 1 := sizeL_length 1 1 (by decide)
  refine near_walk2 (decide (z < 0)) A n c (2 ^ N) N (z / ((2 ^ N : Nat) : Int)) (z % ((2 ^ N : Nat) : Int)) _ _ rfl _ rfl w (fun W => pow_any N (by omega) W)
    (fun v W k => addZ_any _ _ (by omega) (by omega) v v W k k) (fun W => intZ_any 1 (by decide) (by decide) W) (fun v v' W k k' => addZ_any _ 1 (by omega) (by omega) v v' W k k')
    (fun v v' W k k' => lessZ_any _ _ (by rw [Int.natAbs_natCast]; omega) (by omega) v v' W k k') (fun v v' W k k' => same_any _ _ (by rw [Int.natAbs_natCast]; omega) (by omega) v v' W k k') rfl
    (fun v W L k hk => divZ_any z (2 ^ N) hP (by omega) (by omega) _ v W (h.below hk.1) k)

set_option maxRecDepth 100000 in
set_option maxHeartbeats 2000000 in
theorem within_walk (p : Bool) (A : Option Addr) (n c : Nat) (m x : Nat) (w : World) (hn : Num w (.slice A n c) x) (PW : ∀ W, Calls Try.prog 30 #[.int .i64 61] W (RetZ W (m : Int)))
    (LS : ∀ v v' W, NumZ W v (m : Int) → NumZ W v' (x : Int) → Calls Try.prog 32 #[v, v'] W (Ret W (.bool (decide ((m : Int) < (x : Int)))))) :
    Calls Try.prog 15 #[.agg #[.bool p, .slice A n c]] w (Ret w (.bool (!decide ((m : Int) < (x : Int))))) := by
  replace PW := Lib.hid PW
  have LS1 := Lib.hid (fun v W L (k : NumZ W v (m : Int)) (hk : Keeps w L W) => LS v (.agg #[.bool false, .slice A n c]) W k (numZ_nat (hn.below hk.1)))
  clear LS hn
  generalize decide ((m : Int) < (x : Int)) = r at *
  go_enter Try.func15, Try.ntmps15
  go_wp2_with fail
  refine region_keeps (w0 := w) (L := [(w.heap.size, 0, .bool p), (w.heap.size, 1, .slice A n c)]) (by kernel_rfl) (by first | exact hHeld | (refine ⟨by go_grown, ?_⟩; simp [Cells, go_sem]; done)) (fun hHeld0 => ?_)
  refine wpAnyH_take (i := 1) (oi := ⟨some 4, _, _, _, _, _⟩) (v := ?_) rfl (by kernel_rfl) (by kernel_rfl) (by kernel_rfl) (fun _ _ _ h => h) (Or.inl ⟨by rfl, ?_⟩) (by assumption) ?_
  rotate_left
  · intro wq hSw; go_simp; (try with_reducible rfl)
  try simp only [Act.put, List.setIfInBounds_toArray, List.set_cons_zero, List.set_cons_succ]
  refine wpAnyH_take (i := 2) (oi := ⟨some 5, _, _, _, _, _⟩) (v := ?_) rfl (by kernel_rfl) (by kernel_rfl) (by kernel_rfl) (fun _ _ _ h => h) (Or.inl ⟨by rfl, ?_⟩) (by assumption) ?_
  rotate_left
  · intro wq hSw; obtain ⟨⟨qz0, qc0, qf0⟩, ⟨qz1, qc1, qf1⟩, _⟩ := hSw.2; go_simp; (try with_reducible rfl)
  try simp only [Act.put, List.setIfInBounds_toArray, List.set_cons_zero, List.set_cons_succ]
  refine wpAnyH_take (i := 3) (oi := ⟨some 6, _, _, _, _, _⟩) (v := ?_) rfl (by kernel_rfl) (by kernel_rfl) (by kernel_rfl) (fun _ _ _ h => h) (Or.inl ⟨by rfl, ?_⟩) (by assumption) ?_
  rotate_left
  · intro wq hSw; go_simp; (try with_reducible rfl)
  try simp only [Act.put, List.setIfInBounds_toArray, List.set_cons_zero, List.set_cons_succ]
  refine wpAnyH_ready (rs := [0]) (by kernel_rfl) (by simp) ?_
  refine AllReadyH.cons (o := ⟨some 3, _, _, _, _, _⟩) rfl (fun K hK => ?_) AllReadyH.nil
  go_simp
  (first | ((with_reducible refine (PW.out _).mono ?_); rintro e w5 ⟨b5, A5, n5, c5, rfl, hb, hz5⟩) | ((with_reducible refine (LS1.out _ _ _ hz5 (by assumption)).mono ?_); rintro e w6 ⟨rfl, hb⟩))
  refine hK.out _ _ (hHeld0.next hb) (fun hHeld1 => ?_)
  clear hK K
  try clear hb
  try simp only [Act.put, List.setIfInBounds_toArray, List.set_cons_zero, List.set_cons_succ]
  refine wpAnyH_ready (rs := [4]) (by kernel_rfl) (by simp) ?_
  refine AllReadyH.cons (o := ⟨some 7, _, _, _, _, _⟩) rfl (fun K hK => ?_) AllReadyH.nil
  go_simp
  (first | ((with_reducible refine (PW.out _).mono ?_); rintro e w5 ⟨b5, A5, n5, c5, rfl, hb, hz5⟩) | ((with_reducible refine (LS1.out _ _ _ hz5 (by assumption)).mono ?_); rintro e w6 ⟨rfl, hb⟩))
  refine hK.out _ _ (hHeld1.next hb) (fun hHeld2 => ?_)
  clear hK K
  try clear hb
  try simp only [Act.put, List.setIfInBounds_toArray, List.set_cons_zero, List.set_cons_succ]
  refine wpAnyH_take (i := 5) (oi := ⟨some 8, _, _, _, _, _⟩) (v := ?_) rfl (by kernel_rfl) (by kernel_rfl) (by kernel_rfl) (fun _ _ _ h => h) (Or.inl ⟨by rfl, ?_⟩) (by assumption) ?_
  rotate_left
  · intro wq hSw; go_simp; (try with_reducible rfl)
  try simp only [Act.put, List.setIfInBounds_toArray, List.set_cons_zero, List.set_cons_succ]
  refine wpAnyH_take (i := 6) (oi := ⟨some 2, _, _, _, _, _⟩) (v := ?_) rfl (by kernel_rfl) (by kernel_rfl) (by kernel_rfl) (fun _ _ _ h => h) (Or.inl ⟨by rfl, ?_⟩) (by assumption) ?_
  rotate_left
  · intro wq hSw; go_simp; (try with_reducible rfl)
  try simp only [Act.put, List.setIfInBounds_toArray, List.set_cons_zero, List.set_cons_succ]
  refine wpAnyH_done (by kernel_rfl) ?_ _
  have hHeld := hHeld2
  obtain ⟨⟨kz0, kc0, kf0⟩, ⟨kz1, kc1, kf1⟩, _⟩ := hHeld.2
  go_wp2_with fail
  go_ret
  exact ⟨rfl, hHeld.1⟩
theorem within_any (z : Int) (hl : (sizeL z.natAbs).length ≤ 3900) (v : Value) (w : World) (h : NumZ w v z) : Calls Try.prog 15 #[v] w (Ret w (.bool (decide (z.natAbs ≤ 2305843009213693952)))) := by
  obtain ⟨A, n, c, rfl, hn⟩ := h.parts
  have l61 := size_pow 61
  have key := within_walk (decide (z < 0)) A n c (2 ^ 61) z.natAbs w hn (fun W => pow_any 61 (by decide) W) (fun v v' W k k' => lessZ_any _ _ (by rw [Int.natAbs_natCast]; omega) (by rw [Int.natAbs_natCast]; omega) v v' W k k')
  have e : (!decide (((2 ^ 61 : Nat) : Int) < (z.natAbs : Int))) = decide (z.natAbs ≤ 2305843009213693952) := by
    rw [Bool.eq_iff_iff]; simp only [Bool.not_eq_true', decide_eq_false_iff_not, decide_eq_true_eq]; omega
  rw [e] at key
  exact key

theorem near_scaled (b : Nat) (s : Int) (hs : Scale s) (N : Nat) (hN : (1200 : Int) - s = N) : nearZ (scaled126 b) N = if below b then -(magF b s : Int) else magF b s := by
  obtain ⟨h1, h2⟩ := hs
  have e : (scaled126 b).natAbs = unit b * 2 ^ 126 := by
    unfold scaled126 exact
    split
    · rw [Int.neg_mul, Int.natAbs_neg, ← Int.natCast_mul, Int.natAbs_natCast]
    · rw [← Int.natCast_mul, Int.natAbs_natCast]
  have hm : cutN (unit b * 2 ^ 126) N = magF b s := by
    have en : N - 126 = (1074 - s).toNat := by omega
    unfold magF
    rw [cutN_down (by omega), en]
  have hp := Nat.two_pow_pos 126
  unfold nearZ
  rw [e, hm]
  by_cases u0 : unit b = 0
  · have m0 : magF b s = 0 := by unfold magF; rw [u0]; exact cutN_small (by have := Nat.two_pow_pos (1074 - s).toNat; omega)
    rw [m0]
    split <;> split <;> simp
  · have hlt : scaled126 b < 0 ↔ below b = true := by
      unfold scaled126 exact
      have hu : (0 : Int) < ((unit b : Nat) : Int) * ((2 ^ 126 : Nat) : Int) := Int.mul_pos (by omega) (by omega)
      generalize ((2 ^ 126 : Nat) : Int) = P at *
      cases below b
      · simp only [Bool.false_eq_true, if_false, iff_false]; omega
      · simp only [if_true, Int.neg_mul, iff_true]; omega
    simp only [hlt]
set_option maxRecDepth 100000 in
set_option maxHeartbeats 2000000 in
theorem rf_early (b : Nat) (s k : Int) (sc : Bool) (h : sc = false ∨ sc = true ∧ (k = 1 ∨ k = 2)) (SC : ∀ W, Calls Try.prog 5 #[.int .i64 s] W fun e w' => e = .returned (.bool sc) ∧ w' = W) (KB : ∀ W, Calls Try.prog 12 #[.int .u64 b] W fun e w' => e = .returned (.int .i64 k) ∧ w' = W) (w : World) :
    Calls Try.prog 7 #[.int .u64 b, .int .i64 s] w (Ret w (.tuple #[.int .i64 0, .int .i64 (if sc then (if k = 1 then 130 else 5) else 2)])) := by
  replace SC := Lib.hid SC
  replace KB := Lib.hid KB
  rcases h with rfl | ⟨rfl, rfl | rfl⟩
  · go_enter Try.func7, Try.ntmps7
    go_wp2_with fail
    refine (SC.out _).mono ?_
    rintro en w' ⟨rfl, hw'⟩; subst w'
    go_wp2_with fail
    go_ret2
    exact ⟨rfl, Below.refl _ _⟩
  · go_enter Try.func7, Try.ntmps7
    go_wp2_with fail
    refine (SC.out _).mono ?_
    rintro en w' ⟨rfl, hw'⟩; subst w'
    go_wp2_with fail
    refine (KB.out _).mono ?_
    rintro en w' ⟨rfl, hw'⟩; subst w'
    go_wp2_with fail
    go_ret2
    exact ⟨rfl, Below.refl _ _⟩
  · go_enter Try.func7, Try.ntmps7
    go_wp2_with fail
    refine (SC.out _).mono ?_
    rintro en w' ⟨rfl, hw'⟩; subst w'
    go_wp2_with fail
    refine (KB.out _).mono ?_
    rintro en w' ⟨rfl, hw'⟩; subst w'
    go_wp2_with fail
    refine (KB.out _).mono ?_
    rintro en w' ⟨rfl, hw'⟩; subst w'
    go_wp2_with fail
    go_ret2
    exact ⟨rfl, Below.refl _ _⟩
set_option maxRecDepth 100000 in
set_option maxHeartbeats 2000000 in
theorem rf_num (b : Nat) (s k x z v : Int) (vb ok : Bool) (h1 : k ≠ 1) (h2 : k ≠ 2) (hs1 : -40 ≤ s) (hs2 : s ≤ 40) (SC : ∀ W, Calls Try.prog 5 #[.int .i64 s] W fun e w' => e = .returned (.bool true) ∧ w' = W) (KB : ∀ W, Calls Try.prog 12 #[.int .u64 b] W fun e w' => e = .returned (.int .i64 k) ∧ w' = W)
    (PT : ∀ W, Calls Try.prog 14 #[.int .u64 b] W (RetZ W x)) (NR : ∀ u W p, p = 1200 - s → NumZ W u x → Calls Try.prog 13 #[u, .int .i64 p] W (RetZ W z))
    (WI : ∀ u W, NumZ W u z → Calls Try.prog 15 #[u] W (Ret W (.bool ok))) (VL : ∀ u W, NumZ W u z → Calls Try.prog 16 #[u] W (Ret W (.tuple #[.int .i64 v, .bool vb]))) (w : World) :
    Calls Try.prog 7 #[.int .u64 b, .int .i64 s] w (Ret w (.tuple #[.int .i64 (if ok then v else 0), .int .i64 (if ok then 0 else 5)])) := by
  replace SC := Lib.hid SC
  replace KB := Lib.hid KB
  replace PT := Lib.hid PT
  replace NR := Lib.hid NR
  replace WI := Lib.hid WI
  replace VL := Lib.hid VL
  have k1 : (k == 1) = false := by simpa using h1
  have k2 : (k == 2) = false := by simpa using h2
  clear h1 h2
  obtain ⟨r1, hr1⟩ : ∃ r1, (if ok then v else 0) = r1 := ⟨_, rfl⟩
  obtain ⟨r2, hr2⟩ : ∃ r2, (if ok then (0 : Int) else 5) = r2 := ⟨_, rfl⟩
  rw [hr1, hr2]
  replace hr1 := Lib.hid hr1
  replace hr2 := Lib.hid hr2
  go_enter Try.func7, Try.ntmps7
  go_wp2_with fail
  refine (SC.out _).mono ?_
  rintro en w' ⟨rfl, hw'⟩; subst w'
  go_wp2_with fail
  refine (KB.out _).mono ?_
  rintro en w' ⟨rfl, hw'⟩; subst w'
  go_wp2_with fail
  refine (KB.out _).mono ?_
  rintro en w' ⟨rfl, hw'⟩; subst w'
  go_wp2_with fail
  refine (PT.out _).mono ?_
  rintro en w1 ⟨b1, A1, n1, c1, rfl, hb1, hz1⟩
  replace hz1 := Lib.hid hz1
  replace hb1 := Lib.hid hb1
  go_wp2_with fail
  refine (NR.out _ _ _ (by omega) hz1.out).mono ?_
  rintro en w2 ⟨b2, A2, n2, c2, rfl, hb2, hz2⟩
  have HB := Lib.hid (below_thru hb1.out hb2)
  replace hz2 := Lib.hid (hz2.below (below_alloc w2 (.cells #[.bool b2, .slice A2 n2 c2] 43)))
  clear hb1 hb2 hz1
  go_wp2_with fail
  refine (WI.out _ _ hz2.out).mono ?_
  rintro en w3 ⟨rfl, hb3⟩
  cases ok
  · have HE := Lib.hid (below_thru (below_thru HB.out (below_alloc w2 _)) hb3)
    have x1 : (0 : Int) = r1 := hr1.out
    have x2 : (5 : Int) = r2 := hr2.out
    subst x1 x2
    clear hb3
    go_wp2_with fail
    go_ret2
    exact ⟨rfl, HE.out⟩
  · have x1 : v = r1 := hr1.out
    have x2 : (0 : Int) = r2 := hr2.out
    subst x1 x2
    have c0 : w3.cell? ⟨w2.heap.size, 0, none⟩ = some (.bool b2) := (hb3.cell (p := ⟨w2.heap.size, 0, none⟩) (by simp)).trans (by simp [go_sem])
    have c1' : w3.cell? ⟨w2.heap.size, 1, none⟩ = some (.slice A2 n2 c2) := (hb3.cell (p := ⟨w2.heap.size, 1, none⟩) (by simp)).trans (by simp [go_sem])
    have hz3 := Lib.hid (hz2.out.below hb3)
    have HE := Lib.hid (below_thru (below_thru HB.out (below_alloc w2 _)) hb3)
    clear hb3 hz2
    go_wp2_with fail
    refine (VL.out _ _ hz3.out).mono ?_
    rintro en w4 ⟨rfl, hb4⟩
    have HF := Lib.hid (below_thru HE.out hb4)
    clear hb4
    go_wp2_with fail
    go_ret2
    exact ⟨rfl, HF.out⟩
theorem cutN_le (m n : Nat) : cutN m n ≤ m + 1 := by
  have h := Nat.div_le_self m (2 ^ n)
  rw [cutN_def]
  split <;> omega
theorem near_abs (z : Int) (n : Nat) : (nearZ z n).natAbs = cutN z.natAbs n := by unfold nearZ; split <;> omega
theorem near_len (b N : Nat) : (sizeL (nearZ (scaled126 b) N).natAbs).length ≤ 2400 := by
  rw [near_abs]
  have a1 := size_mono (cutN_le (scaled126 b).natAbs N)
  have a2 := size_add (scaled126 b).natAbs 1
  have a3 := scaled_len b
  have a4 := sizeL_length 1 1 (by decide)
  omega
theorem refFixed_any (b : Nat) (hb : b < 18446744073709551616) (s : Int) (w : World) : Calls Try.prog 7 #[.int .u64 b, .int .i64 s] w (Ret w (.tuple #[.int .i64 (valF b s), .int .i64 (codeF b s)])) := by
  have SC := fun W => refScale_any s W
  have KB := fun W => refKind_any b hb W
  by_cases hs : Scale s
  · rw [decide_eq_true hs] at SC
    by_cases k1 : kindF b = 1
    · have e1 : codeF b s = 130 := by unfold codeF; rw [if_pos hs, if_pos k1]
      have e2 : valF b s = 0 := by unfold valF; rw [e1, if_neg (by decide)]
      have := rf_early b s _ true (Or.inr ⟨rfl, Or.inl k1⟩) SC KB w
      rw [if_pos rfl, if_pos k1] at this
      rw [e1, e2]
      exact this
    · by_cases k2 : kindF b = 2
      · have e1 : codeF b s = 5 := by unfold codeF; rw [if_pos hs, if_neg k1, if_pos k2]
        have e2 : valF b s = 0 := by unfold valF; rw [e1, if_neg (by decide)]
        have := rf_early b s _ true (Or.inr ⟨rfl, Or.inr k2⟩) SC KB w
        rw [if_pos rfl, if_neg k1] at this
        rw [e1, e2]
        exact this
      · obtain ⟨N, hN⟩ : ∃ N : Nat, (1200 : Int) - s = N := ⟨(1200 - s).toNat, by have := hs.2; omega⟩
        have hN2 : N ≤ 1300 := by have := hs.1; omega
        have hz := near_scaled b s hs N hN
        have la := scaled_len b
        have lz := near_len b N
        have key := rf_num b s _ (scaled126 b) (nearZ (scaled126 b) N) (valueV (nearZ (scaled126 b) N)) (valueB (nearZ (scaled126 b) N)) (decide ((nearZ (scaled126 b) N).natAbs ≤ 2305843009213693952)) k1 k2 hs.1 hs.2 SC KB
          (fun W => refParts_any b hb W) (fun u W p hp k => by rw [hp, hN]; exact nearest_any _ N hN2 (by omega) u W k) (fun u W k => within_any _ (by omega) u W k) (fun u W k => valueZ_any _ (by omega) u W k) w
        have em : (nearZ (scaled126 b) N).natAbs = magF b s := by rw [hz]; split <;> omega
        have ec : codeF b s = if 2305843009213693952 < magF b s then 5 else 0 := by unfold codeF; rw [if_pos hs, if_neg k1, if_neg k2]
        rw [em] at key
        by_cases g : magF b s ≤ 2305843009213693952
        · rw [decide_eq_true g, if_pos rfl, if_pos rfl] at key
          have e1 : codeF b s = 0 := by rw [ec, if_neg (by omega)]
          have e2 : valueV (nearZ (scaled126 b) N) = valF b s := by
            unfold valueV valF
            rw [if_pos e1, ← hz, if_pos (by omega)]
          rw [e1, ← e2]
          exact key
        · rw [decide_eq_false g, if_neg (by decide), if_neg (by decide)] at key
          have e1 : codeF b s = 5 := by rw [ec, if_pos (by omega)]
          have e2 : valF b s = 0 := by unfold valF; rw [e1, if_neg (by decide)]
          rw [e1, e2]
          exact key
  · rw [decide_eq_false hs] at SC
    obtain ⟨e1, e2⟩ := scale_no (b := b) hs
    rw [e1, e2]
    exact rf_early b s _ false (Or.inl rfl) SC KB w
end Go.Proofs.Ytinppckjolkhpaa
