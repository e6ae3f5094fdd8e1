/-
  Layer 3: the document's own answers: the float of a whole number. Conditions: those written at each fact.
-/
import Derived.Test.YtpldkccjhplipaaGrE
namespace Go.Proofs.Ytpldkccjhplipaa
open Go.RowKit Go.Shelf

theorem len_bit (x : Nat) (hx : x < 18446744073709551616) : (sizeL x).length = Lib.bitLen x := by
  have h1 := (bitLen_spec x hx).1
  have h2 := sizeL_length _ x h1
  have h3 := size_lt x
  have h4 : Lib.bitLen x ≤ (sizeL x).length := Lib.bitLen_le x _ (by have := bitLen_64 x hx; omega) h3
  omega
theorem numZ_open {W : World} {b : Bool} {A : Option Addr} {n c : Nat} {z : Int} (h : NumZ W (.agg #[.bool b, .slice A n c]) z) : b = decide (z < 0) ∧ n = (sizeL z.natAbs).length ∧ Num W (.slice A n c) z.natAbs := by
  obtain ⟨s0, e0, hn⟩ := h
  have hn' := hn
  obtain ⟨A0, c0, rfl, hc0, hcell⟩ := hn
  simp only [Value.agg.injEq, Array.mk.injEq, List.cons.injEq, Value.slice.injEq, Value.bool.injEq, and_true] at e0
  obtain ⟨rfl, rfl, rfl, rfl⟩ := e0
  exact ⟨rfl, rfl, hn'⟩
theorem ret2 {a b : Int} {x : Bool} (h : a = b) : Ending.returned (.tuple #[.int .u64 a, .bool x]) = .returned (.tuple #[.int .u64 b, .bool x]) := by rw [h]
/-- What the last steps make of the digits. -/
def tailW (m : Int) (S s : Int) (sb : Bool) : Int := (if m = 9007199254740992 then 0 else m - 4503599627370496) + ((if m = 9007199254740992 then S + 1 else S) - s + 1075) * 4503599627370496 + (if sb then 9223372036854775808 else 0)

set_option maxRecDepth 100000 in
set_option maxHeartbeats 4000000 in
theorem rfl_zero (s : Int) (w : World) (IN : ∀ W, Calls Try.prog 42 #[.int .i64 0] W (RetZ W 0)) : Calls Try.prog 22 #[.int .i64 0, .int .i64 s] w (Ret w (.tuple #[.int .u64 0, .bool true])) := by
  replace IN := Lib.hid IN
  have l0 : (sizeL (0 : Int).natAbs).length = 0 := by rw [show (0 : Int).natAbs = 0 from rfl, sizeL_zero]; rfl
  replace l0 := Lib.hid l0
  go_enter Try.func22, Try.ntmps22
  go_wp2_with fail
  refine (IN.out _).mono ?_
  rintro e w1 ⟨b1, A1, n1, c1, rfl, hb1, hz1⟩
  obtain ⟨rfl, rfl, -⟩ := numZ_open hz1
  rw [l0.out] at hz1 ⊢
  have HB := Lib.hid (below_then hb1 (below_alloc w1 (.cells #[.bool (decide ((0 : Int) < 0)), .slice A1 0 c1] 59)))
  clear hb1 hz1
  go_wp2_with fail
  go_ret2
  exact ⟨rfl, by have := HB.out; exact this⟩
set_option maxRecDepth 100000 in
set_option maxHeartbeats 4000000 in
theorem rfl_walk (v s : Int) (sb : Bool) (L x m pw : Nat) (S r : Int) (ex : Bool) (hL0 : 0 < L) (hL : L ≤ 62) (hS : (L : Int) - 53 = S) (hs1 : -40 ≤ s) (hs2 : s ≤ 40) (hm1 : 4503599627370496 ≤ m) (hm2 : m ≤ 9007199254740992)
    (hsb : decide (v < 0) = sb) (hx : v.natAbs = x) (hLx : (sizeL x).length = L) (hex : S ≤ 0 → ex = true) (hr : r = tailW m S s sb)
    (IN : ∀ W, Calls Try.prog 42 #[.int .i64 v] W (RetZ W v))
    (NR : 0 < S → ∀ u W p, p = S → NumZ W u (x : Int) → Calls Try.prog 26 #[u, .int .i64 p] W (RetZ W (m : Int)))
    (PW : ∀ W p, (p = S ∨ p = -S) → 0 ≤ p → Calls Try.prog 45 #[.int .i64 p] W (RetZ W (pw : Int)))
    (ML : 0 < S → ∀ u u' W, NumZ W u (m : Int) → NumZ W u' (pw : Int) → Calls Try.prog 44 #[u, u'] W (RetZ W ((m : Int) * (pw : Int))))
    (SM : 0 < S → ∀ u u' W, NumZ W u ((m : Int) * (pw : Int)) → NumZ W u' (x : Int) → Calls Try.prog 43 #[u, u'] W (Ret W (.bool ex)))
    (ML2 : S ≤ 0 → ∀ u u' W, NumZ W u (x : Int) → NumZ W u' (pw : Int) → Calls Try.prog 44 #[u, u'] W (RetZ W (m : Int)))
    (VL : ∀ u W, NumZ W u (m : Int) → Calls Try.prog 29 #[u] W (Ret W (.tuple #[.int .i64 (m : Int), .bool true]))) (w : World) :
    Calls Try.prog 22 #[.int .i64 v, .int .i64 s] w (Ret w (.tuple #[.int .u64 r, .bool ex])) := by
  replace IN := Lib.hid IN
  replace NR := Lib.hid NR
  replace PW := Lib.hid PW
  replace ML := Lib.hid ML
  replace SM := Lib.hid SM
  replace ML2 := Lib.hid ML2
  replace VL := Lib.hid VL
  replace hsb := Lib.hid hsb
  replace hx := Lib.hid hx
  replace hLx := Lib.hid hLx
  replace hex := Lib.hid hex
  replace hr := Lib.hid hr
  have k0 : ((L : Int) == 0) = false := beq_eq_false_iff_ne.2 (by omega)
  have kL : (L : Int) ≤ 62 := by omega
  go_enter Try.func22, Try.ntmps22
  go_wp2_with fail
  refine (IN.out _).mono ?_
  rintro e w1 ⟨b1, A1, n1, c1, rfl, hb1, hz1⟩
  obtain ⟨rfl, rfl, hn1⟩ := numZ_open hz1
  rw [hsb.out, hx.out, hLx.out] at hz1 ⊢
  rw [hx.out, hLx.out] at hn1
  have h3 : Below w1.heap.size w1 (((w1.alloc (.cells #[.bool sb, .slice A1 L c1] 59)).alloc (.cells #[.bool false, .slice A1 L c1] 59)).alloc (.cells #[.bool false, .slice A1 L c1] 59)) := below_then (below_then (below_alloc w1 _) (below_alloc _ _)) (below_alloc _ _)
  have hK : Keeps w [(w1.heap.size, 0, .bool sb), (w1.heap.size, 1, .slice A1 L c1), (w1.heap.size + 1, 0, .bool false), (w1.heap.size + 1, 1, .slice A1 L c1), (w1.heap.size + 1 + 1, 0, .bool false), (w1.heap.size + 1 + 1, 1, .slice A1 L c1)] (((w1.alloc (.cells #[.bool sb, .slice A1 L c1] 59)).alloc (.cells #[.bool false, .slice A1 L c1] 59)).alloc (.cells #[.bool false, .slice A1 L c1] 59)) :=
    ⟨below_then hb1 h3, ⟨by simp <;> omega, by simp [go_sem], by simp [go_sem]⟩, ⟨by simp <;> omega, by simp [go_sem], by simp [go_sem]⟩, ⟨by simp <;> omega, by simp [go_sem], by simp [go_sem]⟩, ⟨by simp <;> omega, by simp [go_sem], by simp [go_sem]⟩, ⟨by simp <;> omega, by simp [go_sem], by simp [go_sem]⟩, ⟨by simp <;> omega, by simp [go_sem], by simp [go_sem]⟩, trivial⟩
  have hZ := Lib.hid (numZ_nat (hn1.below h3))
  have lo1 := hb1.size
  clear hb1 hz1 hn1 h3
  go_upto_region 8 with (fail)
  generalize hw3 : ((w1.alloc (.cells #[.bool sb, .slice A1 L c1] 59)).alloc (.cells #[.bool false, .slice A1 L c1] 59)).alloc (.cells #[.bool false, .slice A1 L c1] 59) = w3 at hK hZ ⊢
  clear hw3
  generalize w1.heap.size = B at hK lo1 ⊢
  by_cases g1 : 0 < S
  · skip
    obtain ⟨⟨kz0, kc0, kf0⟩, ⟨kz1, kc1, kf1⟩, ⟨kz2, kc2, kf2⟩, ⟨kz3, kc3, kf3⟩, ⟨kz4, kc4, kf4⟩, ⟨kz5, kc5, kf5⟩, _⟩ := hK.2
    go_wp2_with fail
    refine (NR.out g1 _ _ _ (by omega) hZ.out).mono ?_
    rintro e w4 ⟨b4, A4, n4, c4, rfl, hb4, hz4⟩
    have hK4 := hK.next hb4
    have hZ4 := hZ.out.below hb4
    clear kz0 kc0 kf0 kz1 kc1 kf1 kz2 kc2 kf2 kz3 kc3 kf3 kz4 kc4 kf4 kz5 kc5 kf5 hb4 hK hZ
    obtain ⟨⟨kz0, kc0, kf0⟩, ⟨kz1, kc1, kf1⟩, ⟨kz2, kc2, kf2⟩, ⟨kz3, kc3, kf3⟩, ⟨kz4, kc4, kf4⟩, ⟨kz5, kc5, kf5⟩, _⟩ := hK4.2
    have hKa : Keeps w [(B, 0, .bool sb), (B, 1, .slice A1 L c1), (B + 1, 0, .bool false), (B + 1, 1, .slice A1 L c1)] w4 := ⟨hK4.1, ⟨kz0, kc0, kf0⟩, ⟨kz1, kc1, kf1⟩, ⟨kz2, kc2, kf2⟩, ⟨kz3, kc3, kf3⟩, trivial⟩
    have hKb := ((hKa.set (p := ⟨B + 1 + 1, 0, none⟩) (by simp <;> omega) (by simp <;> omega) (.bool b4)).set (p := ⟨B + 1 + 1, 1, none⟩) (by simp <;> omega) (by simp <;> omega) (.slice A4 n4 c4)).add2 kz4 kc4 kf4 kc5 kf5
    have hz5 := hz4.set2 kc4 kc5 (.bool b4) (.slice A4 n4 c4)
    have hZ5 := hZ4.set2 kc4 kc5 (.bool b4) (.slice A4 n4 c4)
    have hKd := Lib.hid hKb
    replace hz5 := Lib.hid hz5
    replace hZ5 := Lib.hid hZ5
    clear hKa hKb hK4 hz4 hZ4
    go_upto_region 10 with (fail)
    generalize hw5 : (w4.setCell ⟨B + 1 + 1, 0, none⟩ (.bool b4)).setCell ⟨B + 1 + 1, 1, none⟩ (.slice A4 n4 c4) = w5 at hKd hz5 hZ5 ⊢
    clear hw5 kz0 kc0 kf0 kz1 kc1 kf1 kz2 kc2 kf2 kz3 kc3 kf3 kz4 kc4 kf4 kz5 kc5 kf5
    refine region_keeps (w0 := w) (L := [(B, 0, .bool sb), (B, 1, .slice A1 L c1), (B + 1, 0, .bool false), (B + 1, 1, .slice A1 L c1), (B + 1 + 1, 0, .bool b4), (B + 1 + 1, 1, .slice A4 n4 c4)]) (by kernel_rfl) ⟨hKd.out.1, hKd.out.2.2.2.1, hKd.out.2.2.2.2.1, hKd.out.2.2.2.2.2.1, hKd.out.2.2.2.2.2.2.1, hKd.out.2.1, hKd.out.2.2.1, trivial⟩ (fun hHeld0 => ?_)
    refine wpAnyH_take (i := 0) (oi := ⟨some 34, _, _, _, _, _⟩) (v := ?_) rfl (by kernel_rfl) (by kernel_rfl) (by kernel_rfl) (fun _ _ _ h => h) (Or.inl ⟨by rfl, ?_⟩) (by assumption) ?_
    rotate_left
    · intro wq hSw; obtain ⟨⟨qz0, qc0, qf0⟩, ⟨qz1, qc1, qf1⟩, ⟨qz2, qc2, qf2⟩, ⟨qz3, qc3, qf3⟩, ⟨qz4, qc4, qf4⟩, ⟨qz5, qc5, qf5⟩, _⟩ := hSw.2; go_simp; (try with_reducible rfl)
    try simp only [Act.put, List.setIfInBounds_toArray, List.set_cons_zero, List.set_cons_succ]
    refine wpAnyH_take (i := 1) (oi := ⟨some 35, _, _, _, _, _⟩) (v := ?_) rfl (by kernel_rfl) (by kernel_rfl) (by kernel_rfl) (fun _ _ _ h => h) (Or.inl ⟨by rfl, ?_⟩) (by assumption) ?_
    rotate_left
    · intro wq hSw; go_simp; (try with_reducible rfl)
    try simp only [Act.put, List.setIfInBounds_toArray, List.set_cons_zero, List.set_cons_succ]
    refine wpAnyH_take (i := 4) (oi := ⟨some 38, _, _, _, _, _⟩) (v := ?_) rfl (by kernel_rfl) (by kernel_rfl) (by kernel_rfl) (fun _ _ _ h => h) (Or.inl ⟨by rfl, ?_⟩) (by assumption) ?_
    rotate_left
    · intro wq hSw; obtain ⟨⟨qz0, qc0, qf0⟩, ⟨qz1, qc1, qf1⟩, ⟨qz2, qc2, qf2⟩, ⟨qz3, qc3, qf3⟩, ⟨qz4, qc4, qf4⟩, ⟨qz5, qc5, qf5⟩, _⟩ := hSw.2; go_simp; (try with_reducible rfl)
    try simp only [Act.put, List.setIfInBounds_toArray, List.set_cons_zero, List.set_cons_succ]
    refine wpAnyH_ready (rs := [2]) (by kernel_rfl) (by simp) ?_
    refine AllReadyH.cons (o := ⟨some 36, _, _, _, _, _⟩) rfl (fun K hK => ?_) AllReadyH.nil
    go_simp
    (first | ((with_reducible refine (PW.out _ _ (by omega) (by omega)).mono ?_); rintro e wp ⟨b6, A6, n6, c6, rfl, hb, hz6⟩; have hma := hz5.out.below (undrew hb); have hsa := hZ5.out.below (undrew hb)) | ((with_reducible refine (ML.out g1 _ _ _ hma hz6).mono ?_); rintro e wm ⟨b7, A7, n7, c7, rfl, hb, hz7⟩; have hm2 := hma.below hb; have hs2x := hsa.below hb) | ((with_reducible refine (SM.out g1 _ _ _ hz7 hs2x).mono ?_); rintro e ws ⟨rfl, hb⟩; have hm3 := hm2.below hb))
    refine hK.out _ _ (hHeld0.next hb) (fun hHeld1 => ?_)
    clear hK K
    try clear hb
    try simp only [Act.put, List.setIfInBounds_toArray, List.set_cons_zero, List.set_cons_succ]
    refine wpAnyH_ready (rs := [3]) (by kernel_rfl) (by simp) ?_
    refine AllReadyH.cons (o := ⟨some 37, _, _, _, _, _⟩) rfl (fun K hK => ?_) AllReadyH.nil
    go_simp
    (first | ((with_reducible refine (PW.out _ _ (by omega) (by omega)).mono ?_); rintro e wp ⟨b6, A6, n6, c6, rfl, hb, hz6⟩; have hma := hz5.out.below (undrew hb); have hsa := hZ5.out.below (undrew hb)) | ((with_reducible refine (ML.out g1 _ _ _ hma hz6).mono ?_); rintro e wm ⟨b7, A7, n7, c7, rfl, hb, hz7⟩; have hm2 := hma.below hb; have hs2x := hsa.below hb) | ((with_reducible refine (SM.out g1 _ _ _ hz7 hs2x).mono ?_); rintro e ws ⟨rfl, hb⟩; have hm3 := hm2.below hb))
    refine hK.out _ _ (hHeld1.next hb) (fun hHeld2 => ?_)
    clear hK K
    try clear hb
    try simp only [Act.put, List.setIfInBounds_toArray, List.set_cons_zero, List.set_cons_succ]
    refine wpAnyH_ready (rs := [5]) (by kernel_rfl) (by simp) ?_
    refine AllReadyH.cons (o := ⟨some 39, _, _, _, _, _⟩) rfl (fun K hK => ?_) AllReadyH.nil
    go_simp
    (first | ((with_reducible refine (PW.out _ _ (by omega) (by omega)).mono ?_); rintro e wp ⟨b6, A6, n6, c6, rfl, hb, hz6⟩; have hma := hz5.out.below (undrew hb); have hsa := hZ5.out.below (undrew hb)) | ((with_reducible refine (ML.out g1 _ _ _ hma hz6).mono ?_); rintro e wm ⟨b7, A7, n7, c7, rfl, hb, hz7⟩; have hm2 := hma.below hb; have hs2x := hsa.below hb) | ((with_reducible refine (SM.out g1 _ _ _ hz7 hs2x).mono ?_); rintro e ws ⟨rfl, hb⟩; have hm3 := hm2.below hb))
    refine hK.out _ _ (hHeld2.next hb) (fun hHeld3 => ?_)
    clear hK K
    try clear hb
    try simp only [Act.put, List.setIfInBounds_toArray, List.set_cons_zero, List.set_cons_succ]
    refine wpAnyH_take (i := 6) (oi := ⟨some 10, _, _, _, _, _⟩) (v := ?_) rfl (by kernel_rfl) (by kernel_rfl) (by kernel_rfl) (fun _ _ _ h => h) (Or.inl ⟨by rfl, ?_⟩) (by assumption) ?_
    rotate_left
    · intro wq hSw; go_simp; (try with_reducible rfl)
    try simp only [Act.put, List.setIfInBounds_toArray, List.set_cons_zero, List.set_cons_succ]
    refine wpAnyH_done (by kernel_rfl) ?_ _
    have hHeld := hHeld3
    obtain ⟨⟨kz0, kc0, kf0⟩, ⟨kz1, kc1, kf1⟩, ⟨kz2, kc2, kf2⟩, ⟨kz3, kc3, kf3⟩, ⟨kz4, kc4, kf4⟩, ⟨kz5, kc5, kf5⟩, _⟩ := hHeld.2
    go_wp2_with fail
    refine (VL.out _ _ hm3).mono ?_
    rintro e wt ⟨rfl, hb⟩
    have hKt := hHeld.next hb
    clear hb hm3 hHeld kz0 kc0 kf0 kz1 kc1 kf1 kz2 kc2 kf2 kz3 kc3 kf3 kz4 kc4 kf4 kz5 kc5 kf5
    have hKc : Keeps w [(B, 0, .bool sb)] wt := ⟨hKt.1, hKt.2.1, trivial⟩
    obtain ⟨⟨mz0, mc0, mf0⟩, _⟩ := hKc.2
    have ht := Lib.hid hKt.1
    clear hKt hKc
    by_cases gm : m = 9007199254740992
    · have er := hr.out
      unfold tailW at er
      rw [if_pos (by omega), if_pos (by omega)] at er
      subst gm
      cases sb
      · simp only [Bool.false_eq_true, if_false] at er
        replace er := Lib.hid er
        go_wp2_with fail
        go_ret2
        exact ⟨ret2 (by rw [er.out] <;> omega), ht.out⟩
      · simp only [if_true] at er
        replace er := Lib.hid er
        go_wp2_with fail
        go_ret2
        exact ⟨ret2 (by rw [er.out] <;> omega), ht.out⟩
    · have er := hr.out
      unfold tailW at er
      rw [if_neg (by omega), if_neg (by omega)] at er
      have g5 : ((m : Int) == 9007199254740992) = false := beq_eq_false_iff_ne.2 (by omega)
      have g6 : (4503599627370496 : Int) ≤ (m : Int) := by omega
      have g7 : (m : Int) ≤ 9007199254740992 := by omega
      cases sb
      · simp only [Bool.false_eq_true, if_false] at er
        replace er := Lib.hid er
        go_wp2_with fail
        go_ret2
        exact ⟨ret2 (by rw [er.out] <;> omega), ht.out⟩
      · simp only [if_true] at er
        replace er := Lib.hid er
        go_wp2_with fail
        go_ret2
        exact ⟨ret2 (by rw [er.out] <;> omega), ht.out⟩
  · obtain rfl := hex.out (by omega)
    have g2 : ¬ 0 < S := g1
    obtain ⟨⟨kz0, kc0, kf0⟩, ⟨kz1, kc1, kf1⟩, ⟨kz2, kc2, kf2⟩, ⟨kz3, kc3, kf3⟩, ⟨kz4, kc4, kf4⟩, ⟨kz5, kc5, kf5⟩, _⟩ := hK.2
    have hKp := hK.1
    clear hK
    have wn : IntKind.i64.wrap (-S) = -S := by rw [IntKind.wrap_i64]; omega
    go_upto_region 11 with (fail)
    refine region_keepsB (w0 := w) (L := [(B, 0, .bool sb), (B, 1, .slice A1 L c1), (B + 1, 0, .bool false), (B + 1, 1, .slice A1 L c1)]) (M := [(B + 1 + 1, 0, .bool false), (B + 1 + 1, 1, .slice A1 L c1)]) (by kernel_rfl) ⟨hKp, ⟨kz0, kc0, kf0⟩, ⟨kz1, kc1, kf1⟩, ⟨kz2, kc2, kf2⟩, ⟨kz3, kc3, kf3⟩, trivial⟩ ⟨hKp, ⟨kz4, kc4, kf4⟩, ⟨kz5, kc5, kf5⟩, trivial⟩ (fun hHeld0 hT0 => ?_)
    refine wpAnyH_take (i := 0) (oi := ⟨some 40, _, _, _, _, _⟩) (v := ?_) rfl (by kernel_rfl) (by kernel_rfl) (by kernel_rfl) (fun _ _ _ h => h) (Or.inl ⟨by rfl, ?_⟩) (by assumption) ?_
    rotate_left
    · intro wq hSw; obtain ⟨⟨qz0, qc0, qf0⟩, ⟨qz1, qc1, qf1⟩, ⟨qz2, qc2, qf2⟩, ⟨qz3, qc3, qf3⟩, _⟩ := hSw.2; go_simp; (try with_reducible rfl)
    try simp only [Act.put, List.setIfInBounds_toArray, List.set_cons_zero, List.set_cons_succ]
    refine wpAnyH_take (i := 1) (oi := ⟨some 41, _, _, _, _, _⟩) (v := ?_) rfl (by kernel_rfl) (by kernel_rfl) (by kernel_rfl) (fun _ _ _ h => h) (Or.inl ⟨by rfl, ?_⟩) (by assumption) ?_
    rotate_left
    · intro wq hSw; go_simp; (try with_reducible rfl)
    try simp only [Act.put, List.setIfInBounds_toArray, List.set_cons_zero, List.set_cons_succ]
    refine wpAnyH_take (i := 2) (oi := ⟨some 42, _, _, _, _, _⟩) (v := ?_) rfl (by kernel_rfl) (by kernel_rfl) (by kernel_rfl) (fun _ _ _ h => h) (Or.inl ⟨by rfl, ?_⟩) (by assumption) ?_
    rotate_left
    · intro wq hSw; go_simp; (try with_reducible rfl)
    try simp only [Act.put, List.setIfInBounds_toArray, List.set_cons_zero, List.set_cons_succ]
    refine wpAnyH_ready (rs := [3]) (by kernel_rfl) (by simp) ?_
    refine AllReadyH.cons (o := ⟨some 43, _, _, _, _, _⟩) rfl (fun K hK => ?_) AllReadyH.nil
    go_simp
    (first | ((with_reducible refine (ML2.out (by omega) _ _ _ hsx (by assumption)).mono ?_); rintro e w6 ⟨b6, A6, n6, c6, rfl, hb, hz6⟩) | ((with_reducible refine (PW.out _ _ (by omega) (by omega)).mono ?_); rintro e wp ⟨b5, A5, n5, c5, rfl, hb, hz5⟩; have hsx := hZ.out.below (undrew hb)))
    refine hK.out _ _ (hHeld0.next hb) (fun hHeld1 => ?_)
    replace hT0 := hT0.next hb
    clear hK K
    try clear hb
    try simp only [Act.put, List.setIfInBounds_toArray, List.set_cons_zero, List.set_cons_succ]
    refine wpAnyH_ready (rs := [4]) (by kernel_rfl) (by simp) ?_
    refine AllReadyH.cons (o := ⟨some 44, _, _, _, _, _⟩) rfl (fun K hK => ?_) AllReadyH.nil
    go_simp
    (first | ((with_reducible refine (ML2.out (by omega) _ _ _ hsx (by assumption)).mono ?_); rintro e w6 ⟨b6, A6, n6, c6, rfl, hb, hz6⟩) | ((with_reducible refine (PW.out _ _ (by omega) (by omega)).mono ?_); rintro e wp ⟨b5, A5, n5, c5, rfl, hb, hz5⟩; have hsx := hZ.out.below (undrew hb)))
    refine hK.out _ _ (hHeld1.next hb) (fun hHeld2 => ?_)
    replace hT0 := hT0.next hb
    clear hK K
    try clear hb
    try simp only [Act.put, List.setIfInBounds_toArray, List.set_cons_zero, List.set_cons_succ]
    refine wpAnyH_ready (rs := [5]) (by kernel_rfl) (by simp) ?_
    refine AllReadyH.cons (o := ⟨none, _, _, _, _, _⟩) rfl (fun K hK => ?_) AllReadyH.nil
    obtain ⟨⟨t0z0, t0c0, t0f0⟩, ⟨t0z1, t0c1, t0f1⟩, _⟩ := hT0.2; (try simp at t0z0); (try simp at t0c0); (try simp at t0f0); (try simp at t0z1); (try simp at t0c1); (try simp at t0f1)
    go_simp
    refine hK.out _ _ (by first | exact hHeld2.alloc _ | (repeat (first | (with_reducible exact hHeld2) | (refine Keeps.set ?_ (by simp <;> omega) (by simp <;> omega) _)))) (fun hHeld3 => ?_)
    clear hK K
    try clear hb
    try simp only [Act.put, List.setIfInBounds_toArray, List.set_cons_zero, List.set_cons_succ]
    refine wpAnyH_done (by kernel_rfl) ?_ _
    have hHeld := hHeld3
    obtain ⟨⟨kz0, kc0, kf0⟩, ⟨kz1, kc1, kf1⟩, ⟨kz2, kc2, kf2⟩, ⟨kz3, kc3, kf3⟩, _⟩ := hHeld.2
    have hK6 := hHeld.add2 t0z0 t0c0 t0f0 t0c1 t0f1
    have hz7 := hz6.set2 t0c0 t0c1 (.bool b6) (.slice A6 n6 c6)
    generalize hw7 : (w6.setCell ⟨B + 1 + 1, 0, none⟩ (.bool b6)).setCell ⟨B + 1 + 1, 1, none⟩ (.slice A6 n6 c6) = w7 at hK6 hz7 ⊢
    clear hw7 hHeld hHeld0 hHeld1 hHeld2 hHeld3 hT0 kz0 kc0 kf0 kz1 kc1 kf1 kz2 kc2 kf2 kz3 kc3 kf3 t0z0 t0c0 t0f0 t0z1 t0c1 t0f1 hz6
    obtain ⟨⟨kz4, kc4, kf4⟩, ⟨kz5, kc5, kf5⟩, ⟨kz0, kc0, kf0⟩, _⟩ := hK6.2
    go_wp2_with fail
    refine (VL.out _ _ hz7).mono ?_
    rintro e wt ⟨rfl, hb⟩
    have hKt : Keeps w [(B, 0, .bool sb)] wt := Keeps.next ⟨hK6.1, ⟨kz0, kc0, kf0⟩, trivial⟩ hb
    clear hb hz7 hK6 kz0 kc0 kf0 kz4 kc4 kf4 kz5 kc5 kf5
    have hKc : Keeps w [(B, 0, .bool sb)] wt := ⟨hKt.1, hKt.2.1, trivial⟩
    obtain ⟨⟨mz0, mc0, mf0⟩, _⟩ := hKc.2
    have ht := Lib.hid hKt.1
    clear hKt hKc
    by_cases gm : m = 9007199254740992
    · have er := hr.out
      unfold tailW at er
      rw [if_pos (by omega), if_pos (by omega)] at er
      subst gm
      cases sb
      · simp only [Bool.false_eq_true, if_false] at er
        replace er := Lib.hid er
        go_wp2_with fail
        go_ret2
        exact ⟨ret2 (by rw [er.out] <;> omega), ht.out⟩
      · simp only [if_true] at er
        replace er := Lib.hid er
        go_wp2_with fail
        go_ret2
        exact ⟨ret2 (by rw [er.out] <;> omega), ht.out⟩
    · have er := hr.out
      unfold tailW at er
      rw [if_neg (by omega), if_neg (by omega)] at er
      have g5 : ((m : Int) == 9007199254740992) = false := beq_eq_false_iff_ne.2 (by omega)
      have g6 : (4503599627370496 : Int) ≤ (m : Int) := by omega
      have g7 : (m : Int) ≤ 9007199254740992 := by omega
      cases sb
      · simp only [Bool.false_eq_true, if_false] at er
        replace er := Lib.hid er
        go_wp2_with fail
        go_ret2
        exact ⟨ret2 (by rw [er.out] <;> omega), ht.out⟩
      · simp only [if_true] at er
        replace er := Lib.hid er
        go_wp2_with fail
        go_ret2
        exact ⟨ret2 (by rw [er.out] <;> omega), ht.out⟩
end Go.Proofs.Ytpldkccjhplipaa
