/-
  The document's own answers: a number of two words. Conditions: the words are of 64 bits.
-/
import Derived.Test.YtinppckjolkhpaaDoorRefP
namespace Go.Proofs.YtinppckjolkhpaaDoor
open Go.RowKit

set_option maxRecDepth 100000 in
set_option maxHeartbeats 8000000 in
theorem refOf_any (hi lo : Int) (h1 : -9223372036854775808 ≤ hi) (h2 : hi ≤ 9223372036854775807) (k1 : 0 ≤ lo) (k2 : lo < 18446744073709551616) (w : World) :
    Calls Tryd.prog 8 #[.agg #[.int .i64 hi, .int .u64 lo]] w (RetZ w (hi * 18446744073709551616 + lo)) := by
  obtain ⟨H, hH⟩ : ∃ H : Nat, hi % 18446744073709551616 = (H : Int) := ⟨(hi % 18446744073709551616).toNat, by omega⟩
  obtain ⟨u, rfl⟩ := Int.eq_ofNat_of_zero_le k1
  have e1 : IntKind.u64.wrap hi = (H : Int) := by rw [IntKind.wrap_u64]; omega
  have lH := sizeL_length 64 H (by omega)
  have lu := sizeL_length 64 u (by omega)
  have lp := size_pow 64
  have lq := size_pow 128
  have lm := size_mul H (2 ^ 64)
  have S0 := Lib.hid (fun W => (show Calls Tryd.prog 33 #[.int .u64 H] W (RetN W H) from (size_any H (by omega) W).mono fun _ _ (h : Made W _ _ _) => retN_of h.gave))
  have SU := Lib.hid (fun W => (show Calls Tryd.prog 33 #[.int .u64 u] W (RetN W u) from (size_any u (by omega) W).mono fun _ _ (h : Made W _ _ _) => retN_of h.gave))
  have P64 := Lib.hid (fun W => (show Calls Tryd.prog 34 #[.int .i64 64] W (RetN W (2 ^ 64)) from (power_any 64 (by omega) W).mono fun _ _ (h : Made W _ _ _) => retN_of h.gave))
  have P128 := Lib.hid (fun W => (show Calls Tryd.prog 34 #[.int .i64 128] W (RetN W (2 ^ 128)) from (power_any 128 (by omega) W).mono fun _ _ (h : Made W _ _ _) => retN_of h.gave))
  have TI := Lib.hid (fun (A A' : Option Addr) (n c n' c' : Nat) (W : World) k k' => (show Calls Tryd.prog 32 #[.slice A n c, .slice A' n' c'] W (RetN W (H * 2 ^ 64)) from (times_row H (2 ^ 64) (by omega) (.slice A n c) (.slice A' n' c') W k k').mono fun _ _ h => retN_of h))
  have PL := Lib.hid (fun (A A' : Option Addr) (n c n' c' : Nat) (W : World) k k' => (show Calls Tryd.prog 31 #[.slice A n c, .slice A' n' c'] W (RetN W (H * 2 ^ 64 + u)) from (plusN_any (H * 2 ^ 64) u (by omega) (by omega) (.slice A n c) (.slice A' n' c') W k k').mono fun _ _ (h : Made W _ _ _) => retN_of h.gave))
  have MN := Lib.hid (fun (a b : Value) (W : World) (ka : Num W a (2 ^ 128)) (kb : Num W b (H * 2 ^ 64 + u)) => (minus_any (2 ^ 128) (H * 2 ^ 64 + u) (by omega) (by omega) a b W ka kb).mono fun _ _ h => retN_of h)
  obtain ⟨z, hz⟩ : ∃ z : Int, z = hi * 18446744073709551616 + (u : Int) := ⟨_, rfl⟩
  rw [← hz]
  by_cases g : hi < 0
  · have hx : z.natAbs = 2 ^ 128 - (H * 2 ^ 64 + u) := by omega
    have MD := Lib.hid (fun (v : Value) (W : World) (k : Num W v (2 ^ 128 - (H * 2 ^ 64 + u))) => made2_any z true _ hx (by rw [decide_eq_true (show z < 0 by omega), decide_eq_true (show 2 ^ 128 - (H * 2 ^ 64 + u) ≠ 0 by omega)]; rfl) v W k)
    have t1 : decide (hi < 0) = true := by simpa using g
    clear hx lH lu lp lq lm hz g
    generalize 2 ^ 128 - (H * 2 ^ 64 + u) = M at *
    generalize H * 2 ^ 64 + u = s at *
    generalize H * 2 ^ 64 = p at *
    generalize 2 ^ 64 = pw at *
    generalize 2 ^ 128 = pv at *
    go_enter Tryd.func8, Tryd.ntmps8
    go_wp2_with fail
    refine region_keeps (w0 := w) (L := [(w.heap.size, 0, .int .i64 hi), (w.heap.size, 1, .int .u64 u), (w.heap.size + 1, 0, .bool false), (w.heap.size + 1, 1, .slice none 0 0)]) (by kernel_rfl) ⟨by go_grown, by simp [Cells, go_sem]⟩ (fun hHeld0 => ?_)
    refine wpAnyH_take (i := 0) (oi := ⟨some 4, _, _, _, _, _⟩) (v := ?_) rfl (by kernel_rfl) (by kernel_rfl) (by kernel_rfl) (fun _ _ _ h => h) (Or.inl ⟨by rfl, ?_⟩) (by assumption) ?_
    rotate_left
    · intro wq hSw; go_simp; (try with_reducible rfl)
    try simp only [Act.put, List.setIfInBounds_toArray, List.set_cons_zero, List.set_cons_succ]
    refine wpAnyH_take (i := 1) (oi := ⟨some 5, _, _, _, _, _⟩) (v := ?_) rfl (by kernel_rfl) (by kernel_rfl) (by kernel_rfl) (fun _ _ _ h => h) (Or.inl ⟨by rfl, ?_⟩) (by assumption) ?_
    rotate_left
    · intro wq hSw; obtain ⟨⟨qz0, qc0, qf0⟩, ⟨qz1, qc1, qf1⟩, ⟨qz2, qc2, qf2⟩, ⟨qz3, qc3, qf3⟩, _⟩ := hSw.2; go_simp; (try with_reducible rfl)
    try simp only [Act.put, List.setIfInBounds_toArray, List.set_cons_zero, List.set_cons_succ]
    refine wpAnyH_take (i := 2) (oi := ⟨some 6, _, _, _, _, _⟩) (v := ?_) rfl (by kernel_rfl) (by kernel_rfl) (by kernel_rfl) (fun _ _ _ h => h) (Or.inl ⟨by rfl, ?_⟩) (by assumption) ?_
    rotate_left
    · intro wq hSw; go_simp; (try with_reducible rfl)
    try simp only [Act.put, List.setIfInBounds_toArray, List.set_cons_zero, List.set_cons_succ]
    refine wpAnyH_take (i := 6) (oi := ⟨some 10, _, _, _, _, _⟩) (v := ?_) rfl (by kernel_rfl) (by kernel_rfl) (by kernel_rfl) (fun _ _ _ h => h) (Or.inl ⟨by rfl, ?_⟩) (by assumption) ?_
    rotate_left
    · intro wq hSw; go_simp; (try with_reducible rfl)
    try simp only [Act.put, List.setIfInBounds_toArray, List.set_cons_zero, List.set_cons_succ]
    refine wpAnyH_take (i := 7) (oi := ⟨some 11, _, _, _, _, _⟩) (v := ?_) rfl (by kernel_rfl) (by kernel_rfl) (by kernel_rfl) (fun _ _ _ h => h) (Or.inl ⟨by rfl, ?_⟩) (by assumption) ?_
    rotate_left
    · intro wq hSw; obtain ⟨⟨qz0, qc0, qf0⟩, ⟨qz1, qc1, qf1⟩, ⟨qz2, qc2, qf2⟩, ⟨qz3, qc3, qf3⟩, _⟩ := hSw.2; go_simp; (try with_reducible rfl)
    try simp only [Act.put, List.setIfInBounds_toArray, List.set_cons_zero, List.set_cons_succ]
    refine wpAnyH_ready (rs := [3]) (by kernel_rfl) (by simp) ?_
    refine AllReadyH.cons (o := ⟨some 7, _, _, _, _, _⟩) rfl (fun K hK => ?_) AllReadyH.nil
    go_simp
    ((with_reducible refine (S0.out _).mono ?_); rintro e w3 ⟨A3, n3, c3, rfl, hb, hn3⟩)
    refine hK.out _ _ (hHeld0.next hb) (fun hHeld1 => ?_)
    clear hK K
    try clear hb
    try simp only [Act.put, List.setIfInBounds_toArray, List.set_cons_zero, List.set_cons_succ]
    refine wpAnyH_ready (rs := [4]) (by kernel_rfl) (by simp) ?_
    refine AllReadyH.cons (o := ⟨some 8, _, _, _, _, _⟩) rfl (fun K hK => ?_) AllReadyH.nil
    go_simp
    ((with_reducible refine (P64.out _).mono ?_); rintro e w4 ⟨A4, n4, c4, rfl, hb, hn4⟩; have hn3' := hn3.below hb)
    refine hK.out _ _ (hHeld1.next hb) (fun hHeld2 => ?_)
    clear hK K
    try clear hb
    try simp only [Act.put, List.setIfInBounds_toArray, List.set_cons_zero, List.set_cons_succ]
    refine wpAnyH_ready (rs := [5]) (by kernel_rfl) (by simp) ?_
    refine AllReadyH.cons (o := ⟨some 9, _, _, _, _, _⟩) rfl (fun K hK => ?_) AllReadyH.nil
    go_simp
    ((with_reducible refine (TI.out _ _ _ _ _ _ _ hn3' hn4).mono ?_); rintro e w5 ⟨A5, n5, c5, rfl, hb, hn5⟩)
    refine hK.out _ _ (hHeld2.next hb) (fun hHeld3 => ?_)
    clear hK K
    try clear hb
    try simp only [Act.put, List.setIfInBounds_toArray, List.set_cons_zero, List.set_cons_succ]
    refine wpAnyH_ready (rs := [8]) (by kernel_rfl) (by simp) ?_
    refine AllReadyH.cons (o := ⟨some 12, _, _, _, _, _⟩) rfl (fun K hK => ?_) AllReadyH.nil
    go_simp
    ((with_reducible refine (SU.out _).mono ?_); rintro e w6 ⟨A6, n6, c6, rfl, hb, hn6⟩; have hn5' := hn5.below hb)
    refine hK.out _ _ (hHeld3.next hb) (fun hHeld4 => ?_)
    clear hK K
    try clear hb
    try simp only [Act.put, List.setIfInBounds_toArray, List.set_cons_zero, List.set_cons_succ]
    refine wpAnyH_ready (rs := [9]) (by kernel_rfl) (by simp) ?_
    refine AllReadyH.cons (o := ⟨some 13, _, _, _, _, _⟩) rfl (fun K hK => ?_) AllReadyH.nil
    go_simp
    ((with_reducible refine (PL.out _ _ _ _ _ _ _ hn5' hn6).mono ?_); rintro e w7 ⟨A7, n7, c7, rfl, hb, hn7⟩)
    refine hK.out _ _ (hHeld4.next hb) (fun hHeld5 => ?_)
    clear hK K
    try clear hb
    try simp only [Act.put, List.setIfInBounds_toArray, List.set_cons_zero, List.set_cons_succ]
    refine wpAnyH_take (i := 10) (oi := ⟨some 3, _, _, _, _, _⟩) (v := ?_) rfl (by kernel_rfl) (by kernel_rfl) (by kernel_rfl) (fun _ _ _ h => h) (Or.inl ⟨by rfl, ?_⟩) (by assumption) ?_
    rotate_left
    · intro wq hSw; go_simp; (try with_reducible rfl)
    try simp only [Act.put, List.setIfInBounds_toArray, List.set_cons_zero, List.set_cons_succ]
    refine wpAnyH_done (by kernel_rfl) ?_ _
    have hHeld := hHeld5
    obtain ⟨⟨kz0, kc0, kf0⟩, ⟨kz1, kc1, kf1⟩, ⟨kz2, kc2, kf2⟩, ⟨kz3, kc3, kf3⟩, _⟩ := hHeld.2
    all_goals
      go_wp2_with fail
      refine (P128.out _).mono ?_
      rintro e w8 ⟨A8, n8, c8, rfl, hb, hn8⟩
      have hn7' := Lib.hid (hn7.below hb)
      replace hHeld := hHeld.next hb
      replace hn8 := Lib.hid hn8
      clear hb kz0 kc0 kf0 kz1 kc1 kf1 kz2 kc2 kf2 kz3 kc3 kf3
      obtain ⟨⟨kz0, kc0, kf0⟩, ⟨kz1, kc1, kf1⟩, ⟨kz2, kc2, kf2⟩, ⟨kz3, kc3, kf3⟩, _⟩ := hHeld.2
      go_wp2_with fail
      refine (MN.out _ _ _ hn8.out hn7'.out).mono ?_
      rintro e w9 ⟨A9, n9, c9, rfl, hb, hn9⟩
      replace hHeld := hHeld.next hb
      replace hn9 := Lib.hid hn9
      clear hb hn8 hn7' kz0 kc0 kf0 kz1 kc1 kf1 kz2 kc2 kf2 kz3 kc3 kf3
      obtain ⟨⟨kz0, kc0, kf0⟩, ⟨kz1, kc1, kf1⟩, ⟨kz2, kc2, kf2⟩, ⟨kz3, kc3, kf3⟩, _⟩ := hHeld.2
      go_wp2_with fail
      refine (MD.out _ _ hn9.out).mono ?_
      rintro e w10 ⟨b8, A8, n8, c8, rfl, hb, hz8⟩
      replace hHeld := hHeld.next hb
      clear hb
      obtain ⟨⟨gz0, gc0, gf0⟩, ⟨gz1, gc1, gf1⟩, ⟨gz2, gc2, gf2⟩, ⟨gz3, gc3, gf3⟩, _⟩ := hHeld.2
      go_wp2_with fail
      obtain ⟨d0, d1⟩ := set2 (W := w10) (B := w.heap.size + 1) (u0 := .bool b8) (u1 := .slice A8 n8 c8) gc2 gc3
      refine bodyPost_ret (v := .agg #[.bool b8, .slice A8 n8 c8]) (by simp [results, Tryd.results8, go_sem, d0, d1]) rfl ?_
      exact ⟨b8, A8, n8, c8, rfl, by first | (with_reducible exact hHeld.1) | (have hB := hHeld.1; have hz := hB.size; go_grown), hz8.set2 gc2 gc3 _ _⟩
  · have hx : z.natAbs = H * 2 ^ 64 + u := by omega
    have MD := Lib.hid (fun (v : Value) (W : World) (k : Num W v (H * 2 ^ 64 + u)) => made2_any z false _ hx (by rw [decide_eq_false (show ¬ z < 0 by omega)]; rfl) v W k)
    have t1 : decide (hi < 0) = false := by simpa using g
    clear hx lH lu lp lq lm hz g P128 MN
    generalize H * 2 ^ 64 + u = s at *
    generalize H * 2 ^ 64 = p at *
    generalize 2 ^ 64 = pw at *
    go_enter Tryd.func8, Tryd.ntmps8
    go_wp2_with fail
    refine region_keeps (w0 := w) (L := [(w.heap.size, 0, .int .i64 hi), (w.heap.size, 1, .int .u64 u), (w.heap.size + 1, 0, .bool false), (w.heap.size + 1, 1, .slice none 0 0)]) (by kernel_rfl) ⟨by go_grown, by simp [Cells, go_sem]⟩ (fun hHeld0 => ?_)
    refine wpAnyH_take (i := 0) (oi := ⟨some 4, _, _, _, _, _⟩) (v := ?_) rfl (by kernel_rfl) (by kernel_rfl) (by kernel_rfl) (fun _ _ _ h => h) (Or.inl ⟨by rfl, ?_⟩) (by assumption) ?_
    rotate_left
    · intro wq hSw; go_simp; (try with_reducible rfl)
    try simp only [Act.put, List.setIfInBounds_toArray, List.set_cons_zero, List.set_cons_succ]
    refine wpAnyH_take (i := 1) (oi := ⟨some 5, _, _, _, _, _⟩) (v := ?_) rfl (by kernel_rfl) (by kernel_rfl) (by kernel_rfl) (fun _ _ _ h => h) (Or.inl ⟨by rfl, ?_⟩) (by assumption) ?_
    rotate_left
    · intro wq hSw; obtain ⟨⟨qz0, qc0, qf0⟩, ⟨qz1, qc1, qf1⟩, ⟨qz2, qc2, qf2⟩, ⟨qz3, qc3, qf3⟩, _⟩ := hSw.2; go_simp; (try with_reducible rfl)
    try simp only [Act.put, List.setIfInBounds_toArray, List.set_cons_zero, List.set_cons_succ]
    refine wpAnyH_take (i := 2) (oi := ⟨some 6, _, _, _, _, _⟩) (v := ?_) rfl (by kernel_rfl) (by kernel_rfl) (by kernel_rfl) (fun _ _ _ h => h) (Or.inl ⟨by rfl, ?_⟩) (by assumption) ?_
    rotate_left
    · intro wq hSw; go_simp; (try with_reducible rfl)
    try simp only [Act.put, List.setIfInBounds_toArray, List.set_cons_zero, List.set_cons_succ]
    refine wpAnyH_take (i := 6) (oi := ⟨some 10, _, _, _, _, _⟩) (v := ?_) rfl (by kernel_rfl) (by kernel_rfl) (by kernel_rfl) (fun _ _ _ h => h) (Or.inl ⟨by rfl, ?_⟩) (by assumption) ?_
    rotate_left
    · intro wq hSw; go_simp; (try with_reducible rfl)
    try simp only [Act.put, List.setIfInBounds_toArray, List.set_cons_zero, List.set_cons_succ]
    refine wpAnyH_take (i := 7) (oi := ⟨some 11, _, _, _, _, _⟩) (v := ?_) rfl (by kernel_rfl) (by kernel_rfl) (by kernel_rfl) (fun _ _ _ h => h) (Or.inl ⟨by rfl, ?_⟩) (by assumption) ?_
    rotate_left
    · intro wq hSw; obtain ⟨⟨qz0, qc0, qf0⟩, ⟨qz1, qc1, qf1⟩, ⟨qz2, qc2, qf2⟩, ⟨qz3, qc3, qf3⟩, _⟩ := hSw.2; go_simp; (try with_reducible rfl)
    try simp only [Act.put, List.setIfInBounds_toArray, List.set_cons_zero, List.set_cons_succ]
    refine wpAnyH_ready (rs := [3]) (by kernel_rfl) (by simp) ?_
    refine AllReadyH.cons (o := ⟨some 7, _, _, _, _, _⟩) rfl (fun K hK => ?_) AllReadyH.nil
    go_simp
    ((with_reducible refine (S0.out _).mono ?_); rintro e w3 ⟨A3, n3, c3, rfl, hb, hn3⟩)
    refine hK.out _ _ (hHeld0.next hb) (fun hHeld1 => ?_)
    clear hK K
    try clear hb
    try simp only [Act.put, List.setIfInBounds_toArray, List.set_cons_zero, List.set_cons_succ]
    refine wpAnyH_ready (rs := [4]) (by kernel_rfl) (by simp) ?_
    refine AllReadyH.cons (o := ⟨some 8, _, _, _, _, _⟩) rfl (fun K hK => ?_) AllReadyH.nil
    go_simp
    ((with_reducible refine (P64.out _).mono ?_); rintro e w4 ⟨A4, n4, c4, rfl, hb, hn4⟩; have hn3' := hn3.below hb)
    refine hK.out _ _ (hHeld1.next hb) (fun hHeld2 => ?_)
    clear hK K
    try clear hb
    try simp only [Act.put, List.setIfInBounds_toArray, List.set_cons_zero, List.set_cons_succ]
    refine wpAnyH_ready (rs := [5]) (by kernel_rfl) (by simp) ?_
    refine AllReadyH.cons (o := ⟨some 9, _, _, _, _, _⟩) rfl (fun K hK => ?_) AllReadyH.nil
    go_simp
    ((with_reducible refine (TI.out _ _ _ _ _ _ _ hn3' hn4).mono ?_); rintro e w5 ⟨A5, n5, c5, rfl, hb, hn5⟩)
    refine hK.out _ _ (hHeld2.next hb) (fun hHeld3 => ?_)
    clear hK K
    try clear hb
    try simp only [Act.put, List.setIfInBounds_toArray, List.set_cons_zero, List.set_cons_succ]
    refine wpAnyH_ready (rs := [8]) (by kernel_rfl) (by simp) ?_
    refine AllReadyH.cons (o := ⟨some 12, _, _, _, _, _⟩) rfl (fun K hK => ?_) AllReadyH.nil
    go_simp
    ((with_reducible refine (SU.out _).mono ?_); rintro e w6 ⟨A6, n6, c6, rfl, hb, hn6⟩; have hn5' := hn5.below hb)
    refine hK.out _ _ (hHeld3.next hb) (fun hHeld4 => ?_)
    clear hK K
    try clear hb
    try simp only [Act.put, List.setIfInBounds_toArray, List.set_cons_zero, List.set_cons_succ]
    refine wpAnyH_ready (rs := [9]) (by kernel_rfl) (by simp) ?_
    refine AllReadyH.cons (o := ⟨some 13, _, _, _, _, _⟩) rfl (fun K hK => ?_) AllReadyH.nil
    go_simp
    ((with_reducible refine (PL.out _ _ _ _ _ _ _ hn5' hn6).mono ?_); rintro e w7 ⟨A7, n7, c7, rfl, hb, hn7⟩)
    refine hK.out _ _ (hHeld4.next hb) (fun hHeld5 => ?_)
    clear hK K
    try clear hb
    try simp only [Act.put, List.setIfInBounds_toArray, List.set_cons_zero, List.set_cons_succ]
    refine wpAnyH_take (i := 10) (oi := ⟨some 3, _, _, _, _, _⟩) (v := ?_) rfl (by kernel_rfl) (by kernel_rfl) (by kernel_rfl) (fun _ _ _ h => h) (Or.inl ⟨by rfl, ?_⟩) (by assumption) ?_
    rotate_left
    · intro wq hSw; go_simp; (try with_reducible rfl)
    try simp only [Act.put, List.setIfInBounds_toArray, List.set_cons_zero, List.set_cons_succ]
    refine wpAnyH_done (by kernel_rfl) ?_ _
    have hHeld := hHeld5
    obtain ⟨⟨kz0, kc0, kf0⟩, ⟨kz1, kc1, kf1⟩, ⟨kz2, kc2, kf2⟩, ⟨kz3, kc3, kf3⟩, _⟩ := hHeld.2
    all_goals
      go_wp2_with fail
      refine (MD.out _ _ hn7).mono ?_
      rintro e w10 ⟨b8, A8, n8, c8, rfl, hb, hz8⟩
      replace hHeld := hHeld.next hb
      clear hb
      obtain ⟨⟨gz0, gc0, gf0⟩, ⟨gz1, gc1, gf1⟩, ⟨gz2, gc2, gf2⟩, ⟨gz3, gc3, gf3⟩, _⟩ := hHeld.2
      go_wp2_with fail
      obtain ⟨d0, d1⟩ := set2 (W := w10) (B := w.heap.size + 1) (u0 := .bool b8) (u1 := .slice A8 n8 c8) gc2 gc3
      refine bodyPost_ret (v := .agg #[.bool b8, .slice A8 n8 c8]) (by simp [results, Tryd.results8, go_sem, d0, d1]) rfl ?_
      exact ⟨b8, A8, n8, c8, rfl, by first | (with_reducible exact hHeld.1) | (have hB := hHeld.1; have hz := hB.size; go_grown), hz8.set2 gc2 gc3 _ _⟩
end Go.Proofs.YtinppckjolkhpaaDoor
