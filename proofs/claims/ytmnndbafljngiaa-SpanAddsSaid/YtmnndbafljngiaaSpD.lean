/-
  Layer 4: ends that may leave their numbers, and are told by rounds: grown.plus, sums.plus. Conditions: those written at each fact.
-/
import Derived.Test.YtmnndbafljngiaaSpW
namespace Go.Proofs.Ytmnndbafljngiaa
open Go.RowKit

/-- A whole number, within 64 bits, and how often it went round. -/
def nr (z : Int) : Int := (z + 9223372036854775808) % 18446744073709551616 - 9223372036854775808
def rr (z : Int) : Int := (z + 9223372036854775808) / 18446744073709551616
abbrev grV (z : Int) : Value := .agg #[.int .i64 (nr z), .int .i64 (rr z)]
/-- A number that is far from leaving the rounds. -/
def Far (z : Int) : Prop := -1000000000000000000000000000000000000 ≤ z ∧ z ≤ 1000000000000000000000000000000000000
theorem rr_zero (z : Int) : rr z = 0 ↔ -9223372036854775808 ≤ z ∧ z ≤ 9223372036854775807 := by unfold rr; omega
theorem nr_self (z : Int) (h : rr z = 0) : nr z = z := by rw [rr_zero] at h; unfold nr; omega
theorem plus_facts (z n : Int) (hz : Far z) (h1 : -9223372036854775808 ≤ n) (h2 : n ≤ 9223372036854775807) :
    wrap64 (nr z + n) = nr (z + n) ∧
    (0 < n → nr (z + n) < nr z → wrap64 (rr z + 1) = rr (z + n)) ∧ (0 < n → ¬ nr (z + n) < nr z → rr z = rr (z + n)) ∧
    (n < 0 → nr z < nr (z + n) → wrap64 (rr z - 1) = rr (z + n)) ∧ (n < 0 → ¬ nr z < nr (z + n) → rr z = rr (z + n)) ∧ (n = 0 → rr z = rr (z + n)) := by
  unfold Far at hz
  unfold nr rr wrap64
  refine ⟨?_, ?_, ?_, ?_, ?_, ?_⟩ <;> omega
set_option maxRecDepth 100000 in
set_option maxHeartbeats 2000000 in
theorem gplus_any (z n : Int) (hz : Far z) (h1 : -9223372036854775808 ≤ n) (h2 : n ≤ 9223372036854775807) (w : World) : Calls Try.prog 71 #[grV z, .int .i64 n] w (Ret w (grV (z + n))) := by
  obtain ⟨e0, e1, e2, e3, e4, e5⟩ := plus_facts z n hz h1 h2
  unfold grV
  generalize nr z = a at *
  generalize rr z = r at *
  generalize nr (z + n) = a' at *
  generalize rr (z + n) = r' at *
  clear hz h1 h2
  subst e0
  by_cases g : 0 < n
  · have g2 : ¬ n < 0 := by omega
    clear e3 e4 e5
    by_cases k : wrap64 (a + n) < a
    · have e := e1 g k
      subst e
      clear e1 e2
      go_enter Try.func71, Try.ntmps71
      go_wp2
      go_returns
      exact ⟨rfl, by go_grown⟩
    · have e := e2 g k
      subst e
      clear e1 e2
      go_enter Try.func71, Try.ntmps71
      go_wp2
      go_returns
      exact ⟨rfl, by go_grown⟩
  · by_cases g2 : n < 0
    · clear e1 e2 e5
      by_cases k : a < wrap64 (a + n)
      · have e := e3 g2 k
        subst e
        clear e3 e4
        go_enter Try.func71, Try.ntmps71
        go_wp2
        go_returns
        exact ⟨rfl, by go_grown⟩
      · have e := e4 g2 k
        subst e
        clear e3 e4
        go_enter Try.func71, Try.ntmps71
        go_wp2
        go_returns
        exact ⟨rfl, by go_grown⟩
    · have e := e5 (by omega)
      subst e
      clear e1 e2 e3 e4 e5
      go_enter Try.func71, Try.ntmps71
      go_wp2
      go_returns
      exact ⟨rfl, by go_grown⟩
/-- Both ends. -/
abbrev smV (x y : Int) : Value := .agg #[.int .i64 (nr x), .int .i64 (rr x), .int .i64 (nr y), .int .i64 (rr y)]
set_option maxRecDepth 100000 in
set_option maxHeartbeats 2000000 in
theorem splus_any (x y a b : Int) (hx : Far x) (hy : Far y) (a1 : -9223372036854775808 ≤ a) (a2 : a ≤ 9223372036854775807) (b1 : -9223372036854775808 ≤ b) (b2 : b ≤ 9223372036854775807) (w : World) :
    Calls Try.prog 62 #[smV x y, spV a b] w (Ret w (smV (x + a) (y + b))) := by
  have PX := Lib.hid (fun W => gplus_any x a hx a1 a2 W)
  have PY := Lib.hid (fun W => gplus_any y b hy b1 b2 W)
  clear hx hy a1 a2 b1 b2
  unfold smV grV at *
  generalize nr x = xn at *
  generalize rr x = xr at *
  generalize nr y = yn at *
  generalize rr y = yr at *
  generalize nr (x + a) = xn' at *
  generalize rr (x + a) = xr' at *
  generalize nr (y + b) = yn' at *
  generalize rr (y + b) = yr' at *
  go_enter Try.func62, Try.ntmps62
  go_wp2_with fail
  refine region_keepsB (w0 := w) (L := [(w.heap.size, 0, .int .i64 xn), (w.heap.size, 1, .int .i64 xr), (w.heap.size, 2, .int .i64 yn), (w.heap.size, 3, .int .i64 yr), (w.heap.size + 1, 0, .int .i64 a), (w.heap.size + 1, 1, .int .i64 b)]) (M := [(w.heap.size + 1 + 1, 0, .int .i64 0), (w.heap.size + 1 + 1, 1, .int .i64 0), (w.heap.size + 1 + 1, 2, .int .i64 0), (w.heap.size + 1 + 1, 3, .int .i64 0)]) (by kernel_rfl) ⟨by go_grown, by simp [Cells, go_sem]⟩ ⟨by go_grown, by simp [Cells, go_sem]⟩ (fun hHeld0 hT0 => ?_)
  refine wpAnyH_take (i := 0) (oi := ⟨some 5, _, _, _, _, _⟩) (v := ?_) rfl (by kernel_rfl) (by kernel_rfl) (by kernel_rfl) (fun _ _ _ h => h) (Or.inl ⟨by rfl, ?_⟩) (by assumption) ?_
  rotate_left
  · intro wq hSw; go_simp; (try with_reducible rfl)
  try simp only [Act.put, List.setIfInBounds_toArray, List.set_cons_zero, List.set_cons_succ]
  refine wpAnyH_take (i := 1) (oi := ⟨some 6, _, _, _, _, _⟩) (v := ?_) rfl (by kernel_rfl) (by kernel_rfl) (by kernel_rfl) (fun _ _ _ h => h) (Or.inl ⟨by rfl, ?_⟩) (by assumption) ?_
  rotate_left
  · intro wq hSw; obtain ⟨⟨qz0, qc0, qf0⟩, ⟨qz1, qc1, qf1⟩, ⟨qz2, qc2, qf2⟩, ⟨qz3, qc3, qf3⟩, ⟨qz4, qc4, qf4⟩, ⟨qz5, qc5, qf5⟩, _⟩ := hSw.2; go_simp; (try with_reducible rfl)
  try simp only [Act.put, List.setIfInBounds_toArray, List.set_cons_zero, List.set_cons_succ]
  refine wpAnyH_take (i := 2) (oi := ⟨some 7, _, _, _, _, _⟩) (v := ?_) rfl (by kernel_rfl) (by kernel_rfl) (by kernel_rfl) (fun _ _ _ h => h) (Or.inl ⟨by rfl, ?_⟩) (by assumption) ?_
  rotate_left
  · intro wq hSw; go_simp; (try with_reducible rfl)
  try simp only [Act.put, List.setIfInBounds_toArray, List.set_cons_zero, List.set_cons_succ]
  refine wpAnyH_take (i := 3) (oi := ⟨some 8, _, _, _, _, _⟩) (v := ?_) rfl (by kernel_rfl) (by kernel_rfl) (by kernel_rfl) (fun _ _ _ h => h) (Or.inl ⟨by rfl, ?_⟩) (by assumption) ?_
  rotate_left
  · intro wq hSw; obtain ⟨⟨qz0, qc0, qf0⟩, ⟨qz1, qc1, qf1⟩, ⟨qz2, qc2, qf2⟩, ⟨qz3, qc3, qf3⟩, ⟨qz4, qc4, qf4⟩, ⟨qz5, qc5, qf5⟩, _⟩ := hSw.2; go_simp; (try with_reducible rfl)
  try simp only [Act.put, List.setIfInBounds_toArray, List.set_cons_zero, List.set_cons_succ]
  refine wpAnyH_take (i := 5) (oi := ⟨some 10, _, _, _, _, _⟩) (v := ?_) rfl (by kernel_rfl) (by kernel_rfl) (by kernel_rfl) (fun _ _ _ h => h) (Or.inl ⟨by rfl, ?_⟩) (by assumption) ?_
  rotate_left
  · intro wq hSw; go_simp; (try with_reducible rfl)
  try simp only [Act.put, List.setIfInBounds_toArray, List.set_cons_zero, List.set_cons_succ]
  refine wpAnyH_take (i := 6) (oi := ⟨some 11, _, _, _, _, _⟩) (v := ?_) rfl (by kernel_rfl) (by kernel_rfl) (by kernel_rfl) (fun _ _ _ h => h) (Or.inl ⟨by rfl, ?_⟩) (by assumption) ?_
  rotate_left
  · intro wq hSw; obtain ⟨⟨qz0, qc0, qf0⟩, ⟨qz1, qc1, qf1⟩, ⟨qz2, qc2, qf2⟩, ⟨qz3, qc3, qf3⟩, ⟨qz4, qc4, qf4⟩, ⟨qz5, qc5, qf5⟩, _⟩ := hSw.2; go_simp; (try with_reducible rfl)
  try simp only [Act.put, List.setIfInBounds_toArray, List.set_cons_zero, List.set_cons_succ]
  refine wpAnyH_take (i := 7) (oi := ⟨some 12, _, _, _, _, _⟩) (v := ?_) rfl (by kernel_rfl) (by kernel_rfl) (by kernel_rfl) (fun _ _ _ h => h) (Or.inl ⟨by rfl, ?_⟩) (by assumption) ?_
  rotate_left
  · intro wq hSw; go_simp; (try with_reducible rfl)
  try simp only [Act.put, List.setIfInBounds_toArray, List.set_cons_zero, List.set_cons_succ]
  refine wpAnyH_take (i := 8) (oi := ⟨some 13, _, _, _, _, _⟩) (v := ?_) rfl (by kernel_rfl) (by kernel_rfl) (by kernel_rfl) (fun _ _ _ h => h) (Or.inl ⟨by rfl, ?_⟩) (by assumption) ?_
  rotate_left
  · intro wq hSw; obtain ⟨⟨qz0, qc0, qf0⟩, ⟨qz1, qc1, qf1⟩, ⟨qz2, qc2, qf2⟩, ⟨qz3, qc3, qf3⟩, ⟨qz4, qc4, qf4⟩, ⟨qz5, qc5, qf5⟩, _⟩ := hSw.2; go_simp; (try with_reducible rfl)
  try simp only [Act.put, List.setIfInBounds_toArray, List.set_cons_zero, List.set_cons_succ]
  refine wpAnyH_ready (rs := [4]) (by kernel_rfl) (by simp) ?_
  refine AllReadyH.cons (o := ⟨some 9, _, _, _, _, _⟩) rfl (fun K hK => ?_) AllReadyH.nil
  go_simp
  (first | ((with_reducible refine (PX.out _).mono ?_); rintro e w5 ⟨rfl, hb⟩) | ((with_reducible refine (PY.out _).mono ?_); rintro e w6 ⟨rfl, hb⟩))
  refine hK.out _ _ (hHeld0.next hb) (fun hHeld1 => ?_)
  replace hT0 := hT0.next hb
  clear hK K
  try clear hb
  try simp only [Act.put, List.setIfInBounds_toArray, List.set_cons_zero, List.set_cons_succ]
  refine wpAnyH_ready (rs := [9]) (by kernel_rfl) (by simp) ?_
  refine AllReadyH.cons (o := ⟨some 14, _, _, _, _, _⟩) rfl (fun K hK => ?_) AllReadyH.nil
  go_simp
  (first | ((with_reducible refine (PX.out _).mono ?_); rintro e w5 ⟨rfl, hb⟩) | ((with_reducible refine (PY.out _).mono ?_); rintro e w6 ⟨rfl, hb⟩))
  refine hK.out _ _ (hHeld1.next hb) (fun hHeld2 => ?_)
  replace hT0 := hT0.next hb
  clear hK K
  try clear hb
  try simp only [Act.put, List.setIfInBounds_toArray, List.set_cons_zero, List.set_cons_succ]
  refine wpAnyH_take (i := 10) (oi := ⟨some 15, _, _, _, _, _⟩) (v := ?_) rfl (by kernel_rfl) (by kernel_rfl) (by kernel_rfl) (fun _ _ _ h => h) (Or.inl ⟨by rfl, ?_⟩) (by assumption) ?_
  rotate_left
  · intro wq hSw; go_simp; (try with_reducible rfl)
  try simp only [Act.put, List.setIfInBounds_toArray, List.set_cons_zero, List.set_cons_succ]
  refine wpAnyH_ready (rs := [11]) (by kernel_rfl) (by simp) ?_
  refine AllReadyH.cons (o := ⟨none, _, _, _, _, _⟩) rfl (fun K hK => ?_) AllReadyH.nil
  obtain ⟨⟨t0z0, t0c0, t0f0⟩, ⟨t0z1, t0c1, t0f1⟩, ⟨t0z2, t0c2, t0f2⟩, ⟨t0z3, t0c3, t0f3⟩, _⟩ := hT0.2; (try simp at t0z0); (try simp at t0c0); (try simp at t0f0); (try simp at t0z1); (try simp at t0c1); (try simp at t0f1); (try simp at t0z2); (try simp at t0c2); (try simp at t0f2); (try simp at t0z3); (try simp at t0c3); (try simp at t0f3)
  go_simp
  refine hK.out _ _ (by first | exact hHeld2.alloc _ | (repeat (first | (with_reducible exact hHeld2) | (refine Keeps.set ?_ (by simp <;> omega) (by simp <;> omega) _)))) (fun hHeld3 => ?_)
  clear hK K
  try clear hb
  try simp only [Act.put, List.setIfInBounds_toArray, List.set_cons_zero, List.set_cons_succ]
  refine wpAnyH_done (by kernel_rfl) ?_ _
  have hHeld := hHeld3
  obtain ⟨⟨kz0, kc0, kf0⟩, ⟨kz1, kc1, kf1⟩, ⟨kz2, kc2, kf2⟩, ⟨kz3, kc3, kf3⟩, ⟨kz4, kc4, kf4⟩, ⟨kz5, kc5, kf5⟩, _⟩ := hHeld.2
  all_goals
    go_wp2_with fail
    first
    | obtain ⟨d0, d1, d2, d3⟩ := set4 (W := w6) (B := w.heap.size + 1 + 1) (u0 := .int .i64 xn') (u1 := .int .i64 xr') (u2 := .int .i64 yn') (u3 := .int .i64 yr') t0c0 t0c1 t0c2 t0c3
    | obtain ⟨d0, d1, d2, d3⟩ := set4 (W := w5) (B := w.heap.size + 1 + 1) (u0 := .int .i64 xn') (u1 := .int .i64 xr') (u2 := .int .i64 yn') (u3 := .int .i64 yr') t0c0 t0c1 t0c2 t0c3
    refine bodyPost_ret (v := .agg #[.int .i64 xn', .int .i64 xr', .int .i64 yn', .int .i64 yr']) (by simp [results, Try.results62, go_sem, d0, d1, d2, d3]) rfl ?_
    exact ⟨rfl, hHeld.1⟩
end Go.Proofs.Ytmnndbafljngiaa
