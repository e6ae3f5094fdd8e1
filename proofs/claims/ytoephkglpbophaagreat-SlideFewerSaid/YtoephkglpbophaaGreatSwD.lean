/-
  Layer 9: swing: a door takes a band. Conditions: those written at each fact.
-/
import Derived.Test.YtoephkglpbophaaGreatSwC
import Derived.Test.YtoephkglpbophaaGreatKitR
namespace Go.Proofs.YtoephkglpbophaaGreat.P9
open Go.RowKit Go.Shelf Go.Proofs.YtoephkglpbophaaGreat.P8
attribute [local go_sem] end0 end1

/-- What a door is that took a band. -/
def stepD (x : Dr) (b : Bd) : Dr :=
  if x.t < b.t then
    { x with a := greN x.a x.b (slN x.t x.v b.t b.lo) (slD x.t x.v b.t b.lo), b := greD x.a x.b (slN x.t x.v b.t b.lo) (slD x.t x.v b.t b.lo),
             c := lesN x.c x.d (slN x.t x.v b.t b.hi) (slD x.t x.v b.t b.hi), d := lesD x.c x.d (slN x.t x.v b.t b.hi) (slD x.t x.v b.t b.hi) }
  else x
theorem low_of_one {n d : Int} (h : gcdI n d = 1) : lowN n d = n ∧ lowD n d = d := by simp [lowN, lowD, h]
theorem lowest_again {n d : Int} (h : 1 ≤ d) : lowN (lowN n d) (lowD n d) = lowN n d ∧ lowD (lowN n d) (lowD n d) = lowD n d := by
  have hg : gcdI (lowN n d) (lowD n d) = 1 := by
    unfold lowN lowD gcdI
    have h0 : 0 < Int.gcd n d := Int.gcd_pos_of_ne_zero_right _ (by omega)
    rw [Int.gcd_ediv_gcd_ediv_gcd h0]
    rfl
  exact low_of_one hg
theorem sl_ok {t v u x : Int} (hv : backB v = true) (hx : backB x = true) (ht : timeB t = true) (hu : timeB u = true) (h : t < u) :
    slopeB (slN t v u x) (slD t v u x) = true ∧ lowN (slN t v u x) (slD t v u x) = slN t v u x ∧ lowD (slN t v u x) (slD t v u x) = slD t v u x := by
  have hs := slope_raw hv hx ht hu h
  exact ⟨low_bounds hs, lowest_again (by omega)⟩
theorem band_ok {b : Bd} (h : BdOk b) : timeB b.t = true ∧ backB b.lo = true ∧ backB b.hi = true := by
  obtain ⟨h1, h2, h3, h4, h5⟩ := h
  rw [timeB_iff, backB_iff, backB_iff]
  omega
theorem step_ok {x : Dr} {b : Bd} (h : DrOk x) (hb : BdOk b) : DrOk (stepD x b) := by
  obtain ⟨h1, h2, h3⟩ := band_ok hb
  unfold stepD
  split
  · rename_i hlt
    obtain ⟨p1, p2, p3⟩ := sl_ok h.v h2 h.t h1 hlt
    obtain ⟨q1, q2, q3⟩ := sl_ok h.v h3 h.t h1 hlt
    refine ⟨h.t, h.v, ?_, ?_, ?_, ?_⟩ <;> simp only [greN, greD, lesN, lesD] <;> split
    · exact h.lo
    · exact p1
    · exact q1
    · exact h.hi
    · exact h.la
    · exact ⟨p2, p3⟩
    · exact ⟨q2, q3⟩
    · exact h.ha
  · exact h
theorem near_put6 {n : Nat} {w W : World} {B : Nat} (h : Near n w W) (hB : w.heap.size ≤ B) (u0 u1 u2 u3 u4 u5 : Value) : Near n w (put6 W B u0 u1 u2 u3 u4 u5) :=
  (((((h.set (p := ⟨B, 0, none⟩) (.inr hB) _).set (p := ⟨B, 1, none⟩) (.inr hB) _).set (p := ⟨B, 2, none⟩) (.inr hB) _).set (p := ⟨B, 3, none⟩) (.inr hB) _).set (p := ⟨B, 4, none⟩) (.inr hB) _).set (p := ⟨B, 5, none⟩) (.inr hB) _
theorem cells_put6 {L : List (Nat × Nat × Value)} {W : World} {B : Nat} (h : Cells L W) (hB : ∀ q ∈ L, q.1 ≠ B) (u0 u1 u2 u3 u4 u5 : Value) : Cells L (put6 W B u0 u1 u2 u3 u4 u5) :=
  (((((h.set (p := ⟨B, 0, none⟩) hB _).set (p := ⟨B, 1, none⟩) hB _).set (p := ⟨B, 2, none⟩) hB _).set (p := ⟨B, 3, none⟩) hB _).set (p := ⟨B, 4, none⟩) hB _).set (p := ⟨B, 5, none⟩) hB _
/-- What take leaves. -/
def Took (w : World) (T : Nat) (x : Dr) (e : Ending) (w' : World) : Prop := e = .returned (drV x) ∧ Near T w w' ∧ DrAt w' T x
set_option maxRecDepth 100000 in
set_option maxHeartbeats 4000000 in
theorem take_no (T : Nat) (t v a b c d u lo hi : Int) (h : ¬ t < u) (w : World) (hT : DrAt w T ⟨t, v, a, b, c, d⟩) :
    Calls Tryz.prog 68 #[.pointer (some ⟨T, 0, none⟩), bandV ⟨u, lo, hi⟩] w (Took w T ⟨t, v, a, b, c, d⟩) := by
  have HT := Lib.hid hT
  obtain ⟨⟨tz0, tc0, tf0⟩, ⟨tz1, tc1, tf1⟩, ⟨tz2, tc2, tf2⟩, ⟨tz3, tc3, tf3⟩, ⟨tz4, tc4, tf4⟩, ⟨tz5, tc5, tf5⟩, _⟩ := hT
  have i1 : decide (t < u) = false := decide_eq_false h
  simp only at tc0 tc1 tc2 tc3 tc4 tc5
  clear h
  go_enter Tryz.func68, Tryz.ntmps68
  go_wp2_with fail
  go_quiet (fail)
  have hHeld : Keeps w [(w.heap.size + 1, 0, .int .i64 0), (w.heap.size + 1, 1, .int .i64 0), (w.heap.size + 1, 2, .int .i64 0), (w.heap.size + 1, 3, .int .i64 0), (w.heap.size + 1, 4, .int .i64 0), (w.heap.size + 1, 5, .int .i64 0)] (((w.alloc (.cells #[.int .i64 u, .int .i64 lo, .int .i64 hi] 46)).alloc (.cells #[.int .i64 0, .int .i64 0, .int .i64 0, .int .i64 0, .int .i64 0, .int .i64 0] 63)).drewN nq) := by
    refine ⟨below_drewN (((Below.refl _ w).alloc (Nat.le_refl _) _).alloc (by simp) _) nq, ?_⟩
    simp [Cells, go_sem]
  go_wp2_with fail
  generalize hG : (((w.alloc (.cells #[.int .i64 u, .int .i64 lo, .int .i64 hi] 46)).alloc (.cells #[.int .i64 0, .int .i64 0, .int .i64 0, .int .i64 0, .int .i64 0, .int .i64 0] 63)).drewN nq) = wi at *
  clear hG
  obtain ⟨⟨kz0, kc0, kf0⟩, ⟨kz1, kc1, kf1⟩, ⟨kz2, kc2, kf2⟩, ⟨kz3, kc3, kf3⟩, ⟨kz4, kc4, kf4⟩, ⟨kz5, kc5, kf5⟩, _⟩ := hHeld.2
  obtain ⟨d0, d1, d2, d3, d4, d5⟩ := set6 (W := wi) (B := w.heap.size + 1) (u0 := .int .i64 t) (u1 := .int .i64 v) (u2 := .int .i64 a) (u3 := .int .i64 b) (u4 := .int .i64 c) (u5 := .int .i64 d) kc0 kc1 kc2 kc3 kc4 kc5
  have hB := below_put6 (B := w.heap.size + 1) hHeld.1 (by omega) (.int .i64 t) (.int .i64 v) (.int .i64 a) (.int .i64 b) (.int .i64 c) (.int .i64 d)
  refine bodyPost_ret (v := drV ⟨t, v, a, b, c, d⟩) ?_ rfl ⟨rfl, Near.of hB, HT.out.next hB⟩
  unfold put6 at d0 d1 d2 d3 d4 d5
  simp [results, Tryz.results68, go_sem, d0, d1, d2, d3, d4, d5]
end Go.Proofs.YtoephkglpbophaaGreat.P9
