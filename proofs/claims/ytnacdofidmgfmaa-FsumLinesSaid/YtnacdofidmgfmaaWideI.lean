/-
  More of what package wide answers: the quotient, rounded down, and what is left. Conditions: the words of a number are of 64 bits.
-/
import Derived.Test.YtnacdofidmgfmaaWideH
namespace Go.Proofs.Ytnacdofidmgfmaa
open Go.RowKit Go.Shelf

def qhi (z m : Int) : Int := if m < 1 then 0 else rhi (z / m)
def qlo (z m : Int) : Int := if m < 1 then 0 else rlo (z / m)
def qrest (z m : Int) : Int := if m < 1 then 0 else z % m
def qcode (m : Int) : Int := if m < 1 then 2 else 0
abbrev divV (z m : Int) : Value := .tuple #[wideV (qhi z m) (qlo z m), .int .i64 (qrest z m), .int .i64 (qcode m)]

theorem mirror_val {hi lo : Int} (h : I64 hi) (k : U64 lo) : val (-1 - hi) (18446744073709551615 - lo) = -1 - val hi lo ∧ I64 (-1 - hi) ∧ U64 (18446744073709551615 - lo) := by
  obtain ⟨_, _⟩ := h; obtain ⟨_, _⟩ := k
  refine ⟨by unfold val; omega, ⟨by omega, by omega⟩, ⟨by omega, by omega⟩⟩
theorem mirror_div {n m : Int} (h0 : 0 < m) : (-1 - n) / m = -1 - n / m ∧ (-1 - n) % m = m - 1 - n % m := by
  have hd := Int.mul_ediv_add_emod n m
  have r0 := Int.emod_nonneg n (Int.ne_of_gt h0)
  have r1 := Int.emod_lt_of_pos n h0
  have e : -1 - n = (m - 1 - n % m) + m * (-1 - n / m) := by
    rw [Int.mul_sub]
    generalize m * (n / m) = A at *
    omega
  constructor
  · rw [e, Int.add_mul_ediv_left _ _ (Int.ne_of_gt h0), Int.ediv_eq_zero_of_lt (by omega) (by omega)]; omega
  · rw [e, Int.add_mul_emod_self_left, Int.emod_eq_of_lt (by omega) (by omega)]
theorem mirror_r {z : Int} (h : Fits z) (h' : Fits (-1 - z)) : -1 - rhi z = rhi (-1 - z) ∧ 18446744073709551615 - rlo z = rlo (-1 - z) := by
  unfold rhi rlo; rw [if_pos h, if_pos h', if_pos h, if_pos h']; omega
theorem div_fits {z m : Int} (h : Fits z) (h0 : 0 < m) : Fits (z / m) := by
  unfold Fits at *
  have a : z / m ≤ 170141183460469231731687303715884105727 := by
    have : z / m < 170141183460469231731687303715884105727 + 1 := by
      rw [Int.ediv_lt_iff_lt_mul h0]
      omega
    omega
  have b : -170141183460469231731687303715884105728 ≤ z / m := by
    rw [Int.le_ediv_iff_mul_le h0]
    omega
  omega

theorem div_no (hi lo m : Int) (h0 : m < 1) (w : World) :
    Calls Try.prog 98 #[wideV hi lo, .int .i64 m] w (Ret w (.tuple #[wideV 0 0, .int .i64 0, .int .i64 2])) := by
  go_enter Try.func98, Try.ntmps98
  go_wp2
  go_returns
  exact ⟨rfl, by go_grown⟩

set_option maxHeartbeats 800000 in
theorem div_up (hi lo m : Int) (h : I64 hi) (k : U64 lo) (hm : I64 m) (h0 : 1 ≤ m) (hp : 0 ≤ hi) (w : World) :
    Calls Try.prog 98 #[wideV hi lo, .int .i64 m] w (Ret w (.tuple #[wideV (rhi (val hi lo / m)) (rlo (val hi lo / m)), .int .i64 (val hi lo % m), .int .i64 0])) := by
  have d1 := divide_any hi lo m h k hm h0 hp
  generalize rhi (val hi lo / m) = A at *
  generalize rlo (val hi lo / m) = B at *
  generalize val hi lo % m = R at *
  have G := Lib.hid (show decide (hi < 0) = false from by simp; omega)
  have H1 := Lib.hid d1
  have g : ¬ m < 1 := by omega
  clear d1
  go_enter Try.func98, Try.ntmps98
  go_wp2_with fail
  refine (below_is hi lo false G.out _).mono ?_
  rintro e w1 ⟨rfl, hb⟩
  have hHeld : Keeps w [(w.heap.size, 0, .int .i64 hi), (w.heap.size, 1, .int .u64 lo), (w.heap.size + 1, 0, .int .i64 0), (w.heap.size + 1, 1, .int .u64 0)] _ := Keeps.next (by refine ⟨by go_grown, ?_⟩; simp [Cells, go_sem]) hb
  clear hb
  obtain ⟨⟨kz0, kc0, kf0⟩, ⟨kz1, kc1, kf1⟩, ⟨kz2, kc2, kf2⟩, ⟨kz3, kc3, kf3⟩, _⟩ := hHeld.2
  go_wp2_with fail
  refine (H1.out _).mono ?_
  rintro e w2 ⟨rfl, hb⟩
  replace hHeld := Keeps.next (hHeld) hb
  clear hb kz0 kc0 kf0 kz1 kc1 kf1 kz2 kc2 kf2 kz3 kc3 kf3
  obtain ⟨⟨kz0, kc0, kf0⟩, ⟨kz1, kc1, kf1⟩, ⟨kz2, kc2, kf2⟩, ⟨kz3, kc3, kf3⟩, _⟩ := hHeld.2
  go_wp2_with fail
  refine bodyPost_ret (v := .tuple #[wideV A B, .int .i64 R, .int .i64 0]) (by simp [results, Try.results98, go_sem, World.cell?_alloc_lt, kc2, kc3, kz2]) rfl ?_
  exact ⟨rfl, by first | (with_reducible exact hHeld.1) | (have hB := hHeld.1; have hz := hB.size; go_grown)⟩

set_option maxHeartbeats 800000 in
theorem div_down (hi lo m : Int) (h : I64 hi) (k : U64 lo) (hm : I64 m) (h0 : 1 ≤ m) (hp : hi < 0) (w : World) :
    Calls Try.prog 98 #[wideV hi lo, .int .i64 m] w (Ret w (.tuple #[wideV (rhi (val hi lo / m)) (rlo (val hi lo / m)), .int .i64 (val hi lo % m), .int .i64 0])) := by
  obtain ⟨v1, v2, v3⟩ := mirror_val h k
  have d1 := divide_any _ _ m v2 v3 hm h0 (by omega)
  have hF := fits_val v2 v3
  rw [v1] at d1 hF
  have hF1 := div_fits hF (m := m) (by omega)
  obtain ⟨x1, x2⟩ := mirror_div (n := -1 - val hi lo) (m := m) (by omega)
  rw [show -1 - (-1 - val hi lo) = val hi lo from by omega] at x1 x2
  have hF2 := div_fits (fits_val h k) (m := m) (by omega)
  obtain ⟨y1, y2⟩ := mirror_r hF1 (by rw [← x1]; exact hF2)
  rw [← x1] at y1 y2
  have mi1 := mirror_any hi lo h k
  have mi2 := mirror_any (rhi ((-1 - val hi lo) / m)) (rlo ((-1 - val hi lo) / m)) (rhi_i64 _) (rlo_u64 _)
  rw [y1, y2] at mi2
  rw [x2]
  have r0 := Int.emod_nonneg (-1 - val hi lo) (show m ≠ 0 by omega)
  have r1 := Int.emod_lt_of_pos (-1 - val hi lo) (show 0 < m by omega)
  clear v1 v2 v3 hF hF1 hF2 x1 x2 y1 y2
  generalize rhi (val hi lo / m) = A at *
  generalize rlo (val hi lo / m) = B at *
  generalize (-1 - val hi lo) % m = R at *
  generalize rhi ((-1 - val hi lo) / m) = C at *
  generalize rlo ((-1 - val hi lo) / m) = D at *
  have G := Lib.hid (show decide (hi < 0) = true from by simp; omega)
  have H1 := Lib.hid d1
  have H2 := Lib.hid mi1
  have H3 := Lib.hid mi2
  have hm2 := hm.2
  have g : ¬ m < 1 := by omega
  clear d1 mi1 mi2
  go_enter Try.func98, Try.ntmps98
  go_wp2_with fail
  refine (below_is hi lo true G.out _).mono ?_
  rintro e w1 ⟨rfl, hb⟩
  have hHeld : Keeps w [(w.heap.size, 0, .int .i64 hi), (w.heap.size, 1, .int .u64 lo), (w.heap.size + 1, 0, .int .i64 0), (w.heap.size + 1, 1, .int .u64 0)] _ := Keeps.next (by refine ⟨by go_grown, ?_⟩; simp [Cells, go_sem]) hb
  clear hb
  obtain ⟨⟨kz0, kc0, kf0⟩, ⟨kz1, kc1, kf1⟩, ⟨kz2, kc2, kf2⟩, ⟨kz3, kc3, kf3⟩, _⟩ := hHeld.2
  go_wp2_with fail
  refine (H2.out _).mono ?_
  rintro e w2 ⟨rfl, hb⟩
  replace hHeld := Keeps.next (hHeld) hb
  clear hb kz0 kc0 kf0 kz1 kc1 kf1 kz2 kc2 kf2 kz3 kc3 kf3
  obtain ⟨⟨kz0, kc0, kf0⟩, ⟨kz1, kc1, kf1⟩, ⟨kz2, kc2, kf2⟩, ⟨kz3, kc3, kf3⟩, _⟩ := hHeld.2
  go_wp2_with fail
  refine (H1.out _).mono ?_
  rintro e w3 ⟨rfl, hb⟩
  replace hHeld := Keeps.next (hHeld) hb
  clear hb kz0 kc0 kf0 kz1 kc1 kf1 kz2 kc2 kf2 kz3 kc3 kf3
  obtain ⟨⟨kz0, kc0, kf0⟩, ⟨kz1, kc1, kf1⟩, ⟨kz2, kc2, kf2⟩, ⟨kz3, kc3, kf3⟩, _⟩ := hHeld.2
  go_wp2_with fail
  refine (H3.out _).mono ?_
  rintro e w4 ⟨rfl, hb⟩
  replace hHeld := Keeps.next ((hHeld.alloc _)) hb
  clear hb kz0 kc0 kf0 kz1 kc1 kf1 kz2 kc2 kf2 kz3 kc3 kf3
  obtain ⟨⟨kz0, kc0, kf0⟩, ⟨kz1, kc1, kf1⟩, ⟨kz2, kc2, kf2⟩, ⟨kz3, kc3, kf3⟩, _⟩ := hHeld.2
  go_wp2_with fail
  refine bodyPost_ret (v := .tuple #[wideV A B, .int .i64 (m - 1 - R), .int .i64 0]) (by simp [results, Try.results98, go_sem, kc2, kc3]) rfl ?_
  exact ⟨rfl, by first | (with_reducible exact hHeld.1) | (have hB := hHeld.1; have hz := hB.size; go_grown)⟩

theorem div_any (hi lo m : Int) (h : I64 hi) (k : U64 lo) (hm : I64 m) (w : World) :
    Calls Try.prog 98 #[wideV hi lo, .int .i64 m] w (Ret w (divV (val hi lo) m)) := by
  by_cases g : m < 1
  · have := div_no hi lo m g w
    simpa [divV, qhi, qlo, qrest, qcode, g] using this
  · have e : divV (val hi lo) m = .tuple #[wideV (rhi (val hi lo / m)) (rlo (val hi lo / m)), .int .i64 (val hi lo % m), .int .i64 0] := by simp [divV, qhi, qlo, qrest, qcode, g]
    rw [e]
    by_cases p : hi < 0
    · exact div_down hi lo m h k hm (by omega) p w
    · exact div_up hi lo m h k hm (by omega) (by omega) w
attribute [irreducible] qhi qlo qrest qcode
end Go.Proofs.Ytnacdofidmgfmaa
