/-
  More of what package wide answers: how often a number has another one. Conditions: the words of a number are of 64 bits, the divisor is from 1 on where it is divided.
-/
import Derived.Test.YtnacdofidmgfmaaWideF
import Derived.Test.YtnacdofidmgfmaaDivC
namespace Go.Proofs.Ytnacdofidmgfmaa
open Go.RowKit Go.Shelf

theorem over_math {h l m : Int} (hh : U64 h) (hl : U64 l) (hm : U64 m) (h0 : 0 < m) :
    h / m = dh (val h l / m) ∧ val (h % m) l / m = dl (val h l / m) ∧ val (h % m) l % m = val h l % m ∧ U64 (h % m) ∧ h % m < m := by
  have e : val h l = val (h % m) l + m * (h / m * 18446744073709551616) := by
    unfold val
    have hd := Int.mul_ediv_add_emod h m
    rw [← Int.mul_assoc]
    generalize m * (h / m) = A at *
    omega
  have r0 := Int.emod_nonneg h (Int.ne_of_gt h0)
  have r1 := Int.emod_lt_of_pos h h0
  have q0 := Int.ediv_nonneg hh.1 hm.1
  have hv0 : 0 ≤ val (h % m) l := by unfold val; have := hl.1; omega
  have hv : val (h % m) l / m < 18446744073709551616 := by
    rw [Int.ediv_lt_iff_lt_mul h0]
    unfold val
    have := hl.2
    have : (h % m + 1) * 18446744073709551616 ≤ m * 18446744073709551616 := Int.mul_le_mul_of_nonneg_right (by omega) (by decide)
    rw [Int.mul_comm 18446744073709551616 m]
    omega
  have hd0 := Int.ediv_nonneg hv0 hm.1
  have e2 : val h l / m = val (h % m) l / m + h / m * 18446744073709551616 := by
    rw [e, Int.add_mul_ediv_left _ _ (Int.ne_of_gt h0)]
  refine ⟨?_, ?_, ?_, ⟨r0, by have := hm.2; omega⟩, r1⟩
  · rw [e2]; unfold dh; omega
  · rw [e2]; unfold dl; omega
  · rw [e, Int.add_mul_emod_self_left]

theorem over_any (h l m : Int) (hh : U64 h) (hl : U64 l) (hm : U64 m) (h0 : 0 < m) (w : World) :
    Calls Try.prog 107 #[distV h l, .int .u64 m] w (Ret w (.tuple #[distV (dh (val h l / m)) (dl (val h l / m)), .int .u64 (val h l % m)])) := by
  obtain ⟨e1, e2, e3, e4, e5⟩ := over_math hh hl hm h0
  rw [← e1, ← e2, ← e3]
  clear e1 e2 e3
  have d1 := div64_0 h m hh hm h0
  have d2 := div64_any (h % m) l m hl hm e4.1 e5
  clear e4 e5
  generalize h / m = A at *
  generalize h % m = B at *
  generalize val B l / m = C at *
  generalize val B l % m = D at *
  have H1 := Lib.hid d1
  have H2 := Lib.hid d2
  clear d1 d2
  go_enter Try.func107, Try.ntmps107
  go_wp2_with fail
  refine (H1.out _).mono ?_
  rintro e w1 ⟨rfl, hb⟩
  have hHeld : Keeps w [(w.heap.size, 0, .int .u64 h), (w.heap.size, 1, .int .u64 l), (w.heap.size + 1, 0, .int .u64 0), (w.heap.size + 1, 1, .int .u64 0)] _ := Keeps.next (by refine ⟨by go_grown, ?_⟩; simp [Cells, go_sem]) hb
  clear hb
  obtain ⟨⟨kz0, kc0, kf0⟩, ⟨kz1, kc1, kf1⟩, ⟨kz2, kc2, kf2⟩, ⟨kz3, kc3, kf3⟩, _⟩ := hHeld.2
  go_wp2_with fail
  refine (H2.out _).mono ?_
  rintro e w2 ⟨rfl, hb⟩
  replace hHeld := Keeps.next (hHeld) hb
  clear hb kz0 kc0 kf0 kz1 kc1 kf1 kz2 kc2 kf2 kz3 kc3 kf3
  obtain ⟨⟨kz0, kc0, kf0⟩, ⟨kz1, kc1, kf1⟩, ⟨kz2, kc2, kf2⟩, ⟨kz3, kc3, kf3⟩, _⟩ := hHeld.2
  go_wp2_with fail
  refine bodyPost_ret (v := .tuple #[distV A C, .int .u64 D]) (by simp [results, Try.results107, go_sem, kc2, kc3]) rfl ?_
  exact ⟨rfl, by first | (with_reducible exact hHeld.1) | (have hB := hHeld.1; have hz := hB.size; go_grown)⟩

theorem divide_math {hi lo m : Int} (h : I64 hi) (k : U64 lo) (hm : I64 m) (h0 : 0 < m) (hp : 0 ≤ hi) :
    mag (val hi lo) = val hi lo ∧ 0 ≤ val hi lo ∧ val hi lo < 340282366920938463463374607431768211456 ∧ U64 m ∧ 0 ≤ val hi lo / m ∧ val hi lo / m < 340282366920938463463374607431768211456 ∧
    shi false (dh (val hi lo / m)) (dl (val hi lo / m)) = rhi (val hi lo / m) ∧ slo false (dl (val hi lo / m)) = rlo (val hi lo / m) ∧ 0 ≤ val hi lo % m ∧ val hi lo % m < m := by
  have hv0 : 0 ≤ val hi lo := by unfold val; have := k.1; omega
  have hF := fits_val h k
  have hv1 : val hi lo < 170141183460469231731687303715884105728 := by unfold Fits at hF; exact hF.2
  have d0 := Int.ediv_nonneg hv0 (Int.le_of_lt h0)
  have d1 : val hi lo / m ≤ val hi lo := Int.ediv_le_self _ hv0
  have u : U64 m := ⟨by omega, by have := hm.2; omega⟩
  have u1 : U64 (dh (val hi lo / m)) := dh_u64 d0 (by omega)
  have g : sfit false (dh (val hi lo / m)) (dl (val hi lo / m)) = true := by
    unfold sfit dh; simp; omega
  obtain ⟨y1, y2, y3⟩ := signed_yes u1 (dl_u64 _) g
  rw [val_d] at y2 y3
  have es : sgn false (val hi lo / m) = val hi lo / m := by simp [sgn]
  rw [es] at y2 y3
  refine ⟨?_, hv0, by omega, u, d0, by omega, y2, y3, Int.emod_nonneg _ (by omega), Int.emod_lt_of_pos _ h0⟩
  unfold mag; rw [if_neg (by omega)]

set_option maxHeartbeats 800000 in
theorem divide_any (hi lo m : Int) (h : I64 hi) (k : U64 lo) (hm : I64 m) (h0 : 0 < m) (hp : 0 ≤ hi) (w : World) :
    Calls Try.prog 104 #[wideV hi lo, .int .i64 m] w (Ret w (.tuple #[wideV (rhi (val hi lo / m)) (rlo (val hi lo / m)), .int .i64 (val hi lo % m)])) := by
  obtain ⟨e1, v0, v1, um, q0, q1, s1, s2, r0, r1⟩ := divide_math h k hm h0 hp
  have f1 := far_any hi lo h k
  rw [e1] at f1
  have o1 := over_any (dh (val hi lo)) (dl (val hi lo)) m (dh_u64 v0 v1) (dl_u64 _) um h0
  rw [val_d] at o1
  have g1 := signed_any false (dh (val hi lo / m)) (dl (val hi lo / m)) (dh_u64 q0 q1) (dl_u64 _)
  rw [s1, s2] at g1
  have hm2 := hm.2
  have em : IntKind.u64.wrap m = m := by rw [IntKind.wrap_u64]; omega
  clear e1 v0 v1 um q0 q1 s1 s2 hp
  generalize rhi (val hi lo / m) = A at *
  generalize rlo (val hi lo / m) = B at *
  generalize sfit false (dh (val hi lo / m)) (dl (val hi lo / m)) = F at *
  generalize dh (val hi lo / m) = C at *
  generalize dl (val hi lo / m) = D at *
  generalize val hi lo % m = R at *
  have H1 := Lib.hid f1
  have H2 := Lib.hid o1
  have H3 := Lib.hid g1
  clear f1 o1 g1
  go_enter Try.func104, Try.ntmps104
  go_wp2_with fail
  refine (H1.out _).mono ?_
  rintro e w1 ⟨rfl, hb⟩
  have hHeld : Keeps w [(w.heap.size, 0, .int .i64 hi), (w.heap.size, 1, .int .u64 lo), (w.heap.size + 1, 0, .int .i64 0), (w.heap.size + 1, 1, .int .u64 0)] _ := Keeps.next (by refine ⟨by go_grown, ?_⟩; simp [Cells, go_sem]) hb
  clear hb
  obtain ⟨⟨kz0, kc0, kf0⟩, ⟨kz1, kc1, kf1⟩, ⟨kz2, kc2, kf2⟩, ⟨kz3, kc3, kf3⟩, _⟩ := hHeld.2
  go_wp2_with fail
  refine (H2.out _).mono ?_
  rintro e w2 ⟨rfl, hb⟩
  replace hHeld := Keeps.next (hHeld) hb
  clear hb kz0 kc0 kf0 kz1 kc1 kf1 kz2 kc2 kf2 kz3 kc3 kf3
  obtain ⟨⟨kz0, kc0, kf0⟩, ⟨kz1, kc1, kf1⟩, ⟨kz2, kc2, kf2⟩, ⟨kz3, kc3, kf3⟩, _⟩ := hHeld.2
  go_wp2_with fail
  refine (H3.out _).mono ?_
  rintro e w3 ⟨rfl, hb⟩
  replace hHeld := Keeps.next ((hHeld.alloc _)) hb
  clear hb kz0 kc0 kf0 kz1 kc1 kf1 kz2 kc2 kf2 kz3 kc3 kf3
  obtain ⟨⟨kz0, kc0, kf0⟩, ⟨kz1, kc1, kf1⟩, ⟨kz2, kc2, kf2⟩, ⟨kz3, kc3, kf3⟩, _⟩ := hHeld.2
  go_wp2_with fail
  refine bodyPost_ret (v := .tuple #[wideV A B, .int .i64 R]) (by simp [results, Try.results104, go_sem, World.cell?_alloc_lt, kc2, kc3, kz2]) rfl ?_
  exact ⟨rfl, by first | (with_reducible exact hHeld.1) | (have hB := hHeld.1; have hz := hB.size; go_grown)⟩
end Go.Proofs.Ytnacdofidmgfmaa
