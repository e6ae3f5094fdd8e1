/-
  More of what package wide answers: how far a number is from 0, products. Conditions: the words of a number are of 64 bits.
-/
import Derived.Test.YtnacdofidmgfmaaWideB
namespace Go.Proofs.Ytnacdofidmgfmaa
open Go.RowKit Go.Shelf

theorem far_any (hi lo : Int) (h : I64 hi) (k : U64 lo) (w : World) :
    Calls Try.prog 89 #[wideV hi lo] w (Ret w (distV (dh (mag (val hi lo))) (dl (mag (val hi lo))))) := by
  cases g : decide (hi < 0)
  · obtain ⟨e1, e2⟩ := far_pos h k g
    rw [← e1, ← e2]
    clear e1 e2
    have G := Lib.hid g
    clear g
    go_enter Try.func89, Try.ntmps89
    go_wp2_with fail
    refine (below_is hi lo false G.out _).mono ?_
    rintro e w1 ⟨rfl, hb⟩
    have hHeld : Keeps w [(w.heap.size, 0, .int .i64 hi), (w.heap.size, 1, .int .u64 lo), (w.heap.size + 1, 0, .int .u64 0), (w.heap.size + 1, 1, .int .u64 0)] _ := Keeps.next (by refine ⟨by go_grown, ?_⟩; simp [Cells, go_sem]) hb
    clear hb
    obtain ⟨⟨kz0, kc0, kf0⟩, ⟨kz1, kc1, kf1⟩, ⟨kz2, kc2, kf2⟩, ⟨kz3, kc3, kf3⟩, _⟩ := hHeld.2
    go_wp2_with fail
    refine bodyPost_ret (v := distV (IntKind.u64.wrap hi) lo) (by simp [results, Try.results89, go_sem, kc2, kc3]) rfl ?_
    exact ⟨rfl, by first | (with_reducible exact hHeld.1) | (have hB := hHeld.1; have hz := hB.size; go_grown)⟩
  · obtain ⟨e1, e2⟩ := far_neg h k g
    rw [← e1, ← e2]
    clear e1 e2
    have G := Lib.hid g
    clear g
    go_enter Try.func89, Try.ntmps89
    go_wp2_with fail
    refine (below_is hi lo true G.out _).mono ?_
    rintro e w1 ⟨rfl, hb⟩
    have hHeld : Keeps w [(w.heap.size, 0, .int .i64 hi), (w.heap.size, 1, .int .u64 lo), (w.heap.size + 1, 0, .int .u64 0), (w.heap.size + 1, 1, .int .u64 0)] _ := Keeps.next (by refine ⟨by go_grown, ?_⟩; simp [Cells, go_sem]) hb
    clear hb
    obtain ⟨⟨kz0, kc0, kf0⟩, ⟨kz1, kc1, kf1⟩, ⟨kz2, kc2, kf2⟩, ⟨kz3, kc3, kf3⟩, _⟩ := hHeld.2
    go_wp2_with fail
    refine (negative_any _ _ (wrap_u64_u64 _) k _).mono ?_
    rintro e w2 ⟨rfl, hb⟩
    replace hHeld := Keeps.next (hHeld) hb
    clear hb kz0 kc0 kf0 kz1 kc1 kf1 kz2 kc2 kf2 kz3 kc3 kf3
    obtain ⟨⟨kz0, kc0, kf0⟩, ⟨kz1, kc1, kf1⟩, ⟨kz2, kc2, kf2⟩, ⟨kz3, kc3, kf3⟩, _⟩ := hHeld.2
    go_wp2_with fail
    refine bodyPost_ret (v := distV (nhi (IntKind.u64.wrap hi) lo) (nlo lo)) (by simp [results, Try.results89, go_sem, kc2, kc3]) rfl ?_
    exact ⟨rfl, by first | (with_reducible exact hHeld.1) | (have hB := hHeld.1; have hz := hB.size; go_grown)⟩

theorem mul64 (x y : Int) (hx : U64 x) (hy : U64 y) (w : World) :
    Calls Try.prog 103 #[.int .u64 x, .int .u64 y] w fun e w' => e = .returned (.tuple #[.int .u64 (x * y / 18446744073709551616), .int .u64 (x * y % 18446744073709551616)]) ∧ w' = w := by
  obtain ⟨x0, x1⟩ := hx
  obtain ⟨y0, y1⟩ := hy
  obtain ⟨x, rfl⟩ := Int.eq_ofNat_of_zero_le x0
  obtain ⟨y, rfl⟩ := Int.eq_ofNat_of_zero_le y0
  refine (Try.bits_Mul64 x y (by omega) (by omega) w).mono ?_
  rintro e w' ⟨rfl, rfl⟩
  refine ⟨?_, rfl⟩
  congr 5 <;> (push_cast; rfl)

theorem times_any (h l n : Int) (hh : U64 h) (hl : U64 l) (hn : U64 n) (w : World) :
    Calls Try.prog 90 #[distV h l, .int .u64 n] w (Ret w (.tuple #[distV (dh (val h l * n % 340282366920938463463374607431768211456)) (dl (val h l * n % 340282366920938463463374607431768211456)), .int .u64 (val h l * n / 340282366920938463463374607431768211456)])) := by
  obtain ⟨e1, e2, e3⟩ := times_words hh hl hn
  rw [← e1, ← e2, ← e3]
  clear e1 e2 e3
  have m1 := mul64 l n hl hn
  have m2 := mul64 h n hh hn
  have a0 := add64_0 (h * n % 18446744073709551616) (l * n / 18446744073709551616) (by omega) (by
    have := Int.mul_nonneg hl.1 hn.1; omega)
  clear hh hl hn
  generalize h * n % 18446744073709551616 = c at *
  generalize l * n / 18446744073709551616 = d at *
  generalize (c + d) % 18446744073709551616 = e at *
  generalize (c + d) / 18446744073709551616 = f at *
  generalize h * n / 18446744073709551616 = g at *
  generalize l * n % 18446744073709551616 = k at *
  have M1 := Lib.hid m1
  have M2 := Lib.hid m2
  have A0 := Lib.hid a0
  clear m1 m2 a0
  go_enter Try.func90, Try.ntmps90
  go_wp2_with fail
  refine (M1.out _).mono ?_
  rintro e' w1 ⟨rfl, rfl⟩
  go_wp2_with fail
  refine (M2.out _).mono ?_
  rintro e' w2 ⟨rfl, rfl⟩
  go_wp2_with (simp only [A0.out])
  go_returns
  exact ⟨rfl, by go_grown⟩
end Go.Proofs.Ytnacdofidmgfmaa
