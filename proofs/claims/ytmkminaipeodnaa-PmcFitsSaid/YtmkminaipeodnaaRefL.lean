/-
  The document's own answers, twelfth part: Int, Same, Fits, Value. Conditions: those written at each fact.
-/
import Derived.Test.YtmkminaipeodnaaRefK
namespace Go.Proofs.Ytmkminaipeodnaa
open Go.RowKit

theorem numZ_neg {w : World} {A : Option Addr} {n c x : Nat} (hx : x ≠ 0) (h : Num w (.slice A n c) x) : NumZ w (.agg #[.bool true, .slice A n c]) (-(x : Int)) :=
  ⟨_, by rw [decide_eq_true (show -(x : Int) < 0 by omega)], by rw [Int.natAbs_neg, Int.natAbs_natCast]; exact h⟩
set_option maxRecDepth 100000 in
set_option maxHeartbeats 2000000 in
theorem int_pos (u : Nat) (hu : u ≤ 9223372036854775807) (w : World) : Calls Try.prog 46 #[.int .i64 u] w (RetZ w (u : Int)) := by
  have S := Lib.hid (fun W => (size_any u (by omega) W).mono fun _ _ h => retN_of h.gave)
  have M := Lib.hid (fun (s : Value) (W : World) (k : Num W s u) => made2_any (u : Int) false u (Int.natAbs_natCast u) (by rw [sgn_nat]; rfl) s W k)
  have g : ¬ (u : Int) < 0 := by omega
  have hu' : (u : Int) ≤ 9223372036854775807 := by omega
  generalize hz : (u : Int) = z at *
  have g0 : 0 ≤ z := by omega
  clear hz hu
  go_enter Try.func46, Try.ntmps46
  go_wp2_with fail
  refine (S.out _).mono ?_
  rintro e w1 ⟨A, n, c, rfl, hb1, hn1⟩
  have c0 : w1.cell? ⟨w.heap.size, 0, none⟩ = some (.bool false) := (hb1.cell (p := ⟨w.heap.size, 0, none⟩) (by simp)).trans (by simp [go_sem])
  have c1 : w1.cell? ⟨w.heap.size, 1, none⟩ = some (.slice none 0 0) := (hb1.cell (p := ⟨w.heap.size, 1, none⟩) (by simp)).trans (by simp [go_sem])
  have f0 : w1.frozen? ⟨w.heap.size, 0, none⟩ = false := (hb1.frozen (p := ⟨w.heap.size, 0, none⟩) (by simp)).trans (by simp [go_sem])
  have f1 : w1.frozen? ⟨w.heap.size, 1, none⟩ = false := (hb1.frozen (p := ⟨w.heap.size, 1, none⟩) (by simp)).trans (by simp [go_sem])
  have z1 : w.heap.size < w1.heap.size := by have := hb1.size; simp at this; omega
  have HB := Lib.hid (below_thru (below_alloc w _) hb1)
  have HN := Lib.hid hn1
  clear hb1 hn1
  go_wp2_with fail
  refine (M.out _ _ HN.out).mono ?_
  rintro e w2 ⟨b6, A6, n6, c6, rfl, hb2, hz6⟩
  have t0c0 : w2.cell? ⟨w.heap.size, 0, none⟩ = some (.bool false) := (hb2.cell (p := ⟨w.heap.size, 0, none⟩) z1).trans c0
  have t0c1 : w2.cell? ⟨w.heap.size, 1, none⟩ = some (.slice none 0 0) := (hb2.cell (p := ⟨w.heap.size, 1, none⟩) z1).trans c1
  have k0 : w2.frozen? ⟨w.heap.size, 0, none⟩ = false := (hb2.frozen (p := ⟨w.heap.size, 0, none⟩) z1).trans f0
  have k1 : w2.frozen? ⟨w.heap.size, 1, none⟩ = false := (hb2.frozen (p := ⟨w.heap.size, 1, none⟩) z1).trans f1
  have HB2 := Lib.hid (below_thru HB.out hb2)
  clear hb2 c0 c1 f0 f1
  go_wp2_with fail
  obtain ⟨d0, d1⟩ := set2 (W := w2) (B := w.heap.size) (u0 := .bool b6) (u1 := .slice A6 n6 c6) t0c0 t0c1
  refine bodyPost_ret (v := .agg #[.bool b6, .slice A6 n6 c6]) (by simp [results, Try.results46, go_sem, d0, d1]) rfl ?_
  exact ⟨b6, A6, n6, c6, rfl, (HB2.out.setCell (p := ⟨w.heap.size, 0, none⟩) (by simp) _).setCell (p := ⟨w.heap.size, 1, none⟩) (by simp) _, hz6.set2 t0c0 t0c1 _ _⟩
set_option maxRecDepth 100000 in
set_option maxHeartbeats 2000000 in
theorem int_neg (z : Int) (h1 : -9223372036854775808 ≤ z) (h2 : z < 0) (w : World) : Calls Try.prog 46 #[.int .i64 z] w (RetZ w z) := by
  obtain ⟨u, hu⟩ : ∃ u : Nat, z + 18446744073709551616 = (u : Int) := ⟨(z + 18446744073709551616).toNat, by omega⟩
  have S := Lib.hid (fun W => (size_any u (by omega) W).mono fun _ _ h => retN_of h.gave)
  have P := Lib.hid (fun W => (power_any 64 (by decide) W).mono fun _ _ h => retN_of h.gave)
  have N := Lib.hid (fun (a b : Value) (W : World) (ka : Num W a (2 ^ 64)) (kb : Num W b u) => (minus_any (2 ^ 64) u (by have := size_pow 64; omega) (by omega) a b W ka kb).mono fun _ _ h => retN_of h)
  have hx : z.natAbs = 2 ^ 64 - u := by omega
  have M := Lib.hid (fun (s : Value) (W : World) (k : Num W s (2 ^ 64 - u)) => made2_any z true (2 ^ 64 - u) hx (by rw [decide_eq_true h2, decide_eq_true (show 2 ^ 64 - u ≠ 0 by omega)]; rfl) s W k)
  have e1 : IntKind.u64.wrap z = (u : Int) := by rw [IntKind.wrap_u64]; omega
  have e2 : z % 18446744073709551616 = (u : Int) := by omega
  generalize 2 ^ 64 - u = m at *
  generalize 2 ^ 64 = pw at *
  clear hu hx
  go_enter Try.func46, Try.ntmps46
  go_wp2_with fail
  refine (S.out _).mono ?_
  rintro e w1 ⟨A, n, c, rfl, hb1, hn1⟩
  have hHeld : Keeps w [(w.heap.size, 0, .bool false), (w.heap.size, 1, .slice none 0 0)] w1 := Keeps.next (by refine ⟨by go_grown, ?_⟩; simp [Cells, go_sem]) hb1
  have HN := Lib.hid hn1
  clear hb1 hn1
  obtain ⟨⟨kz0, kc0, kf0⟩, ⟨kz1, kc1, kf1⟩, _⟩ := hHeld.2
  go_wp2_with fail
  refine (P.out _).mono ?_
  rintro e w2 ⟨A2, n2, c2, rfl, hb2, hn2⟩
  have HN1 := Lib.hid (HN.out.below hb2)
  have HN2 := Lib.hid hn2
  replace hHeld := hHeld.next hb2
  clear hb2 hn2 kz0 kc0 kf0 kz1 kc1 kf1 HN
  obtain ⟨⟨kz0, kc0, kf0⟩, ⟨kz1, kc1, kf1⟩, _⟩ := hHeld.2
  go_wp2_with fail
  refine (N.out _ _ _ HN2.out HN1.out).mono ?_
  rintro e w3 ⟨A3, n3, c3, rfl, hb3, hn3⟩
  have HN3 := Lib.hid hn3
  replace hHeld := hHeld.next hb3
  clear hb3 hn3 kz0 kc0 kf0 kz1 kc1 kf1 HN1 HN2
  obtain ⟨⟨kz0, kc0, kf0⟩, ⟨kz1, kc1, kf1⟩, _⟩ := hHeld.2
  go_wp2_with fail
  refine (M.out _ _ HN3.out).mono ?_
  rintro e w4 ⟨b6, A6, n6, c6, rfl, hb4, hz6⟩
  replace hHeld := hHeld.next hb4
  clear hb4 kz0 kc0 kf0 kz1 kc1 kf1 HN3
  obtain ⟨⟨kz0, kc0, kf0⟩, ⟨kz1, kc1, kf1⟩, _⟩ := hHeld.2
  go_wp2_with fail
  obtain ⟨d0, d1⟩ := set2 (W := w4) (B := w.heap.size) (u0 := .bool b6) (u1 := .slice A6 n6 c6) kc0 kc1
  refine bodyPost_ret (v := .agg #[.bool b6, .slice A6 n6 c6]) (by simp [results, Try.results46, go_sem, d0, d1]) rfl ?_
  exact ⟨b6, A6, n6, c6, rfl, (hHeld.1.setCell (p := ⟨w.heap.size, 0, none⟩) (by simp) _).setCell (p := ⟨w.heap.size, 1, none⟩) (by simp) _, hz6.set2 kc0 kc1 _ _⟩
theorem intZ_any (z : Int) (h1 : -9223372036854775808 ≤ z) (h2 : z ≤ 9223372036854775807) (w : World) : Calls Try.prog 46 #[.int .i64 z] w (RetZ w z) := by
  by_cases g : z < 0
  · exact int_neg z h1 g w
  · obtain ⟨u, rfl⟩ := Int.eq_ofNat_of_zero_le (show 0 ≤ z by omega)
    exact int_pos u (by omega) w

end Go.Proofs.Ytmkminaipeodnaa
