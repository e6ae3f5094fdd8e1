/-
  The walk of the law LineRises. Conditions: the numbers are of 64 bits.
-/
import Derived.Test.YtldfkfienlcipaaLnW
import Derived.Test.YtldfkfienlcipaaLnG
namespace Go.Proofs.Ytldfkfienlcipaa
open Go.RowKit

set_option maxRecDepth 100000 in
set_option maxHeartbeats 8000000 in
theorem rises_walk (a r n d x mid y lo hi c p q m : Int) (w : World)
    (EN : ∀ W, Calls Try.prog 15 #[lnV a r n d, .int .i64 x, .int .i64 y] W (Ret W (.tuple #[spV lo hi, .int .i64 c])))
    (h0 : c ≠ 0 → lo = 0 ∧ hi = 0)
    (A1 : c = 0 → ∀ W, Calls Try.prog 14 #[lnV a r n d, .int .i64 x] W (Ret W (.tuple #[.int .i64 p, .int .i64 0])))
    (A2 : c = 0 → ∀ W, Calls Try.prog 14 #[lnV a r n d, .int .i64 y] W (Ret W (.tuple #[.int .i64 q, .int .i64 0])))
    (A3 : c = 0 → x ≤ mid → mid ≤ y → ∀ W, Calls Try.prog 14 #[lnV a r n d, .int .i64 mid] W (Ret W (.tuple #[.int .i64 m, .int .i64 0])))
    (h1 : c = 0 → (0 ≤ n → p ≤ q) ∧ (n ≤ 0 → q ≤ p) ∧ lo = min p q ∧ hi = max p q ∧ (x ≤ mid → mid ≤ y → lo ≤ m ∧ m ≤ hi)) :
    Calls Try.prog 6 #[lnV a r n d, .int .i64 x, .int .i64 mid, .int .i64 y] w (Ret w (.bool true)) := by
  have WK := Lib.hid (fun W => wakes_any W)
  replace EN := Lib.hid EN
  by_cases hc : c = 0
  · replace A1 := Lib.hid (A1 hc)
    replace A2 := Lib.hid (A2 hc)
    replace A3 := A3 hc
    obtain ⟨k1, k2, k3, k4, k5⟩ := h1 hc
    subst hc
    clear h0 h1
    have K := Lib.hid k5
    have ho : p < q ∧ lo = p ∧ hi = q ∧ 0 < n ∨ p = q ∧ lo = p ∧ hi = p ∨ q < p ∧ lo = q ∧ hi = p ∧ n < 0 := by
      rcases Int.lt_trichotomy p q with g | g | g
      · refine Or.inl ⟨g, by omega, by omega, ?_⟩
        by_cases gn : 0 < n
        · exact gn
        · have := k2 (by omega); omega
      · exact Or.inr (Or.inl ⟨g, by omega, by omega⟩)
      · refine Or.inr (Or.inr ⟨g, by omega, by omega, ?_⟩)
        by_cases gn : n < 0
        · exact gn
        · have := k1 (by omega); omega
    clear k1 k2 k3 k4 k5
    cases g1 : decide (mid < x)
    · cases g2 : decide (y < mid)
      · replace A3 := Lib.hid (A3 (by simpa using g1) (by simpa using g2))
        have M := K.out (by simpa using g1) (by simpa using g2)
        clear K
        rcases ho with ⟨o1, rfl, rfl, o2⟩ | ⟨rfl, rfl, rfl⟩ | ⟨o1, rfl, rfl, o2⟩
        · go_enter Try.func6, Try.ntmps6
          go_wp2_with fail
          refine (WK.out _).mono ?_
          rintro e w1 ⟨rfl, hb⟩
          have hHeld : Keeps w [(w.heap.size, 0, .int .i64 a), (w.heap.size, 1, .int .i64 r), (w.heap.size, 2, .int .i64 n), (w.heap.size, 3, .int .i64 d)] _ := Keeps.next (by refine ⟨by go_grown, ?_⟩; simp [Cells, go_sem]) hb
          clear hb
          obtain ⟨⟨kz0, kc0, kf0⟩, ⟨kz1, kc1, kf1⟩, ⟨kz2, kc2, kf2⟩, ⟨kz3, kc3, kf3⟩, _⟩ := hHeld.2
          go_wp2_with fail
          refine (EN.out _).mono ?_
          rintro e w2 ⟨rfl, hb⟩
          replace hHeld := Keeps.next (hHeld) hb
          clear hb kz0 kc0 kf0 kz1 kc1 kf1 kz2 kc2 kf2 kz3 kc3 kf3
          obtain ⟨⟨kz0, kc0, kf0⟩, ⟨kz1, kc1, kf1⟩, ⟨kz2, kc2, kf2⟩, ⟨kz3, kc3, kf3⟩, _⟩ := hHeld.2
          go_wp2_with fail
          refine (A1.out _).mono ?_
          rintro e w3 ⟨rfl, hb⟩
          replace hHeld : Keeps w [(w.heap.size, 0, .int .i64 a), (w.heap.size, 1, .int .i64 r), (w.heap.size, 2, .int .i64 n), (w.heap.size, 3, .int .i64 d), (w2.heap.size, 0, .int .i64 lo), (w2.heap.size, 1, .int .i64 hi)] _ := Keeps.next (((hHeld.alloc _).app (newK2 (hHeld.alloc _)))) hb
          clear hb kz0 kc0 kf0 kz1 kc1 kf1 kz2 kc2 kf2 kz3 kc3 kf3
          obtain ⟨⟨kz0, kc0, kf0⟩, ⟨kz1, kc1, kf1⟩, ⟨kz2, kc2, kf2⟩, ⟨kz3, kc3, kf3⟩, ⟨kz4, kc4, kf4⟩, ⟨kz5, kc5, kf5⟩, _⟩ := hHeld.2
          go_wp2_with fail
          refine (A2.out _).mono ?_
          rintro e w4 ⟨rfl, hb⟩
          replace hHeld := Keeps.next (hHeld) hb
          clear hb kz0 kc0 kf0 kz1 kc1 kf1 kz2 kc2 kf2 kz3 kc3 kf3 kz4 kc4 kf4 kz5 kc5 kf5
          obtain ⟨⟨kz0, kc0, kf0⟩, ⟨kz1, kc1, kf1⟩, ⟨kz2, kc2, kf2⟩, ⟨kz3, kc3, kf3⟩, ⟨kz4, kc4, kf4⟩, ⟨kz5, kc5, kf5⟩, _⟩ := hHeld.2
          go_wp2_with fail
          all_goals
            refine (A3.out _).mono ?_
            rintro e w5 ⟨rfl, hb⟩
            replace hHeld := Keeps.next (hHeld) hb
            clear hb kz0 kc0 kf0 kz1 kc1 kf1 kz2 kc2 kf2 kz3 kc3 kf3 kz4 kc4 kf4 kz5 kc5 kf5
            obtain ⟨⟨kz0, kc0, kf0⟩, ⟨kz1, kc1, kf1⟩, ⟨kz2, kc2, kf2⟩, ⟨kz3, kc3, kf3⟩, ⟨kz4, kc4, kf4⟩, ⟨kz5, kc5, kf5⟩, _⟩ := hHeld.2
            go_wp2_with fail
          all_goals
            go_ret
            refine ⟨congrArg (fun b => Ending.returned (Value.bool b)) ?_, hHeld.1⟩
            (simp at *) <;> omega
        · go_enter Try.func6, Try.ntmps6
          go_wp2_with fail
          refine (WK.out _).mono ?_
          rintro e w1 ⟨rfl, hb⟩
          have hHeld : Keeps w [(w.heap.size, 0, .int .i64 a), (w.heap.size, 1, .int .i64 r), (w.heap.size, 2, .int .i64 n), (w.heap.size, 3, .int .i64 d)] _ := Keeps.next (by refine ⟨by go_grown, ?_⟩; simp [Cells, go_sem]) hb
          clear hb
          obtain ⟨⟨kz0, kc0, kf0⟩, ⟨kz1, kc1, kf1⟩, ⟨kz2, kc2, kf2⟩, ⟨kz3, kc3, kf3⟩, _⟩ := hHeld.2
          go_wp2_with fail
          refine (EN.out _).mono ?_
          rintro e w2 ⟨rfl, hb⟩
          replace hHeld := Keeps.next (hHeld) hb
          clear hb kz0 kc0 kf0 kz1 kc1 kf1 kz2 kc2 kf2 kz3 kc3 kf3
          obtain ⟨⟨kz0, kc0, kf0⟩, ⟨kz1, kc1, kf1⟩, ⟨kz2, kc2, kf2⟩, ⟨kz3, kc3, kf3⟩, _⟩ := hHeld.2
          go_wp2_with fail
          refine (A1.out _).mono ?_
          rintro e w3 ⟨rfl, hb⟩
          replace hHeld : Keeps w [(w.heap.size, 0, .int .i64 a), (w.heap.size, 1, .int .i64 r), (w.heap.size, 2, .int .i64 n), (w.heap.size, 3, .int .i64 d), (w2.heap.size, 0, .int .i64 hi), (w2.heap.size, 1, .int .i64 hi)] _ := Keeps.next (((hHeld.alloc _).app (newK2 (hHeld.alloc _)))) hb
          clear hb kz0 kc0 kf0 kz1 kc1 kf1 kz2 kc2 kf2 kz3 kc3 kf3
          obtain ⟨⟨kz0, kc0, kf0⟩, ⟨kz1, kc1, kf1⟩, ⟨kz2, kc2, kf2⟩, ⟨kz3, kc3, kf3⟩, ⟨kz4, kc4, kf4⟩, ⟨kz5, kc5, kf5⟩, _⟩ := hHeld.2
          go_wp2_with fail
          refine (A2.out _).mono ?_
          rintro e w4 ⟨rfl, hb⟩
          replace hHeld := Keeps.next (hHeld) hb
          clear hb kz0 kc0 kf0 kz1 kc1 kf1 kz2 kc2 kf2 kz3 kc3 kf3 kz4 kc4 kf4 kz5 kc5 kf5
          obtain ⟨⟨kz0, kc0, kf0⟩, ⟨kz1, kc1, kf1⟩, ⟨kz2, kc2, kf2⟩, ⟨kz3, kc3, kf3⟩, ⟨kz4, kc4, kf4⟩, ⟨kz5, kc5, kf5⟩, _⟩ := hHeld.2
          go_wp2_with fail
          all_goals
            refine (A3.out _).mono ?_
            rintro e w5 ⟨rfl, hb⟩
            replace hHeld := Keeps.next (hHeld) hb
            clear hb kz0 kc0 kf0 kz1 kc1 kf1 kz2 kc2 kf2 kz3 kc3 kf3 kz4 kc4 kf4 kz5 kc5 kf5
            obtain ⟨⟨kz0, kc0, kf0⟩, ⟨kz1, kc1, kf1⟩, ⟨kz2, kc2, kf2⟩, ⟨kz3, kc3, kf3⟩, ⟨kz4, kc4, kf4⟩, ⟨kz5, kc5, kf5⟩, _⟩ := hHeld.2
            go_wp2_with fail
          all_goals
            go_ret
            refine ⟨congrArg (fun b => Ending.returned (Value.bool b)) ?_, hHeld.1⟩
            (simp at *) <;> omega
        · go_enter Try.func6, Try.ntmps6
          go_wp2_with fail
          refine (WK.out _).mono ?_
          rintro e w1 ⟨rfl, hb⟩
          have hHeld : Keeps w [(w.heap.size, 0, .int .i64 a), (w.heap.size, 1, .int .i64 r), (w.heap.size, 2, .int .i64 n), (w.heap.size, 3, .int .i64 d)] _ := Keeps.next (by refine ⟨by go_grown, ?_⟩; simp [Cells, go_sem]) hb
          clear hb
          obtain ⟨⟨kz0, kc0, kf0⟩, ⟨kz1, kc1, kf1⟩, ⟨kz2, kc2, kf2⟩, ⟨kz3, kc3, kf3⟩, _⟩ := hHeld.2
          go_wp2_with fail
          refine (EN.out _).mono ?_
          rintro e w2 ⟨rfl, hb⟩
          replace hHeld := Keeps.next (hHeld) hb
          clear hb kz0 kc0 kf0 kz1 kc1 kf1 kz2 kc2 kf2 kz3 kc3 kf3
          obtain ⟨⟨kz0, kc0, kf0⟩, ⟨kz1, kc1, kf1⟩, ⟨kz2, kc2, kf2⟩, ⟨kz3, kc3, kf3⟩, _⟩ := hHeld.2
          go_wp2_with fail
          refine (A1.out _).mono ?_
          rintro e w3 ⟨rfl, hb⟩
          replace hHeld : Keeps w [(w.heap.size, 0, .int .i64 a), (w.heap.size, 1, .int .i64 r), (w.heap.size, 2, .int .i64 n), (w.heap.size, 3, .int .i64 d), (w2.heap.size, 0, .int .i64 lo), (w2.heap.size, 1, .int .i64 hi)] _ := Keeps.next (((hHeld.alloc _).app (newK2 (hHeld.alloc _)))) hb
          clear hb kz0 kc0 kf0 kz1 kc1 kf1 kz2 kc2 kf2 kz3 kc3 kf3
          obtain ⟨⟨kz0, kc0, kf0⟩, ⟨kz1, kc1, kf1⟩, ⟨kz2, kc2, kf2⟩, ⟨kz3, kc3, kf3⟩, ⟨kz4, kc4, kf4⟩, ⟨kz5, kc5, kf5⟩, _⟩ := hHeld.2
          go_wp2_with fail
          refine (A2.out _).mono ?_
          rintro e w4 ⟨rfl, hb⟩
          replace hHeld := Keeps.next (hHeld) hb
          clear hb kz0 kc0 kf0 kz1 kc1 kf1 kz2 kc2 kf2 kz3 kc3 kf3 kz4 kc4 kf4 kz5 kc5 kf5
          obtain ⟨⟨kz0, kc0, kf0⟩, ⟨kz1, kc1, kf1⟩, ⟨kz2, kc2, kf2⟩, ⟨kz3, kc3, kf3⟩, ⟨kz4, kc4, kf4⟩, ⟨kz5, kc5, kf5⟩, _⟩ := hHeld.2
          go_wp2_with fail
          all_goals
            refine (A3.out _).mono ?_
            rintro e w5 ⟨rfl, hb⟩
            replace hHeld := Keeps.next (hHeld) hb
            clear hb kz0 kc0 kf0 kz1 kc1 kf1 kz2 kc2 kf2 kz3 kc3 kf3 kz4 kc4 kf4 kz5 kc5 kf5
            obtain ⟨⟨kz0, kc0, kf0⟩, ⟨kz1, kc1, kf1⟩, ⟨kz2, kc2, kf2⟩, ⟨kz3, kc3, kf3⟩, ⟨kz4, kc4, kf4⟩, ⟨kz5, kc5, kf5⟩, _⟩ := hHeld.2
            go_wp2_with fail
          all_goals
            go_ret
            refine ⟨congrArg (fun b => Ending.returned (Value.bool b)) ?_, hHeld.1⟩
            (simp at *) <;> omega
      · clear A3 K
        rcases ho with ⟨o1, rfl, rfl, o2⟩ | ⟨rfl, rfl, rfl⟩ | ⟨o1, rfl, rfl, o2⟩
        · go_enter Try.func6, Try.ntmps6
          go_wp2_with fail
          refine (WK.out _).mono ?_
          rintro e w1 ⟨rfl, hb⟩
          have hHeld : Keeps w [(w.heap.size, 0, .int .i64 a), (w.heap.size, 1, .int .i64 r), (w.heap.size, 2, .int .i64 n), (w.heap.size, 3, .int .i64 d)] _ := Keeps.next (by refine ⟨by go_grown, ?_⟩; simp [Cells, go_sem]) hb
          clear hb
          obtain ⟨⟨kz0, kc0, kf0⟩, ⟨kz1, kc1, kf1⟩, ⟨kz2, kc2, kf2⟩, ⟨kz3, kc3, kf3⟩, _⟩ := hHeld.2
          go_wp2_with fail
          refine (EN.out _).mono ?_
          rintro e w2 ⟨rfl, hb⟩
          replace hHeld := Keeps.next (hHeld) hb
          clear hb kz0 kc0 kf0 kz1 kc1 kf1 kz2 kc2 kf2 kz3 kc3 kf3
          obtain ⟨⟨kz0, kc0, kf0⟩, ⟨kz1, kc1, kf1⟩, ⟨kz2, kc2, kf2⟩, ⟨kz3, kc3, kf3⟩, _⟩ := hHeld.2
          go_wp2_with fail
          refine (A1.out _).mono ?_
          rintro e w3 ⟨rfl, hb⟩
          replace hHeld : Keeps w [(w.heap.size, 0, .int .i64 a), (w.heap.size, 1, .int .i64 r), (w.heap.size, 2, .int .i64 n), (w.heap.size, 3, .int .i64 d), (w2.heap.size, 0, .int .i64 lo), (w2.heap.size, 1, .int .i64 hi)] _ := Keeps.next (((hHeld.alloc _).app (newK2 (hHeld.alloc _)))) hb
          clear hb kz0 kc0 kf0 kz1 kc1 kf1 kz2 kc2 kf2 kz3 kc3 kf3
          obtain ⟨⟨kz0, kc0, kf0⟩, ⟨kz1, kc1, kf1⟩, ⟨kz2, kc2, kf2⟩, ⟨kz3, kc3, kf3⟩, ⟨kz4, kc4, kf4⟩, ⟨kz5, kc5, kf5⟩, _⟩ := hHeld.2
          go_wp2_with fail
          refine (A2.out _).mono ?_
          rintro e w4 ⟨rfl, hb⟩
          replace hHeld := Keeps.next (hHeld) hb
          clear hb kz0 kc0 kf0 kz1 kc1 kf1 kz2 kc2 kf2 kz3 kc3 kf3 kz4 kc4 kf4 kz5 kc5 kf5
          obtain ⟨⟨kz0, kc0, kf0⟩, ⟨kz1, kc1, kf1⟩, ⟨kz2, kc2, kf2⟩, ⟨kz3, kc3, kf3⟩, ⟨kz4, kc4, kf4⟩, ⟨kz5, kc5, kf5⟩, _⟩ := hHeld.2
          go_wp2_with fail
          all_goals
            go_ret
            refine ⟨congrArg (fun b => Ending.returned (Value.bool b)) ?_, hHeld.1⟩
            (simp at *) <;> omega
        · go_enter Try.func6, Try.ntmps6
          go_wp2_with fail
          refine (WK.out _).mono ?_
          rintro e w1 ⟨rfl, hb⟩
          have hHeld : Keeps w [(w.heap.size, 0, .int .i64 a), (w.heap.size, 1, .int .i64 r), (w.heap.size, 2, .int .i64 n), (w.heap.size, 3, .int .i64 d)] _ := Keeps.next (by refine ⟨by go_grown, ?_⟩; simp [Cells, go_sem]) hb
          clear hb
          obtain ⟨⟨kz0, kc0, kf0⟩, ⟨kz1, kc1, kf1⟩, ⟨kz2, kc2, kf2⟩, ⟨kz3, kc3, kf3⟩, _⟩ := hHeld.2
          go_wp2_with fail
          refine (EN.out _).mono ?_
          rintro e w2 ⟨rfl, hb⟩
          replace hHeld := Keeps.next (hHeld) hb
          clear hb kz0 kc0 kf0 kz1 kc1 kf1 kz2 kc2 kf2 kz3 kc3 kf3
          obtain ⟨⟨kz0, kc0, kf0⟩, ⟨kz1, kc1, kf1⟩, ⟨kz2, kc2, kf2⟩, ⟨kz3, kc3, kf3⟩, _⟩ := hHeld.2
          go_wp2_with fail
          refine (A1.out _).mono ?_
          rintro e w3 ⟨rfl, hb⟩
          replace hHeld : Keeps w [(w.heap.size, 0, .int .i64 a), (w.heap.size, 1, .int .i64 r), (w.heap.size, 2, .int .i64 n), (w.heap.size, 3, .int .i64 d), (w2.heap.size, 0, .int .i64 hi), (w2.heap.size, 1, .int .i64 hi)] _ := Keeps.next (((hHeld.alloc _).app (newK2 (hHeld.alloc _)))) hb
          clear hb kz0 kc0 kf0 kz1 kc1 kf1 kz2 kc2 kf2 kz3 kc3 kf3
          obtain ⟨⟨kz0, kc0, kf0⟩, ⟨kz1, kc1, kf1⟩, ⟨kz2, kc2, kf2⟩, ⟨kz3, kc3, kf3⟩, ⟨kz4, kc4, kf4⟩, ⟨kz5, kc5, kf5⟩, _⟩ := hHeld.2
          go_wp2_with fail
          refine (A2.out _).mono ?_
          rintro e w4 ⟨rfl, hb⟩
          replace hHeld := Keeps.next (hHeld) hb
          clear hb kz0 kc0 kf0 kz1 kc1 kf1 kz2 kc2 kf2 kz3 kc3 kf3 kz4 kc4 kf4 kz5 kc5 kf5
          obtain ⟨⟨kz0, kc0, kf0⟩, ⟨kz1, kc1, kf1⟩, ⟨kz2, kc2, kf2⟩, ⟨kz3, kc3, kf3⟩, ⟨kz4, kc4, kf4⟩, ⟨kz5, kc5, kf5⟩, _⟩ := hHeld.2
          go_wp2_with fail
          all_goals
            go_ret
            refine ⟨congrArg (fun b => Ending.returned (Value.bool b)) ?_, hHeld.1⟩
            (simp at *) <;> omega
        · go_enter Try.func6, Try.ntmps6
          go_wp2_with fail
          refine (WK.out _).mono ?_
          rintro e w1 ⟨rfl, hb⟩
          have hHeld : Keeps w [(w.heap.size, 0, .int .i64 a), (w.heap.size, 1, .int .i64 r), (w.heap.size, 2, .int .i64 n), (w.heap.size, 3, .int .i64 d)] _ := Keeps.next (by refine ⟨by go_grown, ?_⟩; simp [Cells, go_sem]) hb
          clear hb
          obtain ⟨⟨kz0, kc0, kf0⟩, ⟨kz1, kc1, kf1⟩, ⟨kz2, kc2, kf2⟩, ⟨kz3, kc3, kf3⟩, _⟩ := hHeld.2
          go_wp2_with fail
          refine (EN.out _).mono ?_
          rintro e w2 ⟨rfl, hb⟩
          replace hHeld := Keeps.next (hHeld) hb
          clear hb kz0 kc0 kf0 kz1 kc1 kf1 kz2 kc2 kf2 kz3 kc3 kf3
          obtain ⟨⟨kz0, kc0, kf0⟩, ⟨kz1, kc1, kf1⟩, ⟨kz2, kc2, kf2⟩, ⟨kz3, kc3, kf3⟩, _⟩ := hHeld.2
          go_wp2_with fail
          refine (A1.out _).mono ?_
          rintro e w3 ⟨rfl, hb⟩
          replace hHeld : Keeps w [(w.heap.size, 0, .int .i64 a), (w.heap.size, 1, .int .i64 r), (w.heap.size, 2, .int .i64 n), (w.heap.size, 3, .int .i64 d), (w2.heap.size, 0, .int .i64 lo), (w2.heap.size, 1, .int .i64 hi)] _ := Keeps.next (((hHeld.alloc _).app (newK2 (hHeld.alloc _)))) hb
          clear hb kz0 kc0 kf0 kz1 kc1 kf1 kz2 kc2 kf2 kz3 kc3 kf3
          obtain ⟨⟨kz0, kc0, kf0⟩, ⟨kz1, kc1, kf1⟩, ⟨kz2, kc2, kf2⟩, ⟨kz3, kc3, kf3⟩, ⟨kz4, kc4, kf4⟩, ⟨kz5, kc5, kf5⟩, _⟩ := hHeld.2
          go_wp2_with fail
          refine (A2.out _).mono ?_
          rintro e w4 ⟨rfl, hb⟩
          replace hHeld := Keeps.next (hHeld) hb
          clear hb kz0 kc0 kf0 kz1 kc1 kf1 kz2 kc2 kf2 kz3 kc3 kf3 kz4 kc4 kf4 kz5 kc5 kf5
          obtain ⟨⟨kz0, kc0, kf0⟩, ⟨kz1, kc1, kf1⟩, ⟨kz2, kc2, kf2⟩, ⟨kz3, kc3, kf3⟩, ⟨kz4, kc4, kf4⟩, ⟨kz5, kc5, kf5⟩, _⟩ := hHeld.2
          go_wp2_with fail
          all_goals
            go_ret
            refine ⟨congrArg (fun b => Ending.returned (Value.bool b)) ?_, hHeld.1⟩
            (simp at *) <;> omega
    · clear A3 K
      rcases ho with ⟨o1, rfl, rfl, o2⟩ | ⟨rfl, rfl, rfl⟩ | ⟨o1, rfl, rfl, o2⟩
      · go_enter Try.func6, Try.ntmps6
        go_wp2_with fail
        refine (WK.out _).mono ?_
        rintro e w1 ⟨rfl, hb⟩
        have hHeld : Keeps w [(w.heap.size, 0, .int .i64 a), (w.heap.size, 1, .int .i64 r), (w.heap.size, 2, .int .i64 n), (w.heap.size, 3, .int .i64 d)] _ := Keeps.next (by refine ⟨by go_grown, ?_⟩; simp [Cells, go_sem]) hb
        clear hb
        obtain ⟨⟨kz0, kc0, kf0⟩, ⟨kz1, kc1, kf1⟩, ⟨kz2, kc2, kf2⟩, ⟨kz3, kc3, kf3⟩, _⟩ := hHeld.2
        go_wp2_with fail
        refine (EN.out _).mono ?_
        rintro e w2 ⟨rfl, hb⟩
        replace hHeld := Keeps.next (hHeld) hb
        clear hb kz0 kc0 kf0 kz1 kc1 kf1 kz2 kc2 kf2 kz3 kc3 kf3
        obtain ⟨⟨kz0, kc0, kf0⟩, ⟨kz1, kc1, kf1⟩, ⟨kz2, kc2, kf2⟩, ⟨kz3, kc3, kf3⟩, _⟩ := hHeld.2
        go_wp2_with fail
        refine (A1.out _).mono ?_
        rintro e w3 ⟨rfl, hb⟩
        replace hHeld : Keeps w [(w.heap.size, 0, .int .i64 a), (w.heap.size, 1, .int .i64 r), (w.heap.size, 2, .int .i64 n), (w.heap.size, 3, .int .i64 d), (w2.heap.size, 0, .int .i64 lo), (w2.heap.size, 1, .int .i64 hi)] _ := Keeps.next (((hHeld.alloc _).app (newK2 (hHeld.alloc _)))) hb
        clear hb kz0 kc0 kf0 kz1 kc1 kf1 kz2 kc2 kf2 kz3 kc3 kf3
        obtain ⟨⟨kz0, kc0, kf0⟩, ⟨kz1, kc1, kf1⟩, ⟨kz2, kc2, kf2⟩, ⟨kz3, kc3, kf3⟩, ⟨kz4, kc4, kf4⟩, ⟨kz5, kc5, kf5⟩, _⟩ := hHeld.2
        go_wp2_with fail
        refine (A2.out _).mono ?_
        rintro e w4 ⟨rfl, hb⟩
        replace hHeld := Keeps.next (hHeld) hb
        clear hb kz0 kc0 kf0 kz1 kc1 kf1 kz2 kc2 kf2 kz3 kc3 kf3 kz4 kc4 kf4 kz5 kc5 kf5
        obtain ⟨⟨kz0, kc0, kf0⟩, ⟨kz1, kc1, kf1⟩, ⟨kz2, kc2, kf2⟩, ⟨kz3, kc3, kf3⟩, ⟨kz4, kc4, kf4⟩, ⟨kz5, kc5, kf5⟩, _⟩ := hHeld.2
        go_wp2_with fail
        all_goals
          go_ret
          refine ⟨congrArg (fun b => Ending.returned (Value.bool b)) ?_, hHeld.1⟩
          (simp at *) <;> omega
      · go_enter Try.func6, Try.ntmps6
        go_wp2_with fail
        refine (WK.out _).mono ?_
        rintro e w1 ⟨rfl, hb⟩
        have hHeld : Keeps w [(w.heap.size, 0, .int .i64 a), (w.heap.size, 1, .int .i64 r), (w.heap.size, 2, .int .i64 n), (w.heap.size, 3, .int .i64 d)] _ := Keeps.next (by refine ⟨by go_grown, ?_⟩; simp [Cells, go_sem]) hb
        clear hb
        obtain ⟨⟨kz0, kc0, kf0⟩, ⟨kz1, kc1, kf1⟩, ⟨kz2, kc2, kf2⟩, ⟨kz3, kc3, kf3⟩, _⟩ := hHeld.2
        go_wp2_with fail
        refine (EN.out _).mono ?_
        rintro e w2 ⟨rfl, hb⟩
        replace hHeld := Keeps.next (hHeld) hb
        clear hb kz0 kc0 kf0 kz1 kc1 kf1 kz2 kc2 kf2 kz3 kc3 kf3
        obtain ⟨⟨kz0, kc0, kf0⟩, ⟨kz1, kc1, kf1⟩, ⟨kz2, kc2, kf2⟩, ⟨kz3, kc3, kf3⟩, _⟩ := hHeld.2
        go_wp2_with fail
        refine (A1.out _).mono ?_
        rintro e w3 ⟨rfl, hb⟩
        replace hHeld : Keeps w [(w.heap.size, 0, .int .i64 a), (w.heap.size, 1, .int .i64 r), (w.heap.size, 2, .int .i64 n), (w.heap.size, 3, .int .i64 d), (w2.heap.size, 0, .int .i64 hi), (w2.heap.size, 1, .int .i64 hi)] _ := Keeps.next (((hHeld.alloc _).app (newK2 (hHeld.alloc _)))) hb
        clear hb kz0 kc0 kf0 kz1 kc1 kf1 kz2 kc2 kf2 kz3 kc3 kf3
        obtain ⟨⟨kz0, kc0, kf0⟩, ⟨kz1, kc1, kf1⟩, ⟨kz2, kc2, kf2⟩, ⟨kz3, kc3, kf3⟩, ⟨kz4, kc4, kf4⟩, ⟨kz5, kc5, kf5⟩, _⟩ := hHeld.2
        go_wp2_with fail
        refine (A2.out _).mono ?_
        rintro e w4 ⟨rfl, hb⟩
        replace hHeld := Keeps.next (hHeld) hb
        clear hb kz0 kc0 kf0 kz1 kc1 kf1 kz2 kc2 kf2 kz3 kc3 kf3 kz4 kc4 kf4 kz5 kc5 kf5
        obtain ⟨⟨kz0, kc0, kf0⟩, ⟨kz1, kc1, kf1⟩, ⟨kz2, kc2, kf2⟩, ⟨kz3, kc3, kf3⟩, ⟨kz4, kc4, kf4⟩, ⟨kz5, kc5, kf5⟩, _⟩ := hHeld.2
        go_wp2_with fail
        all_goals
          go_ret
          refine ⟨congrArg (fun b => Ending.returned (Value.bool b)) ?_, hHeld.1⟩
          (simp at *) <;> omega
      · go_enter Try.func6, Try.ntmps6
        go_wp2_with fail
        refine (WK.out _).mono ?_
        rintro e w1 ⟨rfl, hb⟩
        have hHeld : Keeps w [(w.heap.size, 0, .int .i64 a), (w.heap.size, 1, .int .i64 r), (w.heap.size, 2, .int .i64 n), (w.heap.size, 3, .int .i64 d)] _ := Keeps.next (by refine ⟨by go_grown, ?_⟩; simp [Cells, go_sem]) hb
        clear hb
        obtain ⟨⟨kz0, kc0, kf0⟩, ⟨kz1, kc1, kf1⟩, ⟨kz2, kc2, kf2⟩, ⟨kz3, kc3, kf3⟩, _⟩ := hHeld.2
        go_wp2_with fail
        refine (EN.out _).mono ?_
        rintro e w2 ⟨rfl, hb⟩
        replace hHeld := Keeps.next (hHeld) hb
        clear hb kz0 kc0 kf0 kz1 kc1 kf1 kz2 kc2 kf2 kz3 kc3 kf3
        obtain ⟨⟨kz0, kc0, kf0⟩, ⟨kz1, kc1, kf1⟩, ⟨kz2, kc2, kf2⟩, ⟨kz3, kc3, kf3⟩, _⟩ := hHeld.2
        go_wp2_with fail
        refine (A1.out _).mono ?_
        rintro e w3 ⟨rfl, hb⟩
        replace hHeld : Keeps w [(w.heap.size, 0, .int .i64 a), (w.heap.size, 1, .int .i64 r), (w.heap.size, 2, .int .i64 n), (w.heap.size, 3, .int .i64 d), (w2.heap.size, 0, .int .i64 lo), (w2.heap.size, 1, .int .i64 hi)] _ := Keeps.next (((hHeld.alloc _).app (newK2 (hHeld.alloc _)))) hb
        clear hb kz0 kc0 kf0 kz1 kc1 kf1 kz2 kc2 kf2 kz3 kc3 kf3
        obtain ⟨⟨kz0, kc0, kf0⟩, ⟨kz1, kc1, kf1⟩, ⟨kz2, kc2, kf2⟩, ⟨kz3, kc3, kf3⟩, ⟨kz4, kc4, kf4⟩, ⟨kz5, kc5, kf5⟩, _⟩ := hHeld.2
        go_wp2_with fail
        refine (A2.out _).mono ?_
        rintro e w4 ⟨rfl, hb⟩
        replace hHeld := Keeps.next (hHeld) hb
        clear hb kz0 kc0 kf0 kz1 kc1 kf1 kz2 kc2 kf2 kz3 kc3 kf3 kz4 kc4 kf4 kz5 kc5 kf5
        obtain ⟨⟨kz0, kc0, kf0⟩, ⟨kz1, kc1, kf1⟩, ⟨kz2, kc2, kf2⟩, ⟨kz3, kc3, kf3⟩, ⟨kz4, kc4, kf4⟩, ⟨kz5, kc5, kf5⟩, _⟩ := hHeld.2
        go_wp2_with fail
        all_goals
          go_ret
          refine ⟨congrArg (fun b => Ending.returned (Value.bool b)) ?_, hHeld.1⟩
          (simp at *) <;> omega
  · obtain ⟨rfl, rfl⟩ := h0 hc
    have e3 : (c == 0) = false := by simpa using hc
    clear h1 h0 A1 A2 A3 hc
    go_enter Try.func6, Try.ntmps6
    go_wp2_with fail
    refine (WK.out _).mono ?_
    rintro e w1 ⟨rfl, hb⟩
    have hHeld : Keeps w [(w.heap.size, 0, .int .i64 a), (w.heap.size, 1, .int .i64 r), (w.heap.size, 2, .int .i64 n), (w.heap.size, 3, .int .i64 d)] _ := Keeps.next (by refine ⟨by go_grown, ?_⟩; simp [Cells, go_sem]) hb
    clear hb
    obtain ⟨⟨kz0, kc0, kf0⟩, ⟨kz1, kc1, kf1⟩, ⟨kz2, kc2, kf2⟩, ⟨kz3, kc3, kf3⟩, _⟩ := hHeld.2
    go_wp2_with fail
    refine (EN.out _).mono ?_
    rintro e w2 ⟨rfl, hb⟩
    replace hHeld := Keeps.next (hHeld) hb
    clear hb kz0 kc0 kf0 kz1 kc1 kf1 kz2 kc2 kf2 kz3 kc3 kf3
    obtain ⟨⟨kz0, kc0, kf0⟩, ⟨kz1, kc1, kf1⟩, ⟨kz2, kc2, kf2⟩, ⟨kz3, kc3, kf3⟩, _⟩ := hHeld.2
    go_wp2_with fail
    go_ret
    exact ⟨rfl, (hHeld.alloc _).1⟩
theorem rises_any (a r n d x mid y : Int) (w : World) : Calls Try.prog 6 #[lnV a r n d, .int .i64 x, .int .i64 mid, .int .i64 y] w (Ret w (.bool true)) := by
  have main : ∀ lo hi c, (lineB a r n d = false ∧ lo = 0 ∧ hi = 0 ∧ c = 150 ∨ lineB a r n d = true ∧ EndsI x y (atQ a r n d x) (atE a r n d x) (atQ a r n d y) (atE a r n d y) lo hi c) →
      Calls Try.prog 6 #[lnV a r n d, .int .i64 x, .int .i64 mid, .int .i64 y] w (Ret w (.bool true)) := by
    intro lo hi c H
    have tl : lineB a r n d = true → ∀ t, tlQ a r n d t = atQ a r n d t ∧ tlE a r n d t = atE a r n d t := by
      intro h t
      unfold tlQ tlE
      rw [if_pos h, if_pos h]
      exact ⟨rfl, rfl⟩
    have fact : c = 0 → lineB a r n d = true ∧ timeB x = true ∧ timeB y = true ∧ x ≤ y ∧ atE a r n d x = 0 ∧ atE a r n d y = 0 ∧ lo = min (atQ a r n d x) (atQ a r n d y) ∧ hi = max (atQ a r n d x) (atQ a r n d y) := by
      intro hc
      rcases H with ⟨_, _, _, g⟩ | ⟨h, ⟨_, _, _, g⟩ | ⟨t1, t2, t3, ⟨g1, _, _, g⟩ | ⟨_, g1, _, _, g⟩ | ⟨g1, g2, g3, g4, _⟩⟩⟩
      · omega
      · omega
      · omega
      · omega
      · exact ⟨h, t1, t2, t3, g1, g2, g3, g4⟩
    have told : lineB a r n d = true → ∀ t, timeB t = true → atE a r n d t = 0 → atQ a r n d t = exV a r n d t / d ∧ backB (exV a r n d t / d) = true := by
      intro h t ht he
      have T := at_told a r n d t
      rw [(tl h t).1, (tl h t).2] at T
      rcases T with ⟨g, _⟩ | ⟨_, g, _⟩ | ⟨_, _, _, _, g⟩ | ⟨_, _, g1, g2, _⟩
      · rw [h] at g; cases g
      · rw [ht] at g; cases g
      · omega
      · exact ⟨g2, g1⟩
    have mono : lineB a r n d = true → ∀ s t, s ≤ t → (0 ≤ n → exV a r n d s / d ≤ exV a r n d t / d) ∧ (n ≤ 0 → exV a r n d t / d ≤ exV a r n d s / d) := by
      intro h s t hst
      have dp := ((slopeB_iff _ _).1 ((lineB_iff _ _ _ _).1 h).1).2.2.1
      constructor
      · intro hn
        refine Int.ediv_le_ediv (by omega) ?_
        have := Int.mul_le_mul_of_nonneg_left hst hn
        unfold exV
        omega
      · intro hn
        refine Int.ediv_le_ediv (by omega) ?_
        have := Int.mul_le_mul_of_nonpos_left hn hst
        unfold exV
        omega
    have midok : c = 0 → x ≤ mid → mid ≤ y → atE a r n d mid = 0 ∧ lo ≤ atQ a r n d mid ∧ atQ a r n d mid ≤ hi := by
      intro hc g1 g2
      obtain ⟨h, t1, t2, t3, e1, e2, e3, e4⟩ := fact hc
      have q1 := told h x t1 e1
      have q2 := told h y t2 e2
      have m1 := mono h x mid g1
      have m2 := mono h mid y g2
      have b1 := (backB_iff _).1 q1.2
      have b2 := (backB_iff _).1 q2.2
      have tm : timeB mid = true := by
        have := (timeB_iff _).1 t1
        have := (timeB_iff _).1 t2
        exact (timeB_iff _).2 (by omega)
      have bm : backB (exV a r n d mid / d) = true := by
        rw [backB_iff]
        by_cases hn : 0 ≤ n
        · have := m1.1 hn; have := m2.1 hn; omega
        · have := m1.2 (by omega); have := m2.2 (by omega); omega
      have T := at_told a r n d mid
      rw [(tl h mid).1, (tl h mid).2] at T
      rcases T with ⟨g, _⟩ | ⟨_, g, _⟩ | ⟨_, _, g, _⟩ | ⟨_, _, _, g3, g4⟩
      · rw [h] at g; cases g
      · rw [tm] at g; cases g
      · rw [bm] at g; cases g
      · refine ⟨g4, ?_⟩
        rw [g3, e3, e4, q1.1, q2.1]
        by_cases hn : 0 ≤ n
        · have := m1.1 hn; have := m2.1 hn; omega
        · have := m1.2 (by omega); have := m2.2 (by omega); omega
    refine rises_walk a r n d x mid y lo hi c (atQ a r n d x) (atQ a r n d y) (atQ a r n d mid) w (fun W => ends_any a r n d x y lo hi c H W) ?_ ?_ ?_ ?_ ?_
    · intro hc
      rcases H with ⟨_, g1, g2, _⟩ | ⟨h, ⟨_, g1, g2, _⟩ | ⟨t1, t2, t3, ⟨_, g1, g2, _⟩ | ⟨_, _, g1, g2, _⟩ | ⟨_, _, _, _, g⟩⟩⟩
      · exact ⟨g1, g2⟩
      · exact ⟨g1, g2⟩
      · exact ⟨g1, g2⟩
      · exact ⟨g1, g2⟩
      · exact absurd g hc
    · intro hc W
      obtain ⟨h, t1, t2, t3, e1, e2, e3, e4⟩ := fact hc
      have := at_any a r n d x W
      rwa [(tl h x).1, (tl h x).2, e1] at this
    · intro hc W
      obtain ⟨h, t1, t2, t3, e1, e2, e3, e4⟩ := fact hc
      have := at_any a r n d y W
      rwa [(tl h y).1, (tl h y).2, e2] at this
    · intro hc g1 g2 W
      obtain ⟨h, _⟩ := fact hc
      have := at_any a r n d mid W
      rwa [(tl h mid).1, (tl h mid).2, (midok hc g1 g2).1] at this
    · intro hc
      obtain ⟨h, t1, t2, t3, e1, e2, e3, e4⟩ := fact hc
      have m := mono h x y t3
      rw [(told h x t1 e1).1, (told h y t2 e2).1] at *
      exact ⟨m.1, m.2, e3, e4, fun g1 g2 => (midok hc g1 g2).2⟩
  by_cases h : lineB a r n d = true
  · by_cases t : timeB x = true ∧ timeB y = true ∧ x ≤ y
    · by_cases e1 : atE a r n d x = 0
      · by_cases e2 : atE a r n d y = 0
        · exact main _ _ _ (Or.inr ⟨h, Or.inr ⟨t.1, t.2.1, t.2.2, Or.inr (Or.inr ⟨e1, e2, rfl, rfl, rfl⟩)⟩⟩)
        · exact main _ _ _ (Or.inr ⟨h, Or.inr ⟨t.1, t.2.1, t.2.2, Or.inr (Or.inl ⟨e1, e2, rfl, rfl, rfl⟩)⟩⟩)
      · exact main _ _ _ (Or.inr ⟨h, Or.inr ⟨t.1, t.2.1, t.2.2, Or.inl ⟨e1, rfl, rfl, rfl⟩⟩⟩)
    · refine main 0 0 2 (Or.inr ⟨h, Or.inl ⟨?_, rfl, rfl, rfl⟩⟩)
      by_cases t1 : timeB x = true
      · by_cases t2 : timeB y = true
        · exact Or.inr (Or.inr (by by_cases g : y < x; exact g; exact absurd ⟨t1, t2, by omega⟩ t))
        · exact Or.inr (Or.inl (by simpa using t2))
      · exact Or.inl (by simpa using t1)
  · exact main 0 0 150 (Or.inl ⟨by simpa using h, rfl, rfl, rfl⟩)
end Go.Proofs.Ytldfkfienlcipaa
