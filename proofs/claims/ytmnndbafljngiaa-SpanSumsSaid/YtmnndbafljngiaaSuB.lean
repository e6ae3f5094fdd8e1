/-
  The document's own answer to Times. Conditions: those written at each fact.
-/
import Derived.Test.YtmnndbafljngiaaSrB
namespace Go.Proofs.Ytmnndbafljngiaa
open Go.RowKit

theorem mul_len (x y : Int) (hx : (sizeL x.natAbs).length ≤ 64) (hy : (sizeL y.natAbs).length ≤ 64) : (sizeL (x * y).natAbs).length ≤ 3990 := by
  rw [Int.natAbs_mul]
  have := size_mul x.natAbs y.natAbs
  omega
set_option maxRecDepth 100000 in
set_option maxHeartbeats 4000000 in
theorem refTimes_any (lo hi n : Int) (l1 : -9223372036854775808 ≤ lo) (l2 : lo ≤ 9223372036854775807) (h1 : -9223372036854775808 ≤ hi) (h2 : hi ≤ 9223372036854775807) (n1 : -9223372036854775808 ≤ n) (n2 : n ≤ 9223372036854775807) (q0 q1 : Int) (b : Bool)
    (OF : ∀ u u' w, NumZ w u (if n < 0 then hi * n else lo * n) → NumZ w u' (if n < 0 then lo * n else hi * n) → Calls Try.prog 65 #[u, u'] w (Ret w (.tuple #[spV q0 q1, .bool b]))) (w : World) :
    Calls Try.prog 37 #[spV lo hi, .int .i64 n] w (Ret w (.tuple #[spV q0 q1, .bool b])) := by
  have ll := i64_len lo l1 l2
  have lh := i64_len hi h1 h2
  have ln := i64_len n n1 n2
  have IL := Lib.hid (fun W => intZ_any lo l1 l2 W)
  have IH := Lib.hid (fun W => intZ_any hi h1 h2 W)
  have IN := Lib.hid (fun W => intZ_any n n1 n2 W)
  have ML := Lib.hid (fun u u' W k k' => mulZ_any lo n (by omega) u u' W k k')
  have MH := Lib.hid (fun u u' W k k' => mulZ_any hi n (by omega) u u' W k k')
  have hOF : (n < 0 ∧ ∀ u u' w, NumZ w u (hi * n) → NumZ w u' (lo * n) → Calls Try.prog 65 #[u, u'] w (Ret w (.tuple #[spV q0 q1, .bool b]))) ∨ (¬ n < 0 ∧ ∀ u u' w, NumZ w u (lo * n) → NumZ w u' (hi * n) → Calls Try.prog 65 #[u, u'] w (Ret w (.tuple #[spV q0 q1, .bool b]))) := by
    by_cases g : n < 0
    · rw [if_pos g, if_pos g] at OF; exact Or.inl ⟨g, OF⟩
    · rw [if_neg g, if_neg g] at OF; exact Or.inr ⟨g, OF⟩
  clear OF l1 l2 h1 h2 n1 n2 ll lh ln
  generalize lo * n = x at *
  generalize hi * n = y at *
  rcases hOF with ⟨g, OF⟩ | ⟨g, OF⟩
  · replace OF := Lib.hid OF
    go_enter Try.func37, Try.ntmps37
    go_wp2_with fail
    refine (IL.out _).mono ?_
    rintro e w1 ⟨b1, A1, n1, c1, rfl, hb, hz1⟩
    have hHeld : Keeps w [(w.heap.size, 0, .int .i64 lo), (w.heap.size, 1, .int .i64 hi), (w.heap.size + 1, 0, .int .i64 0), (w.heap.size + 1, 1, .int .i64 0)] w1 := Keeps.next (by refine ⟨by go_grown, ?_⟩; simp [Cells, go_sem]) hb
    replace hz1 := Lib.hid hz1
    clear hb
    go_wp2_with fail
    refine (IN.out _).mono ?_
    rintro e w2 ⟨b2, A2, n2, c2, rfl, hb, hz2⟩
    replace hHeld := hHeld.next hb
    replace hz1 := Lib.hid (hz1.out.below hb)
    replace hz2 := Lib.hid hz2
    clear hb
    go_wp2_with fail
    refine (ML.out _ _ _ hz1.out hz2.out).mono ?_
    rintro e w3 ⟨b3, A3, n3, c3, rfl, hb, hz3⟩
    replace hHeld := hHeld.next hb
    replace hz3 := Lib.hid (hz3.below (below_alloc w3 (.cells #[.bool b3, .slice A3 n3 c3] 39)))
    clear hb hz1 hz2
    obtain ⟨⟨kz0, kc0, kf0⟩, ⟨kz1, kc1, kf1⟩, ⟨kz2, kc2, kf2⟩, ⟨kz3, kc3, kf3⟩, _⟩ := hHeld.2
    go_wp2_with fail
    refine (IH.out _).mono ?_
    rintro e w4 ⟨b4, A4, n4, c4, rfl, hb, hz4⟩
    replace hHeld : Keeps w [(w.heap.size, 0, .int .i64 lo), (w.heap.size, 1, .int .i64 hi), (w.heap.size + 1, 0, .int .i64 0), (w.heap.size + 1, 1, .int .i64 0), (w3.heap.size, 0, .bool b3), (w3.heap.size, 1, .slice A3 n3 c3)] w4 := Keeps.next ((hHeld.alloc (.cells #[.bool b3, .slice A3 n3 c3] 39)).app (newK2 (hHeld.alloc (.cells #[.bool b3, .slice A3 n3 c3] 39)))) hb
    replace hz3 := Lib.hid (hz3.out.below hb)
    replace hz4 := Lib.hid hz4
    clear hb kz0 kc0 kf0 kz1 kc1 kf1 kz2 kc2 kf2 kz3 kc3 kf3
    go_wp2_with fail
    refine (IN.out _).mono ?_
    rintro e w5 ⟨b5, A5, n5, c5, rfl, hb, hz5⟩
    replace hHeld := hHeld.next hb
    replace hz3 := Lib.hid (hz3.out.below hb)
    replace hz4 := Lib.hid (hz4.out.below hb)
    replace hz5 := Lib.hid hz5
    clear hb
    go_wp2_with fail
    refine (MH.out _ _ _ hz4.out hz5.out).mono ?_
    rintro e w6 ⟨b6, A6, n6, c6, rfl, hb, hz6⟩
    replace hHeld := hHeld.next hb
    replace hz3 := Lib.hid ((hz3.out.below hb).below (below_alloc w6 (.cells #[.bool b6, .slice A6 n6 c6] 39)))
    replace hz6 := Lib.hid (hz6.below (below_alloc w6 (.cells #[.bool b6, .slice A6 n6 c6] 39)))
    clear hb hz4 hz5
    obtain ⟨⟨kz0, kc0, kf0⟩, ⟨kz1, kc1, kf1⟩, ⟨kz2, kc2, kf2⟩, ⟨kz3, kc3, kf3⟩, ⟨kz4, kc4, kf4⟩, ⟨kz5, kc5, kf5⟩, _⟩ := hHeld.2
    go_wp2_with fail
    refine (OF.out _ _ _ hz6.out hz3.out).mono ?_
    rintro e w7 ⟨rfl, hb⟩
    replace hHeld := (hHeld.alloc (.cells #[.bool b6, .slice A6 n6 c6] 39)).next hb
    clear hb kz0 kc0 kf0 kz1 kc1 kf1 kz2 kc2 kf2 kz3 kc3 kf3 kz4 kc4 kf4 kz5 kc5 kf5
    obtain ⟨⟨kz0, kc0, kf0⟩, ⟨kz1, kc1, kf1⟩, ⟨kz2, kc2, kf2⟩, ⟨kz3, kc3, kf3⟩, _⟩ := hHeld.2
    go_wp2_with fail
    obtain ⟨d0, d1⟩ := set2 (W := w7) (B := w.heap.size + 1) (u0 := .int .i64 q0) (u1 := .int .i64 q1) kc2 kc3
    refine bodyPost_ret (v := .tuple #[spV q0 q1, .bool b]) (by simp [results, Try.results37, go_sem, d0, d1]) rfl ?_
    exact ⟨rfl, by first | (with_reducible exact hHeld.1) | (have hB := hHeld.1; have hz := hB.size; go_grown)⟩
  · replace OF := Lib.hid OF
    go_enter Try.func37, Try.ntmps37
    go_wp2_with fail
    refine (IL.out _).mono ?_
    rintro e w1 ⟨b1, A1, n1, c1, rfl, hb, hz1⟩
    have hHeld : Keeps w [(w.heap.size, 0, .int .i64 lo), (w.heap.size, 1, .int .i64 hi), (w.heap.size + 1, 0, .int .i64 0), (w.heap.size + 1, 1, .int .i64 0)] w1 := Keeps.next (by refine ⟨by go_grown, ?_⟩; simp [Cells, go_sem]) hb
    replace hz1 := Lib.hid hz1
    clear hb
    go_wp2_with fail
    refine (IN.out _).mono ?_
    rintro e w2 ⟨b2, A2, n2, c2, rfl, hb, hz2⟩
    replace hHeld := hHeld.next hb
    replace hz1 := Lib.hid (hz1.out.below hb)
    replace hz2 := Lib.hid hz2
    clear hb
    go_wp2_with fail
    refine (ML.out _ _ _ hz1.out hz2.out).mono ?_
    rintro e w3 ⟨b3, A3, n3, c3, rfl, hb, hz3⟩
    replace hHeld := hHeld.next hb
    replace hz3 := Lib.hid (hz3.below (below_alloc w3 (.cells #[.bool b3, .slice A3 n3 c3] 39)))
    clear hb hz1 hz2
    obtain ⟨⟨kz0, kc0, kf0⟩, ⟨kz1, kc1, kf1⟩, ⟨kz2, kc2, kf2⟩, ⟨kz3, kc3, kf3⟩, _⟩ := hHeld.2
    go_wp2_with fail
    refine (IH.out _).mono ?_
    rintro e w4 ⟨b4, A4, n4, c4, rfl, hb, hz4⟩
    replace hHeld : Keeps w [(w.heap.size, 0, .int .i64 lo), (w.heap.size, 1, .int .i64 hi), (w.heap.size + 1, 0, .int .i64 0), (w.heap.size + 1, 1, .int .i64 0), (w3.heap.size, 0, .bool b3), (w3.heap.size, 1, .slice A3 n3 c3)] w4 := Keeps.next ((hHeld.alloc (.cells #[.bool b3, .slice A3 n3 c3] 39)).app (newK2 (hHeld.alloc (.cells #[.bool b3, .slice A3 n3 c3] 39)))) hb
    replace hz3 := Lib.hid (hz3.out.below hb)
    replace hz4 := Lib.hid hz4
    clear hb kz0 kc0 kf0 kz1 kc1 kf1 kz2 kc2 kf2 kz3 kc3 kf3
    go_wp2_with fail
    refine (IN.out _).mono ?_
    rintro e w5 ⟨b5, A5, n5, c5, rfl, hb, hz5⟩
    replace hHeld := hHeld.next hb
    replace hz3 := Lib.hid (hz3.out.below hb)
    replace hz4 := Lib.hid (hz4.out.below hb)
    replace hz5 := Lib.hid hz5
    clear hb
    go_wp2_with fail
    refine (MH.out _ _ _ hz4.out hz5.out).mono ?_
    rintro e w6 ⟨b6, A6, n6, c6, rfl, hb, hz6⟩
    replace hHeld := hHeld.next hb
    replace hz3 := Lib.hid ((hz3.out.below hb).below (below_alloc w6 (.cells #[.bool b6, .slice A6 n6 c6] 39)))
    replace hz6 := Lib.hid (hz6.below (below_alloc w6 (.cells #[.bool b6, .slice A6 n6 c6] 39)))
    clear hb hz4 hz5
    obtain ⟨⟨kz0, kc0, kf0⟩, ⟨kz1, kc1, kf1⟩, ⟨kz2, kc2, kf2⟩, ⟨kz3, kc3, kf3⟩, ⟨kz4, kc4, kf4⟩, ⟨kz5, kc5, kf5⟩, _⟩ := hHeld.2
    go_wp2_with fail
    refine (OF.out _ _ _ hz3.out hz6.out).mono ?_
    rintro e w7 ⟨rfl, hb⟩
    replace hHeld := (hHeld.alloc (.cells #[.bool b6, .slice A6 n6 c6] 39)).next hb
    clear hb kz0 kc0 kf0 kz1 kc1 kf1 kz2 kc2 kf2 kz3 kc3 kf3 kz4 kc4 kf4 kz5 kc5 kf5
    obtain ⟨⟨kz0, kc0, kf0⟩, ⟨kz1, kc1, kf1⟩, ⟨kz2, kc2, kf2⟩, ⟨kz3, kc3, kf3⟩, _⟩ := hHeld.2
    go_wp2_with fail
    obtain ⟨d0, d1⟩ := set2 (W := w7) (B := w.heap.size + 1) (u0 := .int .i64 q0) (u1 := .int .i64 q1) kc2 kc3
    refine bodyPost_ret (v := .tuple #[spV q0 q1, .bool b]) (by simp [results, Try.results37, go_sem, d0, d1]) rfl ?_
    exact ⟨rfl, by first | (with_reducible exact hHeld.1) | (have hB := hHeld.1; have hz := hB.size; go_grown)⟩
end Go.Proofs.Ytmnndbafljngiaa
