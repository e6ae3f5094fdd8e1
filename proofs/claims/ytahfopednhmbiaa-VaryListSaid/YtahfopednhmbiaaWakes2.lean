/-
  Layer 2: the statements' first question. Conditions: none.
-/
import Derived.Test.YtahfopednhmbiaaRow2
import Derived.Test.YtahfopednhmbiaaPutB
import Derived.Test.YtahfopednhmbiaaEq
namespace Go.Proofs.Ytahfopednhmbiaa
open Go.RowKit Go.Shelf

theorem got1 : gotN [172, 2] 0 = 300 ∧ gotP [172, 2] 0 = 2 ∧ gotE [172, 2] 0 = 0 := by decide
theorem got2 : unz (gotN [9, 1] 1) = -1 ∧ gotP [9, 1] 1 = 2 ∧ gotE [9, 1] 1 = 0 := by decide
theorem got3 : gotN [128, 0] 0 = 0 ∧ gotP [128, 0] 0 = 0 ∧ gotE [128, 0] 0 = 7 := by decide
theorem got4 : gotRow [2, 2, 3] 0 2 = ([1, -2], 3, 0) := by decide
theorem digs300 : digs 300 = [172, 2] := by rw [digs_more (by decide), digs_end (by decide)]; rfl
theorem digsM1 : digs (Lib.zigzag (-1)) = [1] := by rw [show Lib.zigzag (-1) = 1 from by decide, digs_end (by decide)]; rfl
theorem digs64 : (digs (Lib.zigzag 64)).length = 2 := by rw [show Lib.zigzag 64 = 128 from by decide, digs_more (by decide), digs_end (by decide)]; rfl

theorem bytes2 {x y : Int} (hx : 0 ≤ x ∧ x < 256) (hy : 0 ≤ y ∧ y < 256) : ∀ z ∈ [x, y], 0 ≤ z ∧ z < 256 := by
  intro z hz
  simp at hz
  rcases hz with rfl | rfl <;> assumption
theorem w1_get (W : World) : Calls Try.prog 21 #[.slice (some ⟨W.heap.size, 0, none⟩) 2 2, .int .i64 0] (W.alloc (.cells #[.int .u8 172, .int .u8 2] 5)) (Ret (W.alloc (.cells #[.int .u8 172, .int .u8 2] 5)) (.tuple #[.int .u64 300, .int .i64 2, .int .i64 0])) := by
  have h := getU_any [172, 2] (by simp) (bytes2 (by omega) (by omega)) 0 _ _ (reads_two (w := W) (t := 5))
  rwa [got1.1, got1.2.1, got1.2.2] at h
theorem w2_get (W : World) : Calls Try.prog 22 #[.slice (some ⟨W.heap.size, 0, none⟩) 2 2, .int .i64 1] (W.alloc (.cells #[.int .u8 9, .int .u8 1] 5)) (Ret (W.alloc (.cells #[.int .u8 9, .int .u8 1] 5)) (.tuple #[.int .i64 (-1), .int .i64 2, .int .i64 0])) := by
  have h := get_any [9, 1] (by simp) (bytes2 (by omega) (by omega)) 1 _ _ (reads_two (w := W) (t := 5))
  rwa [got2.1, got2.2.1, got2.2.2] at h
theorem w3_get (W : World) : Calls Try.prog 21 #[.slice (some ⟨W.heap.size, 0, none⟩) 2 2, .int .i64 0] (W.alloc (.cells #[.int .u8 128, .int .u8 0] 5)) (Ret (W.alloc (.cells #[.int .u8 128, .int .u8 0] 5)) (.tuple #[.int .u64 0, .int .i64 0, .int .i64 7])) := by
  have h := getU_any [128, 0] (by simp) (bytes2 (by omega) (by omega)) 0 _ _ (reads_two (w := W) (t := 5))
  rwa [got3.1, got3.2.1, got3.2.2] at h
theorem w4_get (W : World) : Calls Try.prog 29 #[.slice (some ⟨W.heap.size, 0, none⟩) 3 3, .int .i64 0, .int .i64 2] (W.alloc (.cells #[.int .u8 2, .int .u8 2, .int .u8 3] 5)) (MadeR (W.alloc (.cells #[.int .u8 2, .int .u8 2, .int .u8 3] 5)) ([1, -2], 3, 0)) := by
  have h := getRow_any [2, 2, 3] (by simp) (by intro z hz; simp at hz; rcases hz with rfl | rfl | rfl <;> omega) 0 2 (by omega) _ _ (reads_three (w := W) (t := 5))
  rwa [got4] at h
theorem w5_put (W : World) : Calls Try.prog 12 #[.slice none 0 0, .int .u64 300] W (MadeB W [172, 2]) := by
  have h := putU_any [] (by simp) 300 (by omega) _ W (Reads.nil (k := .u8))
  rwa [digs300] at h
theorem w6_put (W : World) : Calls Try.prog 13 #[.slice (some ⟨W.heap.size, 0, none⟩) 1 1, .int .i64 (-1)] (W.alloc (.cells #[.int .u8 9] 5)) (MadeB (W.alloc (.cells #[.int .u8 9] 5)) [9, 1]) := by
  have h := put_any [9] (by simp) (-1) (by omega) (by omega) _ _ (reads_one (w := W) (t := 5) (k := .u8) (z := 9))
  rwa [digsM1] at h
theorem w7_size (W : World) : Calls Try.prog 20 #[.int .i64 64] W (Ret W (.int .i64 2)) := by
  have h := size_any 64 (by omega) (by omega) W
  rwa [digs64] at h

set_option maxRecDepth 100000 in
set_option maxHeartbeats 4000000 in
theorem wakes_any (w : World) : Calls Try.prog 10 #[] w (Ret w (.bool true)) := by
  go_enter Try.func10, Try.ntmps10
  go_wp2_with fail
  refine (w1_get _).mono ?_
  rintro e w1 ⟨rfl, hb1⟩
  have B1 := Lib.hid (under (below_alloc w _) hb1)
  clear hb1
  go_wp2_with fail
  refine (w2_get _).mono ?_
  rintro e w2 ⟨rfl, hb2⟩
  have B2 := Lib.hid (under B1.out (under (below_alloc w1 _) hb2))
  clear hb2 B1
  go_wp2_with fail
  refine (w3_get _).mono ?_
  rintro e w3 ⟨rfl, hb3⟩
  have B3 := Lib.hid (under B2.out (under (below_alloc w2 _) hb3))
  clear hb3 B2
  go_wp2_with fail
  refine (w4_get _).mono ?_
  rintro e w4 ⟨vr, rfl, hb4, ho4⟩
  have B4 := Lib.hid (under B3.out (under (below_alloc w3 _) hb4))
  have R4 := Lib.hid (reads_own (l := [1, -2]) ho4)
  clear hb4 B3 ho4
  go_wp2_with fail
  refine (w5_put _).mono ?_
  rintro e w5 ⟨v5, rfl, hb5, ho5⟩
  have B5 := Lib.hid (under B4.out hb5)
  have R5 := Lib.hid (R4.out.below hb5)
  have P5 := Lib.hid (reads_own (l := [172, 2]) ho5)
  clear hb5 B4 ho5 R4
  go_wp2_with fail
  refine (equalB [172, 2] [172, 2] (by simp) v5 _ _ (P5.out.below (below_alloc w5 _)) reads_two).mono ?_
  rintro e w6 ⟨rfl, hb6⟩
  rw [eqB_true rfl]
  have B6 := Lib.hid (under B5.out (under (below_alloc w5 _) hb6))
  have R6 := Lib.hid (R5.out.below (under (below_alloc w5 _) hb6))
  clear hb6 B5 P5 R5
  go_wp2_with fail
  refine (w6_put _).mono ?_
  rintro e w7 ⟨v7, rfl, hb7, ho7⟩
  have B7 := Lib.hid (under B6.out (under (below_alloc w6 _) hb7))
  have R7 := Lib.hid (R6.out.below (under (below_alloc w6 _) hb7))
  have P7 := Lib.hid (reads_own (l := [9, 1]) ho7)
  clear hb7 B6 ho7 R6
  go_wp2_with fail
  refine (equalB [9, 1] [9, 1] (by simp) v7 _ _ (P7.out.below (below_alloc w7 _)) reads_two).mono ?_
  rintro e w8 ⟨rfl, hb8⟩
  rw [eqB_true rfl]
  have B8 := Lib.hid (under B7.out (under (below_alloc w7 _) hb8))
  have R8 := Lib.hid (R7.out.below (under (below_alloc w7 _) hb8))
  clear hb8 B7 P7 R7
  go_wp2_with fail
  refine (equalI [1, -2] [1, -2] (by simp) vr _ _ (R8.out.below (below_alloc w8 _)) reads_two).mono ?_
  rintro e w9 ⟨rfl, hb9⟩
  rw [eqB_true rfl]
  have B9 := Lib.hid (under B8.out (under (below_alloc w8 _) hb9))
  clear hb9 B8 R8
  go_wp2_with fail
  refine (w7_size _).mono ?_
  rintro e w10 ⟨rfl, hb10⟩
  have B10 := Lib.hid (under B9.out hb10)
  clear hb10 B9
  go_wp2_with fail
  go_ret
  exact ⟨rfl, B10.out⟩
end Go.Proofs.Ytahfopednhmbiaa
