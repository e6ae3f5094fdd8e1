/-
  The walk of the law WideBack: what is added is taken away again. Conditions: the words of a number are of 64 bits; the table of powers of ten holds what its initialiser lays.
-/
import Derived.Test.YtdhmgcdcgbimgaaDoorWakes
namespace Go.Proofs.YtdhmgcdcgbimgaaDoor
open Go.RowKit Go.Shelf

theorem wakes_on {w : World} (htab : Tab w) : Hid (∀ w', Below w.heap.size w w' → Calls Tryd.prog 12 #[] w' (Ret w' (.bool true))) := fun w' hb => wakes_any w' (htab.on hb)

set_option maxRecDepth 100000 in
set_option maxHeartbeats 3200000 in
theorem back_walk (ah al bh bl p1 p2 n1 n2 : Int) (c d : Bool) (w : World) (htab : Tab w) (X : d = false → ah = -9223372036854775808 ∧ al = 0)
    (AD : ∀ w, Calls Tryd.prog 14 #[wideV ah al, wideV bh bl] w (Ret w (.tuple #[wideV p1 p2, .int .i64 (if c then 0 else 5)])))
    (AE : ∀ w, Calls Tryd.prog 14 #[wideV bh bl, wideV ah al] w (Ret w (.tuple #[wideV p1 p2, .int .i64 (if c then 0 else 5)])))
    (SB : c = true → ∀ w, Calls Tryd.prog 15 #[wideV p1 p2, wideV bh bl] w (Ret w (.tuple #[wideV ah al, .int .i64 0])))
    (NG : ∀ w, Calls Tryd.prog 16 #[wideV ah al] w (Ret w (.tuple #[wideV n1 n2, .int .i64 (if d then 0 else 5)])))
    (NH : d = true → ∀ w, Calls Tryd.prog 16 #[wideV n1 n2] w (Ret w (.tuple #[wideV ah al, .int .i64 0])))
    (AZ : d = true → ∀ w, Calls Tryd.prog 14 #[wideV ah al, wideV n1 n2] w (Ret w (.tuple #[wideV 0 0, .int .i64 0]))) :
    Calls Tryd.prog 7 #[wideV ah al, wideV bh bl] w (Ret w (.bool true)) := by
  have WK := wakes_on htab
  replace AD := Lib.hid AD
  replace AE := Lib.hid AE
  replace SB := Lib.hid SB
  replace NG := Lib.hid NG
  replace NH := Lib.hid NH
  replace AZ := Lib.hid AZ
  clear htab
  cases c <;> cases d
  · simp only [Bool.false_eq_true, if_false] at AD AE NG
    obtain ⟨x1, x2⟩ := X rfl
    have y1 : (ah == -9223372036854775808) = true := by rw [x1]; rfl
    have y2 : (al == 0) = true := by rw [x2]; rfl
    clear x1 x2 X
    go_enter Tryd.func7, Tryd.ntmps7
    go_wp2_with fail
    refine (WK.out _ (by go_grown)).mono ?_
    rintro e w1 ⟨rfl, hb⟩
    have hHeld : Keeps w [(w.heap.size, 0, .int .i64 ah), (w.heap.size, 1, .int .u64 al), (w.heap.size + 1, 0, .int .i64 bh), (w.heap.size + 1, 1, .int .u64 bl)] _ := Keeps.next (by refine ⟨by go_grown, ?_⟩; simp [Cells, go_sem]) hb
    clear hb
    obtain ⟨⟨kz0, kc0, kf0⟩, ⟨kz1, kc1, kf1⟩, ⟨kz2, kc2, kf2⟩, ⟨kz3, kc3, kf3⟩, _⟩ := hHeld.2
    go_wp2_with fail
    refine (AD.out _).mono ?_
    rintro e w2 ⟨rfl, hb⟩
    replace hHeld := Keeps.next (hHeld) hb
    clear hb kz0 kc0 kf0 kz1 kc1 kf1 kz2 kc2 kf2 kz3 kc3 kf3
    obtain ⟨⟨kz0, kc0, kf0⟩, ⟨kz1, kc1, kf1⟩, ⟨kz2, kc2, kf2⟩, ⟨kz3, kc3, kf3⟩, _⟩ := hHeld.2
    go_wp2_with fail
    refine (AE.out _).mono ?_
    rintro e w3 ⟨rfl, hb⟩
    replace hHeld : Keeps w [(w.heap.size, 0, .int .i64 ah), (w.heap.size, 1, .int .u64 al), (w.heap.size + 1, 0, .int .i64 bh), (w.heap.size + 1, 1, .int .u64 bl), (w2.heap.size, 0, .int .i64 p1), (w2.heap.size, 1, .int .u64 p2)] _ := Keeps.next (((hHeld.alloc _).app (newK2 (hHeld.alloc _)))) hb
    clear hb kz0 kc0 kf0 kz1 kc1 kf1 kz2 kc2 kf2 kz3 kc3 kf3
    obtain ⟨⟨kz0, kc0, kf0⟩, ⟨kz1, kc1, kf1⟩, ⟨kz2, kc2, kf2⟩, ⟨kz3, kc3, kf3⟩, ⟨kz4, kc4, kf4⟩, ⟨kz5, kc5, kf5⟩, _⟩ := hHeld.2
    go_wp2_with fail
    refine (NG.out _).mono ?_
    rintro e w5 ⟨rfl, hb⟩
    replace hHeld := Keeps.next ((hHeld.alloc _)) hb
    clear hb kz0 kc0 kf0 kz1 kc1 kf1 kz2 kc2 kf2 kz3 kc3 kf3 kz4 kc4 kf4 kz5 kc5 kf5
    obtain ⟨⟨kz0, kc0, kf0⟩, ⟨kz1, kc1, kf1⟩, ⟨kz2, kc2, kf2⟩, ⟨kz3, kc3, kf3⟩, ⟨kz4, kc4, kf4⟩, ⟨kz5, kc5, kf5⟩, _⟩ := hHeld.2
    go_wp2_with fail
    go_ret
    exact ⟨by simp, (hHeld.alloc _).1⟩
  · simp only [Bool.false_eq_true, if_false, if_true] at AD AE NG
    clear X
    go_enter Tryd.func7, Tryd.ntmps7
    go_wp2_with fail
    refine (WK.out _ (by go_grown)).mono ?_
    rintro e w1 ⟨rfl, hb⟩
    have hHeld : Keeps w [(w.heap.size, 0, .int .i64 ah), (w.heap.size, 1, .int .u64 al), (w.heap.size + 1, 0, .int .i64 bh), (w.heap.size + 1, 1, .int .u64 bl)] _ := Keeps.next (by refine ⟨by go_grown, ?_⟩; simp [Cells, go_sem]) hb
    clear hb
    obtain ⟨⟨kz0, kc0, kf0⟩, ⟨kz1, kc1, kf1⟩, ⟨kz2, kc2, kf2⟩, ⟨kz3, kc3, kf3⟩, _⟩ := hHeld.2
    go_wp2_with fail
    refine (AD.out _).mono ?_
    rintro e w2 ⟨rfl, hb⟩
    replace hHeld := Keeps.next (hHeld) hb
    clear hb kz0 kc0 kf0 kz1 kc1 kf1 kz2 kc2 kf2 kz3 kc3 kf3
    obtain ⟨⟨kz0, kc0, kf0⟩, ⟨kz1, kc1, kf1⟩, ⟨kz2, kc2, kf2⟩, ⟨kz3, kc3, kf3⟩, _⟩ := hHeld.2
    go_wp2_with fail
    refine (AE.out _).mono ?_
    rintro e w3 ⟨rfl, hb⟩
    replace hHeld : Keeps w [(w.heap.size, 0, .int .i64 ah), (w.heap.size, 1, .int .u64 al), (w.heap.size + 1, 0, .int .i64 bh), (w.heap.size + 1, 1, .int .u64 bl), (w2.heap.size, 0, .int .i64 p1), (w2.heap.size, 1, .int .u64 p2)] _ := Keeps.next (((hHeld.alloc _).app (newK2 (hHeld.alloc _)))) hb
    clear hb kz0 kc0 kf0 kz1 kc1 kf1 kz2 kc2 kf2 kz3 kc3 kf3
    obtain ⟨⟨kz0, kc0, kf0⟩, ⟨kz1, kc1, kf1⟩, ⟨kz2, kc2, kf2⟩, ⟨kz3, kc3, kf3⟩, ⟨kz4, kc4, kf4⟩, ⟨kz5, kc5, kf5⟩, _⟩ := hHeld.2
    go_wp2_with fail
    refine (NG.out _).mono ?_
    rintro e w5 ⟨rfl, hb⟩
    replace hHeld := Keeps.next ((hHeld.alloc _)) hb
    clear hb kz0 kc0 kf0 kz1 kc1 kf1 kz2 kc2 kf2 kz3 kc3 kf3 kz4 kc4 kf4 kz5 kc5 kf5
    obtain ⟨⟨kz0, kc0, kf0⟩, ⟨kz1, kc1, kf1⟩, ⟨kz2, kc2, kf2⟩, ⟨kz3, kc3, kf3⟩, ⟨kz4, kc4, kf4⟩, ⟨kz5, kc5, kf5⟩, _⟩ := hHeld.2
    go_wp2_with fail
    refine (NH.out (by trivial) _).mono ?_
    rintro e w6 ⟨rfl, hb⟩
    replace hHeld : Keeps w [(w.heap.size, 0, .int .i64 ah), (w.heap.size, 1, .int .u64 al), (w.heap.size + 1, 0, .int .i64 bh), (w.heap.size + 1, 1, .int .u64 bl), (w2.heap.size, 0, .int .i64 p1), (w2.heap.size, 1, .int .u64 p2), (w5.heap.size, 0, .int .i64 n1), (w5.heap.size, 1, .int .u64 n2)] _ := Keeps.next (((hHeld.alloc _).app (newK2 (hHeld.alloc _)))) hb
    clear hb kz0 kc0 kf0 kz1 kc1 kf1 kz2 kc2 kf2 kz3 kc3 kf3 kz4 kc4 kf4 kz5 kc5 kf5
    obtain ⟨⟨kz0, kc0, kf0⟩, ⟨kz1, kc1, kf1⟩, ⟨kz2, kc2, kf2⟩, ⟨kz3, kc3, kf3⟩, ⟨kz4, kc4, kf4⟩, ⟨kz5, kc5, kf5⟩, ⟨kz6, kc6, kf6⟩, ⟨kz7, kc7, kf7⟩, _⟩ := hHeld.2
    go_wp2_with fail
    refine (AZ.out (by trivial) _).mono ?_
    rintro e w7 ⟨rfl, hb⟩
    replace hHeld : Keeps w [(w.heap.size, 0, .int .i64 ah), (w.heap.size, 1, .int .u64 al), (w.heap.size + 1, 0, .int .i64 bh), (w.heap.size + 1, 1, .int .u64 bl), (w2.heap.size, 0, .int .i64 p1), (w2.heap.size, 1, .int .u64 p2), (w5.heap.size, 0, .int .i64 n1), (w5.heap.size, 1, .int .u64 n2), (w6.heap.size, 0, .int .i64 ah), (w6.heap.size, 1, .int .u64 al)] _ := Keeps.next (((hHeld.alloc _).app (newK2 (hHeld.alloc _)))) hb
    clear hb kz0 kc0 kf0 kz1 kc1 kf1 kz2 kc2 kf2 kz3 kc3 kf3 kz4 kc4 kf4 kz5 kc5 kf5 kz6 kc6 kf6 kz7 kc7 kf7
    obtain ⟨⟨kz0, kc0, kf0⟩, ⟨kz1, kc1, kf1⟩, ⟨kz2, kc2, kf2⟩, ⟨kz3, kc3, kf3⟩, ⟨kz4, kc4, kf4⟩, ⟨kz5, kc5, kf5⟩, ⟨kz6, kc6, kf6⟩, ⟨kz7, kc7, kf7⟩, ⟨kz8, kc8, kf8⟩, ⟨kz9, kc9, kf9⟩, _⟩ := hHeld.2
    go_wp2_with fail
    go_ret
    exact ⟨by simp, (hHeld.alloc _).1⟩
  · simp only [Bool.false_eq_true, if_false, if_true] at AD AE NG
    obtain ⟨x1, x2⟩ := X rfl
    have y1 : (ah == -9223372036854775808) = true := by rw [x1]; rfl
    have y2 : (al == 0) = true := by rw [x2]; rfl
    clear x1 x2 X
    go_enter Tryd.func7, Tryd.ntmps7
    go_wp2_with fail
    refine (WK.out _ (by go_grown)).mono ?_
    rintro e w1 ⟨rfl, hb⟩
    have hHeld : Keeps w [(w.heap.size, 0, .int .i64 ah), (w.heap.size, 1, .int .u64 al), (w.heap.size + 1, 0, .int .i64 bh), (w.heap.size + 1, 1, .int .u64 bl)] _ := Keeps.next (by refine ⟨by go_grown, ?_⟩; simp [Cells, go_sem]) hb
    clear hb
    obtain ⟨⟨kz0, kc0, kf0⟩, ⟨kz1, kc1, kf1⟩, ⟨kz2, kc2, kf2⟩, ⟨kz3, kc3, kf3⟩, _⟩ := hHeld.2
    go_wp2_with fail
    refine (AD.out _).mono ?_
    rintro e w2 ⟨rfl, hb⟩
    replace hHeld := Keeps.next (hHeld) hb
    clear hb kz0 kc0 kf0 kz1 kc1 kf1 kz2 kc2 kf2 kz3 kc3 kf3
    obtain ⟨⟨kz0, kc0, kf0⟩, ⟨kz1, kc1, kf1⟩, ⟨kz2, kc2, kf2⟩, ⟨kz3, kc3, kf3⟩, _⟩ := hHeld.2
    go_wp2_with fail
    refine (AE.out _).mono ?_
    rintro e w3 ⟨rfl, hb⟩
    replace hHeld : Keeps w [(w.heap.size, 0, .int .i64 ah), (w.heap.size, 1, .int .u64 al), (w.heap.size + 1, 0, .int .i64 bh), (w.heap.size + 1, 1, .int .u64 bl), (w2.heap.size, 0, .int .i64 p1), (w2.heap.size, 1, .int .u64 p2)] _ := Keeps.next (((hHeld.alloc _).app (newK2 (hHeld.alloc _)))) hb
    clear hb kz0 kc0 kf0 kz1 kc1 kf1 kz2 kc2 kf2 kz3 kc3 kf3
    obtain ⟨⟨kz0, kc0, kf0⟩, ⟨kz1, kc1, kf1⟩, ⟨kz2, kc2, kf2⟩, ⟨kz3, kc3, kf3⟩, ⟨kz4, kc4, kf4⟩, ⟨kz5, kc5, kf5⟩, _⟩ := hHeld.2
    go_wp2_with fail
    refine (SB.out (by trivial) _).mono ?_
    rintro e w4 ⟨rfl, hb⟩
    replace hHeld := Keeps.next ((hHeld.alloc _)) hb
    clear hb kz0 kc0 kf0 kz1 kc1 kf1 kz2 kc2 kf2 kz3 kc3 kf3 kz4 kc4 kf4 kz5 kc5 kf5
    obtain ⟨⟨kz0, kc0, kf0⟩, ⟨kz1, kc1, kf1⟩, ⟨kz2, kc2, kf2⟩, ⟨kz3, kc3, kf3⟩, ⟨kz4, kc4, kf4⟩, ⟨kz5, kc5, kf5⟩, _⟩ := hHeld.2
    go_wp2_with fail
    refine (NG.out _).mono ?_
    rintro e w5 ⟨rfl, hb⟩
    replace hHeld := Keeps.next ((hHeld.alloc _)) hb
    clear hb kz0 kc0 kf0 kz1 kc1 kf1 kz2 kc2 kf2 kz3 kc3 kf3 kz4 kc4 kf4 kz5 kc5 kf5
    obtain ⟨⟨kz0, kc0, kf0⟩, ⟨kz1, kc1, kf1⟩, ⟨kz2, kc2, kf2⟩, ⟨kz3, kc3, kf3⟩, ⟨kz4, kc4, kf4⟩, ⟨kz5, kc5, kf5⟩, _⟩ := hHeld.2
    go_wp2_with fail
    go_ret
    exact ⟨by simp, (hHeld.alloc _).1⟩
  · simp only [if_true] at AD AE NG
    clear X
    go_enter Tryd.func7, Tryd.ntmps7
    go_wp2_with fail
    refine (WK.out _ (by go_grown)).mono ?_
    rintro e w1 ⟨rfl, hb⟩
    have hHeld : Keeps w [(w.heap.size, 0, .int .i64 ah), (w.heap.size, 1, .int .u64 al), (w.heap.size + 1, 0, .int .i64 bh), (w.heap.size + 1, 1, .int .u64 bl)] _ := Keeps.next (by refine ⟨by go_grown, ?_⟩; simp [Cells, go_sem]) hb
    clear hb
    obtain ⟨⟨kz0, kc0, kf0⟩, ⟨kz1, kc1, kf1⟩, ⟨kz2, kc2, kf2⟩, ⟨kz3, kc3, kf3⟩, _⟩ := hHeld.2
    go_wp2_with fail
    refine (AD.out _).mono ?_
    rintro e w2 ⟨rfl, hb⟩
    replace hHeld := Keeps.next (hHeld) hb
    clear hb kz0 kc0 kf0 kz1 kc1 kf1 kz2 kc2 kf2 kz3 kc3 kf3
    obtain ⟨⟨kz0, kc0, kf0⟩, ⟨kz1, kc1, kf1⟩, ⟨kz2, kc2, kf2⟩, ⟨kz3, kc3, kf3⟩, _⟩ := hHeld.2
    go_wp2_with fail
    refine (AE.out _).mono ?_
    rintro e w3 ⟨rfl, hb⟩
    replace hHeld : Keeps w [(w.heap.size, 0, .int .i64 ah), (w.heap.size, 1, .int .u64 al), (w.heap.size + 1, 0, .int .i64 bh), (w.heap.size + 1, 1, .int .u64 bl), (w2.heap.size, 0, .int .i64 p1), (w2.heap.size, 1, .int .u64 p2)] _ := Keeps.next (((hHeld.alloc _).app (newK2 (hHeld.alloc _)))) hb
    clear hb kz0 kc0 kf0 kz1 kc1 kf1 kz2 kc2 kf2 kz3 kc3 kf3
    obtain ⟨⟨kz0, kc0, kf0⟩, ⟨kz1, kc1, kf1⟩, ⟨kz2, kc2, kf2⟩, ⟨kz3, kc3, kf3⟩, ⟨kz4, kc4, kf4⟩, ⟨kz5, kc5, kf5⟩, _⟩ := hHeld.2
    go_wp2_with fail
    refine (SB.out (by trivial) _).mono ?_
    rintro e w4 ⟨rfl, hb⟩
    replace hHeld := Keeps.next ((hHeld.alloc _)) hb
    clear hb kz0 kc0 kf0 kz1 kc1 kf1 kz2 kc2 kf2 kz3 kc3 kf3 kz4 kc4 kf4 kz5 kc5 kf5
    obtain ⟨⟨kz0, kc0, kf0⟩, ⟨kz1, kc1, kf1⟩, ⟨kz2, kc2, kf2⟩, ⟨kz3, kc3, kf3⟩, ⟨kz4, kc4, kf4⟩, ⟨kz5, kc5, kf5⟩, _⟩ := hHeld.2
    go_wp2_with fail
    refine (NG.out _).mono ?_
    rintro e w5 ⟨rfl, hb⟩
    replace hHeld := Keeps.next ((hHeld.alloc _)) hb
    clear hb kz0 kc0 kf0 kz1 kc1 kf1 kz2 kc2 kf2 kz3 kc3 kf3 kz4 kc4 kf4 kz5 kc5 kf5
    obtain ⟨⟨kz0, kc0, kf0⟩, ⟨kz1, kc1, kf1⟩, ⟨kz2, kc2, kf2⟩, ⟨kz3, kc3, kf3⟩, ⟨kz4, kc4, kf4⟩, ⟨kz5, kc5, kf5⟩, _⟩ := hHeld.2
    go_wp2_with fail
    refine (NH.out (by trivial) _).mono ?_
    rintro e w6 ⟨rfl, hb⟩
    replace hHeld : Keeps w [(w.heap.size, 0, .int .i64 ah), (w.heap.size, 1, .int .u64 al), (w.heap.size + 1, 0, .int .i64 bh), (w.heap.size + 1, 1, .int .u64 bl), (w2.heap.size, 0, .int .i64 p1), (w2.heap.size, 1, .int .u64 p2), (w5.heap.size, 0, .int .i64 n1), (w5.heap.size, 1, .int .u64 n2)] _ := Keeps.next (((hHeld.alloc _).app (newK2 (hHeld.alloc _)))) hb
    clear hb kz0 kc0 kf0 kz1 kc1 kf1 kz2 kc2 kf2 kz3 kc3 kf3 kz4 kc4 kf4 kz5 kc5 kf5
    obtain ⟨⟨kz0, kc0, kf0⟩, ⟨kz1, kc1, kf1⟩, ⟨kz2, kc2, kf2⟩, ⟨kz3, kc3, kf3⟩, ⟨kz4, kc4, kf4⟩, ⟨kz5, kc5, kf5⟩, ⟨kz6, kc6, kf6⟩, ⟨kz7, kc7, kf7⟩, _⟩ := hHeld.2
    go_wp2_with fail
    refine (AZ.out (by trivial) _).mono ?_
    rintro e w7 ⟨rfl, hb⟩
    replace hHeld : Keeps w [(w.heap.size, 0, .int .i64 ah), (w.heap.size, 1, .int .u64 al), (w.heap.size + 1, 0, .int .i64 bh), (w.heap.size + 1, 1, .int .u64 bl), (w2.heap.size, 0, .int .i64 p1), (w2.heap.size, 1, .int .u64 p2), (w5.heap.size, 0, .int .i64 n1), (w5.heap.size, 1, .int .u64 n2), (w6.heap.size, 0, .int .i64 ah), (w6.heap.size, 1, .int .u64 al)] _ := Keeps.next (((hHeld.alloc _).app (newK2 (hHeld.alloc _)))) hb
    clear hb kz0 kc0 kf0 kz1 kc1 kf1 kz2 kc2 kf2 kz3 kc3 kf3 kz4 kc4 kf4 kz5 kc5 kf5 kz6 kc6 kf6 kz7 kc7 kf7
    obtain ⟨⟨kz0, kc0, kf0⟩, ⟨kz1, kc1, kf1⟩, ⟨kz2, kc2, kf2⟩, ⟨kz3, kc3, kf3⟩, ⟨kz4, kc4, kf4⟩, ⟨kz5, kc5, kf5⟩, ⟨kz6, kc6, kf6⟩, ⟨kz7, kc7, kf7⟩, ⟨kz8, kc8, kf8⟩, ⟨kz9, kc9, kf9⟩, _⟩ := hHeld.2
    go_wp2_with fail
    go_ret
    exact ⟨by simp, (hHeld.alloc _).1⟩

theorem back_any (ah al bh bl : Int) (h1 : I64 ah) (h2 : U64 al) (h3 : I64 bh) (h4 : U64 bl) (w : World) (htab : Tab w) :
    Calls Tryd.prog 7 #[wideV ah al, wideV bh bl] w (Ret w (.bool true)) := by
  have fx := fits_val h1 h2
  have hc : ∀ z : Int, rcode z = if decide (Fits z) then 0 else 5 := fun z => by unfold rcode; simp
  have ad := add_any ah al bh bl h1 h2 h3 h4
  have ae := add_any bh bl ah al h3 h4 h1 h2
  rw [Int.add_comm] at ae
  have ng := neg_any ah al h1 h2
  unfold roomV at ad ae ng
  rw [hc] at ad ae ng
  refine back_walk ah al bh bl _ _ _ _ _ _ w htab ?_ ad ae ?_ ng ?_ ?_
  · intro g
    have nf : ¬ Fits (0 - val ah al) := by simpa using g
    unfold Fits val at nf
    unfold Fits val at fx
    obtain ⟨_, _⟩ := h2
    omega
  · intro g w
    have f : Fits (val ah al + val bh bl) := by simpa using g
    have sb := sub_any _ _ bh bl (rhi_i64 (val ah al + val bh bl)) (rlo_u64 (val ah al + val bh bl)) h3 h4 w
    rw [val_r f, show val ah al + val bh bl - val bh bl = val ah al from by omega] at sb
    unfold roomV at sb
    rw [rhi_val h1 h2, rlo_val h1 h2, hc, decide_eq_true fx] at sb
    exact sb
  · intro g w
    have f : Fits (0 - val ah al) := by simpa using g
    have nh := neg_any _ _ (rhi_i64 (0 - val ah al)) (rlo_u64 (0 - val ah al)) w
    rw [val_r f, show 0 - (0 - val ah al) = val ah al from by omega] at nh
    unfold roomV at nh
    rw [rhi_val h1 h2, rlo_val h1 h2, hc, decide_eq_true fx] at nh
    exact nh
  · intro g w
    have f : Fits (0 - val ah al) := by simpa using g
    have az := add_any ah al _ _ h1 h2 (rhi_i64 (0 - val ah al)) (rlo_u64 (0 - val ah al)) w
    rw [val_r f, show val ah al + (0 - val ah al) = 0 from by omega] at az
    have f0 : Fits 0 := by unfold Fits; omega
    unfold roomV at az
    rw [show rhi 0 = 0 from by simp [rhi, f0], show rlo 0 = 0 from by simp [rlo, f0], hc, decide_eq_true f0] at az
    exact az
end Go.Proofs.YtdhmgcdcgbimgaaDoor
