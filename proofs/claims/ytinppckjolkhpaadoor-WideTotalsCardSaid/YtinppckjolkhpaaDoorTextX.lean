/-
  What package wide's Text answers, for every number. Conditions: the words of a number are of 64 bits; the table of powers of ten holds what its initialiser lays.
-/
import Derived.Test.YtinppckjolkhpaaDoorTextW
namespace Go.Proofs.YtinppckjolkhpaaDoor
open Go.RowKit Go.Shelf

set_option maxRecDepth 100000 in
theorem top_two (a b c : Int) (h : c ≠ 0) (w : World) : Calls Tryd.prog 51 #[.agg #[.int .u64 a, .int .u64 b, .int .u64 c]] w (Ret w (.int .i64 2)) := by
  have g : (c == 0) = false := by simpa using h
  clear h
  go_enter Tryd.func51, Tryd.ntmps51
  go_wp2_with fail
  refine wp_loop_rounds 1 ?_
  rw [rounds_succ]
  go_wp2_with fail
  go_ret
  exact ⟨rfl, by go_grown⟩
set_option maxRecDepth 100000 in
theorem top_one (a b : Int) (h : b ≠ 0) (w : World) : Calls Tryd.prog 51 #[.agg #[.int .u64 a, .int .u64 b, .int .u64 0]] w (Ret w (.int .i64 1)) := by
  have g : (b == 0) = false := by simpa using h
  clear h
  go_enter Tryd.func51, Tryd.ntmps51
  go_wp2_with fail
  refine wp_loop_rounds 2 ?_
  rw [rounds_succ]
  go_wp2_with fail
  rw [rounds_succ]
  go_wp2_with fail
  go_ret
  exact ⟨rfl, by go_grown⟩
set_option maxRecDepth 100000 in
theorem top_none (a : Int) (w : World) : Calls Tryd.prog 51 #[.agg #[.int .u64 a, .int .u64 0, .int .u64 0]] w (Ret w (.int .i64 0)) := by
  go_enter Tryd.func51, Tryd.ntmps51
  go_wp2_with fail
  refine wp_loop_rounds 3 ?_
  rw [rounds_succ]
  go_wp2_with fail
  rw [rounds_succ]
  go_wp2_with fail
  rw [rounds_succ]
  go_wp2_with fail
  go_ret
  exact ⟨rfl, by go_grown⟩

theorem pad19_length (n : Int) : (pad19 n).length = 19 := by
  have : ∀ k m, (padN k m).length = k := by
    intro k
    induction k with
    | zero => intro m; unfold padN; rfl
    | succ k ih => intro m; unfold padN; simp [ih]
  unfold pad19; exact this _ _
theorem dec_length {n : Int} (h : U64 n) : (Lib.decDigits n.toNat).length ≤ 20 := by
  rw [Lib.decDigits_length]
  obtain ⟨_, _⟩ := h
  exact nDigits_le (by omega) (by decide)

set_option maxRecDepth 100000 in
set_option maxHeartbeats 3200000 in
theorem text_two (hi lo G0 G1 G2 : Int) (s : Bool) (hs : decide (hi < 0) = s) (D P0 P1 : List UInt8) (hD : D.length ≤ 20) (h0 : P0.length = 19) (h1 : P1.length = 19) (w : World)
    (FG : ∀ w, Calls Tryd.prog 42 #[wideV hi lo] w (Ret w (distV (dh (mag (val hi lo))) (dl (mag (val hi lo))))))
    (GG : ∀ w, Calls Tryd.prog 50 #[distV (dh (mag (val hi lo))) (dl (mag (val hi lo)))] w (Ret w (.agg #[.int .u64 G0, .int .u64 G1, .int .u64 G2])))
    (TG : ∀ w, Calls Tryd.prog 51 #[.agg #[.int .u64 G0, .int .u64 G1, .int .u64 G2]] w (Ret w (.int .i64 2)))
    (FF : ∀ w', Below w.heap.size w w' → Calls Tryd.prog 52 #[.int .u64 G2, .int .i64 10] w' (Ret w' (strV D)))
    (Q1 : ∀ w', Below w.heap.size w w' → Calls Tryd.prog 53 #[.int .u64 G1] w' (Ret w' (strV P1)))
    (Q0 : ∀ w', Below w.heap.size w w' → Calls Tryd.prog 53 #[.int .u64 G0] w' (Ret w' (strV P0))) :
    Calls Tryd.prog 27 #[wideV hi lo] w (Ret w (strV ((if s then [45] else []) ++ (D ++ P1 ++ P0)))) := by
  have h2 : ¬ 9223372036854775807 < D.length + P1.length := by omega
  have h3 : ¬ 9223372036854775807 < D.length + P1.length + P0.length := by omega
  have h6 : ¬ 9223372036854775807 < 1 + (D.length + P1.length + P0.length) := by omega
  have FG := Lib.hid FG
  have GG := Lib.hid GG
  have TG := Lib.hid TG
  have FF := Lib.hid FF
  have Q1 := Lib.hid Q1
  have Q0 := Lib.hid Q0
  have HS := Lib.hid hs
  clear hs h0 h1
  cases s
  all_goals
    simp only [if_true, Bool.false_eq_true, if_false, List.nil_append]
    go_enter Tryd.func27, Tryd.ntmps27
    go_wp2_with fail
    refine (FG.out _).mono ?_
    rintro e w1 ⟨rfl, hb⟩
    have hHeld : Keeps w [(w.heap.size, 0, .int .i64 hi), (w.heap.size, 1, .int .u64 lo)] _ := Keeps.next (by refine ⟨by go_grown, ?_⟩; simp [Cells, go_sem]) hb
    clear hb
    obtain ⟨⟨kz0, kc0, kf0⟩, ⟨kz1, kc1, kf1⟩, _⟩ := hHeld.2
    go_wp2_with fail
    refine (GG.out _).mono ?_
    rintro e w2 ⟨rfl, hb⟩
    replace hHeld := Keeps.next (hHeld) hb
    clear hb kz0 kc0 kf0 kz1 kc1 kf1
    obtain ⟨⟨kz0, kc0, kf0⟩, ⟨kz1, kc1, kf1⟩, _⟩ := hHeld.2
    go_wp2_with fail
    refine (TG.out _).mono ?_
    rintro e w3 ⟨rfl, hb⟩
    replace hHeld : Keeps w [(w.heap.size, 0, .int .i64 hi), (w.heap.size, 1, .int .u64 lo), (w2.heap.size, 0, .int .u64 G0), (w2.heap.size, 1, .int .u64 G1), (w2.heap.size, 2, .int .u64 G2)] _ := Keeps.next (((hHeld.alloc _).app (newK3 (hHeld.alloc _)))) hb
    clear hb kz0 kc0 kf0 kz1 kc1 kf1
    obtain ⟨⟨kz0, kc0, kf0⟩, ⟨kz1, kc1, kf1⟩, ⟨kz2, kc2, kf2⟩, ⟨kz3, kc3, kf3⟩, ⟨kz4, kc4, kf4⟩, _⟩ := hHeld.2
    go_wp2_with fail
    refine (FF.out _ hHeld.1).mono ?_
    rintro e w4 ⟨rfl, hb⟩
    replace hHeld := Keeps.next (hHeld) hb
    clear hb kz0 kc0 kf0 kz1 kc1 kf1 kz2 kc2 kf2 kz3 kc3 kf3 kz4 kc4 kf4
    obtain ⟨⟨kz0, kc0, kf0⟩, ⟨kz1, kc1, kf1⟩, ⟨kz2, kc2, kf2⟩, ⟨kz3, kc3, kf3⟩, ⟨kz4, kc4, kf4⟩, _⟩ := hHeld.2
    go_wp2_with fail
    refine wp_loop_rounds 3 ?_
    rw [rounds_succ]
    go_wp2_with fail
    refine (Q1.out _ hHeld.1).mono ?_
    rintro e w5 ⟨rfl, hb⟩
    replace hHeld := Keeps.next (hHeld) hb
    clear hb kz0 kc0 kf0 kz1 kc1 kf1 kz2 kc2 kf2 kz3 kc3 kf3 kz4 kc4 kf4
    obtain ⟨⟨kz0, kc0, kf0⟩, ⟨kz1, kc1, kf1⟩, ⟨kz2, kc2, kf2⟩, ⟨kz3, kc3, kf3⟩, ⟨kz4, kc4, kf4⟩, _⟩ := hHeld.2
    go_wp2_with fail
    rw [rounds_succ]
    go_wp2_with fail
    refine (Q0.out _ hHeld.1).mono ?_
    rintro e w6 ⟨rfl, hb⟩
    replace hHeld := Keeps.next (hHeld) hb
    clear hb kz0 kc0 kf0 kz1 kc1 kf1 kz2 kc2 kf2 kz3 kc3 kf3 kz4 kc4 kf4
    obtain ⟨⟨kz0, kc0, kf0⟩, ⟨kz1, kc1, kf1⟩, ⟨kz2, kc2, kf2⟩, ⟨kz3, kc3, kf3⟩, ⟨kz4, kc4, kf4⟩, _⟩ := hHeld.2
    go_wp2_with fail
    rw [rounds_succ]
    go_wp2_with fail
    refine (below_is hi lo _ HS.out _).mono ?_
    rintro e w7 ⟨rfl, hb⟩
    replace hHeld := Keeps.next (hHeld) hb
    clear hb kz0 kc0 kf0 kz1 kc1 kf1 kz2 kc2 kf2 kz3 kc3 kf3 kz4 kc4 kf4
    obtain ⟨⟨kz0, kc0, kf0⟩, ⟨kz1, kc1, kf1⟩, ⟨kz2, kc2, kf2⟩, ⟨kz3, kc3, kf3⟩, ⟨kz4, kc4, kf4⟩, _⟩ := hHeld.2
    go_wp2_with fail
    go_ret
    exact ⟨by simp [str_append], hHeld.1⟩
set_option maxRecDepth 100000 in
set_option maxHeartbeats 3200000 in
theorem text_one (hi lo G0 G1 : Int) (s : Bool) (hs : decide (hi < 0) = s) (D P0 : List UInt8) (hD : D.length ≤ 20) (h0 : P0.length = 19) (w : World)
    (FG : ∀ w, Calls Tryd.prog 42 #[wideV hi lo] w (Ret w (distV (dh (mag (val hi lo))) (dl (mag (val hi lo))))))
    (GG : ∀ w, Calls Tryd.prog 50 #[distV (dh (mag (val hi lo))) (dl (mag (val hi lo)))] w (Ret w (.agg #[.int .u64 G0, .int .u64 G1, .int .u64 0])))
    (TG : ∀ w, Calls Tryd.prog 51 #[.agg #[.int .u64 G0, .int .u64 G1, .int .u64 0]] w (Ret w (.int .i64 1)))
    (FF : ∀ w', Below w.heap.size w w' → Calls Tryd.prog 52 #[.int .u64 G1, .int .i64 10] w' (Ret w' (strV D)))
    (Q0 : ∀ w', Below w.heap.size w w' → Calls Tryd.prog 53 #[.int .u64 G0] w' (Ret w' (strV P0))) :
    Calls Tryd.prog 27 #[wideV hi lo] w (Ret w (strV ((if s then [45] else []) ++ (D ++ P0)))) := by
  have h3 : ¬ 9223372036854775807 < D.length + P0.length := by omega
  have h6 : ¬ 9223372036854775807 < 1 + (D.length + P0.length) := by omega
  have FG := Lib.hid FG
  have GG := Lib.hid GG
  have TG := Lib.hid TG
  have FF := Lib.hid FF
  have Q0 := Lib.hid Q0
  have HS := Lib.hid hs
  clear hs h0
  cases s
  all_goals
    simp only [if_true, Bool.false_eq_true, if_false, List.nil_append]
    go_enter Tryd.func27, Tryd.ntmps27
    go_wp2_with fail
    refine (FG.out _).mono ?_
    rintro e w1 ⟨rfl, hb⟩
    have hHeld : Keeps w [(w.heap.size, 0, .int .i64 hi), (w.heap.size, 1, .int .u64 lo)] _ := Keeps.next (by refine ⟨by go_grown, ?_⟩; simp [Cells, go_sem]) hb
    clear hb
    obtain ⟨⟨kz0, kc0, kf0⟩, ⟨kz1, kc1, kf1⟩, _⟩ := hHeld.2
    go_wp2_with fail
    refine (GG.out _).mono ?_
    rintro e w2 ⟨rfl, hb⟩
    replace hHeld := Keeps.next (hHeld) hb
    clear hb kz0 kc0 kf0 kz1 kc1 kf1
    obtain ⟨⟨kz0, kc0, kf0⟩, ⟨kz1, kc1, kf1⟩, _⟩ := hHeld.2
    go_wp2_with fail
    refine (TG.out _).mono ?_
    rintro e w3 ⟨rfl, hb⟩
    replace hHeld : Keeps w [(w.heap.size, 0, .int .i64 hi), (w.heap.size, 1, .int .u64 lo), (w2.heap.size, 0, .int .u64 G0), (w2.heap.size, 1, .int .u64 G1), (w2.heap.size, 2, .int .u64 0)] _ := Keeps.next (((hHeld.alloc _).app (newK3 (hHeld.alloc _)))) hb
    clear hb kz0 kc0 kf0 kz1 kc1 kf1
    obtain ⟨⟨kz0, kc0, kf0⟩, ⟨kz1, kc1, kf1⟩, ⟨kz2, kc2, kf2⟩, ⟨kz3, kc3, kf3⟩, ⟨kz4, kc4, kf4⟩, _⟩ := hHeld.2
    go_wp2_with fail
    refine (FF.out _ hHeld.1).mono ?_
    rintro e w4 ⟨rfl, hb⟩
    replace hHeld := Keeps.next (hHeld) hb
    clear hb kz0 kc0 kf0 kz1 kc1 kf1 kz2 kc2 kf2 kz3 kc3 kf3 kz4 kc4 kf4
    obtain ⟨⟨kz0, kc0, kf0⟩, ⟨kz1, kc1, kf1⟩, ⟨kz2, kc2, kf2⟩, ⟨kz3, kc3, kf3⟩, ⟨kz4, kc4, kf4⟩, _⟩ := hHeld.2
    go_wp2_with fail
    refine wp_loop_rounds 2 ?_
    rw [rounds_succ]
    go_wp2_with fail
    refine (Q0.out _ hHeld.1).mono ?_
    rintro e w5 ⟨rfl, hb⟩
    replace hHeld := Keeps.next (hHeld) hb
    clear hb kz0 kc0 kf0 kz1 kc1 kf1 kz2 kc2 kf2 kz3 kc3 kf3 kz4 kc4 kf4
    obtain ⟨⟨kz0, kc0, kf0⟩, ⟨kz1, kc1, kf1⟩, ⟨kz2, kc2, kf2⟩, ⟨kz3, kc3, kf3⟩, ⟨kz4, kc4, kf4⟩, _⟩ := hHeld.2
    go_wp2_with fail
    rw [rounds_succ]
    go_wp2_with fail
    refine (below_is hi lo _ HS.out _).mono ?_
    rintro e w7 ⟨rfl, hb⟩
    replace hHeld := Keeps.next (hHeld) hb
    clear hb kz0 kc0 kf0 kz1 kc1 kf1 kz2 kc2 kf2 kz3 kc3 kf3 kz4 kc4 kf4
    obtain ⟨⟨kz0, kc0, kf0⟩, ⟨kz1, kc1, kf1⟩, ⟨kz2, kc2, kf2⟩, ⟨kz3, kc3, kf3⟩, ⟨kz4, kc4, kf4⟩, _⟩ := hHeld.2
    go_wp2_with fail
    go_ret
    exact ⟨by simp [str_append], hHeld.1⟩
set_option maxRecDepth 100000 in
set_option maxHeartbeats 3200000 in
theorem text_none (hi lo G0 : Int) (s : Bool) (hs : decide (hi < 0) = s) (D : List UInt8) (hD : D.length ≤ 20) (w : World)
    (FG : ∀ w, Calls Tryd.prog 42 #[wideV hi lo] w (Ret w (distV (dh (mag (val hi lo))) (dl (mag (val hi lo))))))
    (GG : ∀ w, Calls Tryd.prog 50 #[distV (dh (mag (val hi lo))) (dl (mag (val hi lo)))] w (Ret w (.agg #[.int .u64 G0, .int .u64 0, .int .u64 0])))
    (TG : ∀ w, Calls Tryd.prog 51 #[.agg #[.int .u64 G0, .int .u64 0, .int .u64 0]] w (Ret w (.int .i64 0)))
    (FF : ∀ w', Below w.heap.size w w' → Calls Tryd.prog 52 #[.int .u64 G0, .int .i64 10] w' (Ret w' (strV D))) :
    Calls Tryd.prog 27 #[wideV hi lo] w (Ret w (strV ((if s then [45] else []) ++ (D)))) := by
  have h6 : ¬ 9223372036854775807 < 1 + (D.length) := by omega
  have FG := Lib.hid FG
  have GG := Lib.hid GG
  have TG := Lib.hid TG
  have FF := Lib.hid FF
  have HS := Lib.hid hs
  clear hs
  cases s
  all_goals
    simp only [if_true, Bool.false_eq_true, if_false, List.nil_append]
    go_enter Tryd.func27, Tryd.ntmps27
    go_wp2_with fail
    refine (FG.out _).mono ?_
    rintro e w1 ⟨rfl, hb⟩
    have hHeld : Keeps w [(w.heap.size, 0, .int .i64 hi), (w.heap.size, 1, .int .u64 lo)] _ := Keeps.next (by refine ⟨by go_grown, ?_⟩; simp [Cells, go_sem]) hb
    clear hb
    obtain ⟨⟨kz0, kc0, kf0⟩, ⟨kz1, kc1, kf1⟩, _⟩ := hHeld.2
    go_wp2_with fail
    refine (GG.out _).mono ?_
    rintro e w2 ⟨rfl, hb⟩
    replace hHeld := Keeps.next (hHeld) hb
    clear hb kz0 kc0 kf0 kz1 kc1 kf1
    obtain ⟨⟨kz0, kc0, kf0⟩, ⟨kz1, kc1, kf1⟩, _⟩ := hHeld.2
    go_wp2_with fail
    refine (TG.out _).mono ?_
    rintro e w3 ⟨rfl, hb⟩
    replace hHeld : Keeps w [(w.heap.size, 0, .int .i64 hi), (w.heap.size, 1, .int .u64 lo), (w2.heap.size, 0, .int .u64 G0), (w2.heap.size, 1, .int .u64 0), (w2.heap.size, 2, .int .u64 0)] _ := Keeps.next (((hHeld.alloc _).app (newK3 (hHeld.alloc _)))) hb
    clear hb kz0 kc0 kf0 kz1 kc1 kf1
    obtain ⟨⟨kz0, kc0, kf0⟩, ⟨kz1, kc1, kf1⟩, ⟨kz2, kc2, kf2⟩, ⟨kz3, kc3, kf3⟩, ⟨kz4, kc4, kf4⟩, _⟩ := hHeld.2
    go_wp2_with fail
    refine (FF.out _ hHeld.1).mono ?_
    rintro e w4 ⟨rfl, hb⟩
    replace hHeld := Keeps.next (hHeld) hb
    clear hb kz0 kc0 kf0 kz1 kc1 kf1 kz2 kc2 kf2 kz3 kc3 kf3 kz4 kc4 kf4
    obtain ⟨⟨kz0, kc0, kf0⟩, ⟨kz1, kc1, kf1⟩, ⟨kz2, kc2, kf2⟩, ⟨kz3, kc3, kf3⟩, ⟨kz4, kc4, kf4⟩, _⟩ := hHeld.2
    go_wp2_with fail
    refine wp_loop_rounds 1 ?_
    rw [rounds_succ]
    go_wp2_with fail
    refine (below_is hi lo _ HS.out _).mono ?_
    rintro e w7 ⟨rfl, hb⟩
    replace hHeld := Keeps.next (hHeld) hb
    clear hb kz0 kc0 kf0 kz1 kc1 kf1 kz2 kc2 kf2 kz3 kc3 kf3 kz4 kc4 kf4
    obtain ⟨⟨kz0, kc0, kf0⟩, ⟨kz1, kc1, kf1⟩, ⟨kz2, kc2, kf2⟩, ⟨kz3, kc3, kf3⟩, ⟨kz4, kc4, kf4⟩, _⟩ := hHeld.2
    go_wp2_with fail
    go_ret
    exact ⟨by simp [str_append], hHeld.1⟩

theorem text_any (hi lo : Int) (h : I64 hi) (k : U64 lo) (w : World) (htab : Tab w) :
    Calls Tryd.prog 27 #[wideV hi lo] w (Ret w (strV (textL (val hi lo)))) := by
  have n0 := mag_nonneg (val hi lo)
  have n1 : mag (val hi lo) < 340282366920938463463374607431768211456 := by have := mag_fits (fits_val h k); omega
  have gg := groups_any _ _ (dh_u64 n0 n1) (dl_u64 (mag (val hi lo)))
  rw [val_d] at gg
  have e : textL (val hi lo) = (if decide (hi < 0) then [45] else []) ++ Lib.decDigits (mag (val hi lo)).toNat := by
    unfold textL
    by_cases p : hi < 0
    · rw [if_pos ((val_neg k).2 p)]; simp [p]
    · rw [if_neg (fun q => p ((val_neg k).1 q))]; simp [p]
  have fg := far_any hi lo h k
  rw [e]
  have p0 : g0 (mag (val hi lo)) < 10000000000000000000 ∧ g1 (mag (val hi lo)) < 10000000000000000000 := by unfold g0 g1; omega
  have pd0 := fun w' (hb : Below w.heap.size w w') => padded_any (g0 (mag (val hi lo))) (g0_u64 _).1 p0.1 w' (htab.on hb)
  have pd1 := fun w' (hb : Below w.heap.size w w') => padded_any (g1 (mag (val hi lo))) (g1_u64 _).1 p0.2 w' (htab.on hb)
  by_cases z2 : g2 (mag (val hi lo)) = 0
  · rw [z2] at gg
    by_cases z1 : g1 (mag (val hi lo)) = 0
    · rw [groups_none n0 n1 z2 z1]
      rw [z1] at gg
      exact text_none hi lo _ _ rfl _ (dec_length (g0_u64 _)) w fg gg (top_none _) (fun w' hb => fmtU_any _ (g0_u64 _) w' (htab.on hb))
    · rw [groups_one n0 n1 z2 z1]
      exact text_one hi lo _ _ _ rfl _ _ (dec_length (g1_u64 _)) (pad19_length _) w fg gg (top_one _ _ z1) (fun w' hb => fmtU_any _ (g1_u64 _) w' (htab.on hb)) pd0
  · rw [groups_two n0 n1 z2]
    exact text_two hi lo _ _ _ _ rfl _ _ _ (dec_length (g2_u64 _)) (pad19_length _) (pad19_length _) w fg gg (top_two _ _ _ z2) (fun w' hb => fmtU_any _ (g2_u64 _) w' (htab.on hb)) pd1 pd0
end Go.Proofs.YtinppckjolkhpaaDoor
