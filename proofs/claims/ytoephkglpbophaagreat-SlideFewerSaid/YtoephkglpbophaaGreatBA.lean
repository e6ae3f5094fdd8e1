/-
  Layer 8: pmc: bands; whether one may be, and whether bands may be. Conditions: those written at each fact.
-/
import Derived.Maps.RangeWalk
import Derived.Test.YtoephkglpbophaaGreatSB
import Derived.Test.YtoephkglpbophaaGreatKitY
import Derived.Test.YtoephkglpbophaaGreatRead
import Derived.Deep.QuietTactic
import Derived.BigQuiet
import Derived.WalkSmall
import Derived.WalkMore
import Derived.Test.YtoephkglpbophaaGreatIter
import Derived.Test.YtoephkglpbophaaGreatKitX
import Derived.Maps.AppendAt
import Derived.Maps.OwnIn
import Derived.Laws.Rows
import Derived.RangeFuncNested
import Derived.Shelf.RegionOpen
namespace Go.Proofs.YtoephkglpbophaaGreat.P8
open Go.RowKit

/-- A band: a time, and from where to where. -/
structure Bd where
  t : Int
  lo : Int
  hi : Int
abbrev bandV (b : Bd) : Value := .agg #[.int .i64 b.t, .int .i64 b.lo, .int .i64 b.hi]
/-- May this be a band? -/
def bandB (b : Bd) : Bool := decide (0 ≤ b.t) && (decide (b.t ≤ 281474976710656) && withinB b.lo b.hi (-2305844108725321728) 2305844108725321728)
/-- A band that may be. -/
def BdOk (b : Bd) : Prop := 0 ≤ b.t ∧ b.t ≤ 281474976710656 ∧ b.lo ≤ b.hi ∧ -2305844108725321728 ≤ b.lo ∧ b.hi ≤ 2305844108725321728
theorem bandB_iff (b : Bd) : bandB b = true ↔ BdOk b := by
  unfold bandB BdOk withinB
  simp only [Bool.and_eq_true, decide_eq_true_eq]
  omega
theorem i64_keeps {x : Int} (h1 : -9223372036854775808 ≤ x) (h2 : x ≤ 9223372036854775807) : wrap64 x = x := by unfold wrap64; omega
theorem past1 {w w1 : World} {o : Obj} (hb : Below (w.alloc o).heap.size (w.alloc o) w1) : Below w.heap.size w w1 := under (below_alloc w o) hb
theorem told_any (w : World) : Calls Tryz.prog 38 #[] w (Ret w (spV (-2305844108725321728) 2305844108725321728)) := by
  go_enter Tryz.func38, Tryz.ntmps38
  go_wp2
  go_returns
  exact ⟨rfl, by go_grown⟩
set_option maxRecDepth 100000 in
set_option maxHeartbeats 1000000 in
theorem isBand_any (t lo hi : Int) (w : World) : Calls Tryz.prog 17 #[bandV ⟨t, lo, hi⟩] w (Ret w (.bool (bandB ⟨t, lo, hi⟩))) := by
  by_cases g1 : 0 ≤ t
  · by_cases g2 : t ≤ 281474976710656
    · have WI := Lib.hid (fun W => swithin_any lo hi (-2305844108725321728) 2305844108725321728 W)
      have MB := Lib.hid (fun W => told_any W)
      have e : bandB ⟨t, lo, hi⟩ = withinB lo hi (-2305844108725321728) 2305844108725321728 := by simp [bandB, g1, g2]
      rw [e]
      clear e
      generalize withinB lo hi (-2305844108725321728) 2305844108725321728 = r at *
      go_enter Tryz.func17, Tryz.ntmps17
      go_wp2_with fail
      refine region_keeps (w0 := w) (L := [(w.heap.size, 0, .int .i64 t), (w.heap.size, 1, .int .i64 lo), (w.heap.size, 2, .int .i64 hi)]) (by kernel_rfl) (by first | exact hHeld | (refine ⟨by go_grown, ?_⟩; simp [Cells, go_sem]; done)) (fun hHeld0 => ?_)
      refine wpAnyH_take (i := 0) (oi := ⟨some 3, _, _, _, _, _⟩) (v := ?_) rfl (by kernel_rfl) (by kernel_rfl) (by kernel_rfl) (fun _ _ _ h => h) (Or.inl ⟨by rfl, ?_⟩) (by assumption) ?_
      rotate_left
      · intro wq hSw; go_simp; (try with_reducible rfl)
      try go_frame
      refine wpAnyH_take (i := 1) (oi := ⟨some 4, _, _, _, _, _⟩) (v := ?_) rfl (by kernel_rfl) (by kernel_rfl) (by kernel_rfl) (fun _ _ _ h => h) (Or.inl ⟨by rfl, ?_⟩) (by assumption) ?_
      rotate_left
      · intro wq hSw; obtain ⟨⟨qz0, qc0, qf0⟩, ⟨qz1, qc1, qf1⟩, ⟨qz2, qc2, qf2⟩, _⟩ := hSw.2; go_simp; (try with_reducible rfl)
      try go_frame
      refine wpAnyH_take (i := 2) (oi := ⟨some 5, _, _, _, _, _⟩) (v := ?_) rfl (by kernel_rfl) (by kernel_rfl) (by kernel_rfl) (fun _ _ _ h => h) (Or.inl ⟨by rfl, ?_⟩) (by assumption) ?_
      rotate_left
      · intro wq hSw; go_simp; (try with_reducible rfl)
      try go_frame
      refine wpAnyH_take (i := 3) (oi := ⟨some 6, _, _, _, _, _⟩) (v := ?_) rfl (by kernel_rfl) (by kernel_rfl) (by kernel_rfl) (fun _ _ _ h => h) (Or.inl ⟨by rfl, ?_⟩) (by assumption) ?_
      rotate_left
      · intro wq hSw; go_simp; (try with_reducible rfl)
      try go_frame
      refine wpAnyH_take (i := 4) (oi := ⟨some 7, _, _, _, _, _⟩) (v := ?_) rfl (by kernel_rfl) (by kernel_rfl) (by kernel_rfl) (fun _ _ _ h => h) (Or.inl ⟨by rfl, ?_⟩) (by assumption) ?_
      rotate_left
      · intro wq hSw; go_simp; (try with_reducible rfl)
      try go_frame
      refine wpAnyH_take (i := 5) (oi := ⟨some 8, _, _, _, _, _⟩) (v := ?_) rfl (by kernel_rfl) (by kernel_rfl) (by kernel_rfl) (fun _ _ _ h => h) (Or.inl ⟨by rfl, ?_⟩) (by assumption) ?_
      rotate_left
      · intro wq hSw; obtain ⟨⟨qz0, qc0, qf0⟩, ⟨qz1, qc1, qf1⟩, ⟨qz2, qc2, qf2⟩, _⟩ := hSw.2; go_simp; (try with_reducible rfl)
      try go_frame
      refine wpAnyH_take (i := 6) (oi := ⟨some 9, _, _, _, _, _⟩) (v := ?_) rfl (by kernel_rfl) (by kernel_rfl) (by kernel_rfl) (fun _ _ _ h => h) (Or.inl ⟨by rfl, ?_⟩) (by assumption) ?_
      rotate_left
      · intro wq hSw; go_simp; (try with_reducible rfl)
      try go_frame
      refine wpAnyH_take (i := 7) (oi := ⟨some 10, _, _, _, _, _⟩) (v := ?_) rfl (by kernel_rfl) (by kernel_rfl) (by kernel_rfl) (fun _ _ _ h => h) (Or.inl ⟨by rfl, ?_⟩) (by assumption) ?_
      rotate_left
      · intro wq hSw; go_simp; (try with_reducible rfl)
      try go_frame
      refine wpAnyH_take (i := 8) (oi := ⟨some 11, _, _, _, _, _⟩) (v := ?_) rfl (by kernel_rfl) (by kernel_rfl) (by kernel_rfl) (fun _ _ _ h => h) (Or.inl ⟨by rfl, ?_⟩) (by assumption) ?_
      rotate_left
      · intro wq hSw; go_simp; (try with_reducible rfl)
      try go_frame
      refine wpAnyH_take (i := 9) (oi := ⟨some 12, _, _, _, _, _⟩) (v := ?_) rfl (by kernel_rfl) (by kernel_rfl) (by kernel_rfl) (fun _ _ _ h => h) (Or.inl ⟨by rfl, ?_⟩) (by assumption) ?_
      rotate_left
      · intro wq hSw; go_simp; (try with_reducible rfl)
      try go_frame
      refine wpAnyH_take (i := 10) (oi := ⟨some 13, _, _, _, _, _⟩) (v := ?_) rfl (by kernel_rfl) (by kernel_rfl) (by kernel_rfl) (fun _ _ _ h => h) (Or.inl ⟨by rfl, ?_⟩) (by assumption) ?_
      rotate_left
      · intro wq hSw; obtain ⟨⟨qz0, qc0, qf0⟩, ⟨qz1, qc1, qf1⟩, ⟨qz2, qc2, qf2⟩, _⟩ := hSw.2; go_simp; (try with_reducible rfl)
      try go_frame
      refine wpAnyH_take (i := 11) (oi := ⟨some 14, _, _, _, _, _⟩) (v := ?_) rfl (by kernel_rfl) (by kernel_rfl) (by kernel_rfl) (fun _ _ _ h => h) (Or.inl ⟨by rfl, ?_⟩) (by assumption) ?_
      rotate_left
      · intro wq hSw; go_simp; (try with_reducible rfl)
      try go_frame
      refine wpAnyH_take (i := 12) (oi := ⟨some 15, _, _, _, _, _⟩) (v := ?_) rfl (by kernel_rfl) (by kernel_rfl) (by kernel_rfl) (fun _ _ _ h => h) (Or.inl ⟨by rfl, ?_⟩) (by assumption) ?_
      rotate_left
      · intro wq hSw; obtain ⟨⟨qz0, qc0, qf0⟩, ⟨qz1, qc1, qf1⟩, ⟨qz2, qc2, qf2⟩, _⟩ := hSw.2; go_simp; (try with_reducible rfl)
      try go_frame
      refine wpAnyH_take (i := 13) (oi := ⟨some 16, _, _, _, _, _⟩) (v := ?_) rfl (by kernel_rfl) (by kernel_rfl) (by kernel_rfl) (fun _ _ _ h => h) (Or.inl ⟨by rfl, ?_⟩) (by assumption) ?_
      rotate_left
      · intro wq hSw; go_simp; (try with_reducible rfl)
      try go_frame
      refine wpAnyH_ready (rs := [14]) (by kernel_rfl) (by simp) ?_
      refine AllReadyH.cons (o := ⟨some 17, _, _, _, _, _⟩) rfl (fun K hK => ?_) AllReadyH.nil
      go_simp
      (first | (with_reducible refine (WI.out _).mono ?_) | (with_reducible refine (MB.out _).mono ?_)); rintro e w5 ⟨rfl, hb⟩
      refine hK.out _ _ (hHeld0.next hb) (fun hHeld1 => ?_)
      clear hK K
      try clear hb
      try go_frame
      refine wpAnyH_ready (rs := [15]) (by kernel_rfl) (by simp) ?_
      refine AllReadyH.cons (o := ⟨some 18, _, _, _, _, _⟩) rfl (fun K hK => ?_) AllReadyH.nil
      go_simp
      (first | (with_reducible refine (WI.out _).mono ?_) | (with_reducible refine (MB.out _).mono ?_)); rintro e w5 ⟨rfl, hb⟩
      refine hK.out _ _ (hHeld1.next hb) (fun hHeld2 => ?_)
      clear hK K
      try clear hb
      try go_frame
      refine wpAnyH_take (i := 16) (oi := ⟨some 19, _, _, _, _, _⟩) (v := ?_) rfl (by kernel_rfl) (by kernel_rfl) (by kernel_rfl) (fun _ _ _ h => h) (Or.inl ⟨by rfl, ?_⟩) (by assumption) ?_
      rotate_left
      · intro wq hSw; go_simp; (try with_reducible rfl)
      try go_frame
      refine wpAnyH_take (i := 17) (oi := ⟨some 2, _, _, _, _, _⟩) (v := ?_) rfl (by kernel_rfl) (by kernel_rfl) (by kernel_rfl) (fun _ _ _ h => h) (Or.inl ⟨by rfl, ?_⟩) (by assumption) ?_
      rotate_left
      · intro wq hSw; go_simp; (try with_reducible rfl)
      try go_frame
      refine wpAnyH_done (by kernel_rfl) ?_ _
      have hHeld := hHeld2
      obtain ⟨⟨kz0, kc0, kf0⟩, ⟨kz1, kc1, kf1⟩, ⟨kz2, kc2, kf2⟩, _⟩ := hHeld.2
      all_goals
        go_wp2_with fail
        go_ret
        exact ⟨rfl, hHeld.1⟩
    · have e : bandB ⟨t, lo, hi⟩ = false := by simp [bandB, g2]
      rw [e]
      clear e
      go_enter Tryz.func17, Tryz.ntmps17
      go_wp2_with fail
      have d2 : decide (t ≤ 281474976710656) = false := decide_eq_false (by omega)
      refine region_keeps (w0 := w) (L := [(w.heap.size, 0, .int .i64 t), (w.heap.size, 1, .int .i64 lo), (w.heap.size, 2, .int .i64 hi)]) (by kernel_rfl) (by first | exact hHeld | (refine ⟨by go_grown, ?_⟩; simp [Cells, go_sem]; done)) (fun hHeld0 => ?_)
      refine wpAnyH_take (i := 0) (oi := ⟨some 3, _, _, _, _, _⟩) (v := ?_) rfl (by kernel_rfl) (by kernel_rfl) (by kernel_rfl) (fun _ _ _ h => h) (Or.inl ⟨by rfl, ?_⟩) (by assumption) ?_
      rotate_left
      · intro wq hSw; go_simp; (try with_reducible rfl)
      try go_frame
      refine wpAnyH_take (i := 1) (oi := ⟨some 4, _, _, _, _, _⟩) (v := ?_) rfl (by kernel_rfl) (by kernel_rfl) (by kernel_rfl) (fun _ _ _ h => h) (Or.inl ⟨by rfl, ?_⟩) (by assumption) ?_
      rotate_left
      · intro wq hSw; obtain ⟨⟨qz0, qc0, qf0⟩, ⟨qz1, qc1, qf1⟩, ⟨qz2, qc2, qf2⟩, _⟩ := hSw.2; go_simp; (try with_reducible rfl)
      try go_frame
      refine wpAnyH_take (i := 2) (oi := ⟨some 5, _, _, _, _, _⟩) (v := ?_) rfl (by kernel_rfl) (by kernel_rfl) (by kernel_rfl) (fun _ _ _ h => h) (Or.inl ⟨by rfl, ?_⟩) (by assumption) ?_
      rotate_left
      · intro wq hSw; go_simp; (try with_reducible rfl)
      try go_frame
      refine wpAnyH_take (i := 3) (oi := ⟨some 6, _, _, _, _, _⟩) (v := ?_) rfl (by kernel_rfl) (by kernel_rfl) (by kernel_rfl) (fun _ _ _ h => h) (Or.inl ⟨by rfl, ?_⟩) (by assumption) ?_
      rotate_left
      · intro wq hSw; go_simp; (try with_reducible rfl)
      try go_frame
      refine wpAnyH_take (i := 4) (oi := ⟨some 7, _, _, _, _, _⟩) (v := ?_) rfl (by kernel_rfl) (by kernel_rfl) (by kernel_rfl) (fun _ _ _ h => h) (Or.inl ⟨by rfl, ?_⟩) (by assumption) ?_
      rotate_left
      · intro wq hSw; go_simp; (try with_reducible rfl)
      try go_frame
      refine wpAnyH_take (i := 5) (oi := ⟨some 8, _, _, _, _, _⟩) (v := ?_) rfl (by kernel_rfl) (by kernel_rfl) (by kernel_rfl) (fun _ _ _ h => h) (Or.inl ⟨by rfl, ?_⟩) (by assumption) ?_
      rotate_left
      · intro wq hSw; obtain ⟨⟨qz0, qc0, qf0⟩, ⟨qz1, qc1, qf1⟩, ⟨qz2, qc2, qf2⟩, _⟩ := hSw.2; go_simp; (try with_reducible rfl)
      try go_frame
      refine wpAnyH_take (i := 6) (oi := ⟨some 9, _, _, _, _, _⟩) (v := ?_) rfl (by kernel_rfl) (by kernel_rfl) (by kernel_rfl) (fun _ _ _ h => h) (Or.inl ⟨by rfl, ?_⟩) (by assumption) ?_
      rotate_left
      · intro wq hSw; go_simp; (try with_reducible rfl)
      try go_frame
      refine wpAnyH_take (i := 7) (oi := ⟨some 10, _, _, _, _, _⟩) (v := ?_) rfl (by kernel_rfl) (by kernel_rfl) (by kernel_rfl) (fun _ _ _ h => h) (Or.inl ⟨by rfl, ?_⟩) (by assumption) ?_
      rotate_left
      · intro wq hSw; go_simp; (try with_reducible rfl)
      try go_frame
      refine wpAnyH_take (i := 8) (oi := ⟨some 11, _, _, _, _, _⟩) (v := ?_) rfl (by kernel_rfl) (by kernel_rfl) (by kernel_rfl) (fun _ _ _ h => h) (Or.inl ⟨by rfl, ?_⟩) (by assumption) ?_
      rotate_left
      · intro wq hSw; go_simp; (try with_reducible rfl)
      try go_frame
      refine wpAnyH_take (i := 9) (oi := ⟨some 12, _, _, _, _, _⟩) (v := undef) rfl (by kernel_rfl) (by kernel_rfl) (by kernel_rfl) (fun _ _ _ h => h) (Or.inr ⟨by rfl, rfl⟩) (by assumption) ?_
      try go_frame
      refine wpAnyH_take (i := 10) (oi := ⟨some 13, _, _, _, _, _⟩) (v := undef) rfl (by kernel_rfl) (by kernel_rfl) (by kernel_rfl) (fun _ _ _ h => h) (Or.inr ⟨by rfl, rfl⟩) (by assumption) ?_
      try go_frame
      refine wpAnyH_take (i := 11) (oi := ⟨some 14, _, _, _, _, _⟩) (v := undef) rfl (by kernel_rfl) (by kernel_rfl) (by kernel_rfl) (fun _ _ _ h => h) (Or.inr ⟨by rfl, rfl⟩) (by assumption) ?_
      try go_frame
      refine wpAnyH_take (i := 12) (oi := ⟨some 15, _, _, _, _, _⟩) (v := undef) rfl (by kernel_rfl) (by kernel_rfl) (by kernel_rfl) (fun _ _ _ h => h) (Or.inr ⟨by rfl, rfl⟩) (by assumption) ?_
      try go_frame
      refine wpAnyH_take (i := 13) (oi := ⟨some 16, _, _, _, _, _⟩) (v := undef) rfl (by kernel_rfl) (by kernel_rfl) (by kernel_rfl) (fun _ _ _ h => h) (Or.inr ⟨by rfl, rfl⟩) (by assumption) ?_
      try go_frame
      refine wpAnyH_take (i := 14) (oi := ⟨some 17, _, _, _, _, _⟩) (v := undef) rfl (by kernel_rfl) (by kernel_rfl) (by kernel_rfl) (fun _ _ _ h => h) (Or.inr ⟨by rfl, rfl⟩) (by assumption) ?_
      try go_frame
      refine wpAnyH_take (i := 15) (oi := ⟨some 18, _, _, _, _, _⟩) (v := undef) rfl (by kernel_rfl) (by kernel_rfl) (by kernel_rfl) (fun _ _ _ h => h) (Or.inr ⟨by rfl, rfl⟩) (by assumption) ?_
      try go_frame
      refine wpAnyH_take (i := 16) (oi := ⟨some 19, _, _, _, _, _⟩) (v := ?_) rfl (by kernel_rfl) (by kernel_rfl) (by kernel_rfl) (fun _ _ _ h => h) (Or.inl ⟨by rfl, ?_⟩) (by assumption) ?_
      rotate_left
      · intro wq hSw; go_simp; (try with_reducible rfl)
      try go_frame
      refine wpAnyH_take (i := 17) (oi := ⟨some 2, _, _, _, _, _⟩) (v := ?_) rfl (by kernel_rfl) (by kernel_rfl) (by kernel_rfl) (fun _ _ _ h => h) (Or.inl ⟨by rfl, ?_⟩) (by assumption) ?_
      rotate_left
      · intro wq hSw; go_simp; (try with_reducible rfl)
      try go_frame
      refine wpAnyH_done (by kernel_rfl) ?_ _
      have hHeld := hHeld0
      obtain ⟨⟨kz0, kc0, kf0⟩, ⟨kz1, kc1, kf1⟩, ⟨kz2, kc2, kf2⟩, _⟩ := hHeld.2
      all_goals
        go_wp2_with fail
        go_ret
        exact ⟨rfl, hHeld.1⟩
  · have e : bandB ⟨t, lo, hi⟩ = false := by simp [bandB, g1]
    rw [e]
    clear e
    go_enter Tryz.func17, Tryz.ntmps17
    go_wp2_with fail
    have d1 : decide (0 ≤ t) = false := decide_eq_false (by omega)
    refine region_keeps (w0 := w) (L := [(w.heap.size, 0, .int .i64 t), (w.heap.size, 1, .int .i64 lo), (w.heap.size, 2, .int .i64 hi)]) (by kernel_rfl) (by first | exact hHeld | (refine ⟨by go_grown, ?_⟩; simp [Cells, go_sem]; done)) (fun hHeld0 => ?_)
    refine wpAnyH_take (i := 0) (oi := ⟨some 3, _, _, _, _, _⟩) (v := ?_) rfl (by kernel_rfl) (by kernel_rfl) (by kernel_rfl) (fun _ _ _ h => h) (Or.inl ⟨by rfl, ?_⟩) (by assumption) ?_
    rotate_left
    · intro wq hSw; go_simp; (try with_reducible rfl)
    try go_frame
    refine wpAnyH_take (i := 1) (oi := ⟨some 4, _, _, _, _, _⟩) (v := ?_) rfl (by kernel_rfl) (by kernel_rfl) (by kernel_rfl) (fun _ _ _ h => h) (Or.inl ⟨by rfl, ?_⟩) (by assumption) ?_
    rotate_left
    · intro wq hSw; obtain ⟨⟨qz0, qc0, qf0⟩, ⟨qz1, qc1, qf1⟩, ⟨qz2, qc2, qf2⟩, _⟩ := hSw.2; go_simp; (try with_reducible rfl)
    try go_frame
    refine wpAnyH_take (i := 2) (oi := ⟨some 5, _, _, _, _, _⟩) (v := ?_) rfl (by kernel_rfl) (by kernel_rfl) (by kernel_rfl) (fun _ _ _ h => h) (Or.inl ⟨by rfl, ?_⟩) (by assumption) ?_
    rotate_left
    · intro wq hSw; go_simp; (try with_reducible rfl)
    try go_frame
    refine wpAnyH_take (i := 3) (oi := ⟨some 6, _, _, _, _, _⟩) (v := ?_) rfl (by kernel_rfl) (by kernel_rfl) (by kernel_rfl) (fun _ _ _ h => h) (Or.inl ⟨by rfl, ?_⟩) (by assumption) ?_
    rotate_left
    · intro wq hSw; go_simp; (try with_reducible rfl)
    try go_frame
    refine wpAnyH_take (i := 4) (oi := ⟨some 7, _, _, _, _, _⟩) (v := undef) rfl (by kernel_rfl) (by kernel_rfl) (by kernel_rfl) (fun _ _ _ h => h) (Or.inr ⟨by rfl, rfl⟩) (by assumption) ?_
    try go_frame
    refine wpAnyH_take (i := 5) (oi := ⟨some 8, _, _, _, _, _⟩) (v := undef) rfl (by kernel_rfl) (by kernel_rfl) (by kernel_rfl) (fun _ _ _ h => h) (Or.inr ⟨by rfl, rfl⟩) (by assumption) ?_
    try go_frame
    refine wpAnyH_take (i := 6) (oi := ⟨some 9, _, _, _, _, _⟩) (v := undef) rfl (by kernel_rfl) (by kernel_rfl) (by kernel_rfl) (fun _ _ _ h => h) (Or.inr ⟨by rfl, rfl⟩) (by assumption) ?_
    try go_frame
    refine wpAnyH_take (i := 7) (oi := ⟨some 10, _, _, _, _, _⟩) (v := ?_) rfl (by kernel_rfl) (by kernel_rfl) (by kernel_rfl) (fun _ _ _ h => h) (Or.inl ⟨by rfl, ?_⟩) (by assumption) ?_
    rotate_left
    · intro wq hSw; go_simp; (try with_reducible rfl)
    try go_frame
    refine wpAnyH_take (i := 8) (oi := ⟨some 11, _, _, _, _, _⟩) (v := ?_) rfl (by kernel_rfl) (by kernel_rfl) (by kernel_rfl) (fun _ _ _ h => h) (Or.inl ⟨by rfl, ?_⟩) (by assumption) ?_
    rotate_left
    · intro wq hSw; go_simp; (try with_reducible rfl)
    try go_frame
    refine wpAnyH_take (i := 9) (oi := ⟨some 12, _, _, _, _, _⟩) (v := undef) rfl (by kernel_rfl) (by kernel_rfl) (by kernel_rfl) (fun _ _ _ h => h) (Or.inr ⟨by rfl, rfl⟩) (by assumption) ?_
    try go_frame
    refine wpAnyH_take (i := 10) (oi := ⟨some 13, _, _, _, _, _⟩) (v := undef) rfl (by kernel_rfl) (by kernel_rfl) (by kernel_rfl) (fun _ _ _ h => h) (Or.inr ⟨by rfl, rfl⟩) (by assumption) ?_
    try go_frame
    refine wpAnyH_take (i := 11) (oi := ⟨some 14, _, _, _, _, _⟩) (v := undef) rfl (by kernel_rfl) (by kernel_rfl) (by kernel_rfl) (fun _ _ _ h => h) (Or.inr ⟨by rfl, rfl⟩) (by assumption) ?_
    try go_frame
    refine wpAnyH_take (i := 12) (oi := ⟨some 15, _, _, _, _, _⟩) (v := undef) rfl (by kernel_rfl) (by kernel_rfl) (by kernel_rfl) (fun _ _ _ h => h) (Or.inr ⟨by rfl, rfl⟩) (by assumption) ?_
    try go_frame
    refine wpAnyH_take (i := 13) (oi := ⟨some 16, _, _, _, _, _⟩) (v := undef) rfl (by kernel_rfl) (by kernel_rfl) (by kernel_rfl) (fun _ _ _ h => h) (Or.inr ⟨by rfl, rfl⟩) (by assumption) ?_
    try go_frame
    refine wpAnyH_take (i := 14) (oi := ⟨some 17, _, _, _, _, _⟩) (v := undef) rfl (by kernel_rfl) (by kernel_rfl) (by kernel_rfl) (fun _ _ _ h => h) (Or.inr ⟨by rfl, rfl⟩) (by assumption) ?_
    try go_frame
    refine wpAnyH_take (i := 15) (oi := ⟨some 18, _, _, _, _, _⟩) (v := undef) rfl (by kernel_rfl) (by kernel_rfl) (by kernel_rfl) (fun _ _ _ h => h) (Or.inr ⟨by rfl, rfl⟩) (by assumption) ?_
    try go_frame
    refine wpAnyH_take (i := 16) (oi := ⟨some 19, _, _, _, _, _⟩) (v := ?_) rfl (by kernel_rfl) (by kernel_rfl) (by kernel_rfl) (fun _ _ _ h => h) (Or.inl ⟨by rfl, ?_⟩) (by assumption) ?_
    rotate_left
    · intro wq hSw; go_simp; (try with_reducible rfl)
    try go_frame
    refine wpAnyH_take (i := 17) (oi := ⟨some 2, _, _, _, _, _⟩) (v := ?_) rfl (by kernel_rfl) (by kernel_rfl) (by kernel_rfl) (fun _ _ _ h => h) (Or.inl ⟨by rfl, ?_⟩) (by assumption) ?_
    rotate_left
    · intro wq hSw; go_simp; (try with_reducible rfl)
    try go_frame
    refine wpAnyH_done (by kernel_rfl) ?_ _
    have hHeld := hHeld0
    obtain ⟨⟨kz0, kc0, kf0⟩, ⟨kz1, kc1, kf1⟩, ⟨kz2, kc2, kf2⟩, _⟩ := hHeld.2
    all_goals
      go_wp2_with fail
      go_ret
      exact ⟨rfl, hHeld.1⟩
end Go.Proofs.YtoephkglpbophaaGreat.P8

/-
  Layer 8: pmc: Check: may bands be? Conditions: those written at each fact.
-/
namespace Go.Proofs.YtoephkglpbophaaGreat.P8
open Go.RowKit

/-- The slice v reads as these bands. -/
def ReadsD (w : World) (v : Value) (l : List Bd) : Prop :=
  ∃ A c, v = .slice A l.length c ∧ l.length ≤ c ∧ ∀ i r, l[i]? = some r → ∃ b off, A = some ⟨b, off, none⟩ ∧ b < w.heap.size ∧ w.cell? ⟨b, off + i * 3, none⟩ = some (.int .i64 r.t) ∧ w.cell? ⟨b, off + i * 3 + 1, none⟩ = some (.int .i64 r.lo) ∧ w.cell? ⟨b, off + i * 3 + 2, none⟩ = some (.int .i64 r.hi)
theorem ReadsD.below {w w' : World} {v : Value} {l : List Bd} (h : ReadsD w v l) (hb : Below w.heap.size w w') : ReadsD w' v l := by
  obtain ⟨A, c, e, hc, hk⟩ := h
  refine ⟨A, c, e, hc, fun i s hi => ?_⟩
  obtain ⟨b, off, e1, e2, e3, e4, e5⟩ := hk i s hi
  exact ⟨b, off, e1, Nat.lt_of_lt_of_le e2 hb.size, (hb.cell (by exact e2)).trans e3, (hb.cell (by exact e2)).trans e4, (hb.cell (by exact e2)).trans e5⟩
/-- May the rest of bands be, behind the time p? -/
def restD : Option Int → List Bd → Bool
  | _, [] => true
  | p, b :: l => bandB b && ((match p with | none => true | some a => decide (a < b.t)) && restD (some b.t) l)
/-- May bands be? -/
def okD (l : List Bd) : Bool := decide (1 ≤ l.length) && (decide (l.length ≤ 256) && restD none l)
/-- The time ahead of place k. -/
def aheadD (l : List Bd) : Nat → Option Int
  | 0 => none
  | k + 1 => (l[k]?).map (·.t)
theorem restD_drop {l : List Bd} {k : Nat} {r : Bd} (h : l[k]? = some r) (p : Option Int) : restD p (l.drop k) = (bandB r && ((match p with | none => true | some a => decide (a < r.t)) && restD (some r.t) (l.drop (k + 1)))) := by
  obtain ⟨a1, e1⟩ := List.getElem?_eq_some_iff.1 h
  rw [List.drop_eq_getElem_cons a1, e1]
  rfl
theorem index_less {k n : Nat} (h : k < n) : n - (intOf (Value.int .i64 ((k : Int) + 1))).toNat < n - (intOf (Value.int .i64 (k : Int))).toNat := by simp [intOf]; omega
theorem restD_all : ∀ {l : List Bd} {p : Option Int}, restD p l = true → ∀ b ∈ l, BdOk b
  | [], _, _, _, hb => by simp at hb
  | x :: l, p, h, b, hb => by
    simp only [restD, Bool.and_eq_true] at h
    rcases List.mem_cons.1 hb with rfl | hb
    · exact (bandB_iff _).1 h.1
    · exact restD_all h.2.2 b hb
theorem okD_facts {l : List Bd} (h : okD l = true) : 1 ≤ l.length ∧ l.length ≤ 256 ∧ ∀ b ∈ l, BdOk b := by
  unfold okD at h
  simp only [Bool.and_eq_true, decide_eq_true_eq] at h
  exact ⟨h.1, h.2.1, restD_all h.2.2⟩

set_option maxRecDepth 100000 in
set_option maxHeartbeats 2000000 in
theorem bcheck_any (l : List Bd) (hl : l.length ≤ 9223372036854775807) (v : Value) (w : World) (h : ReadsD w v l) : Calls Tryz.prog 6 #[v] w (Ret w (.int .i64 (if okD l then 0 else 180))) := by
  obtain ⟨A, c, rfl, hc, hk⟩ := h
  have HK := Lib.hid hk
  clear hk
  obtain ⟨R, hR⟩ : ∃ R : Int, R = (if okD l then 0 else 180) := ⟨_, rfl⟩
  rw [← hR]
  by_cases g0 : (l.length : Int) < 1
  · have e : okD l = false := by
      have : ¬ 1 ≤ l.length := by omega
      simp [okD, this]
    rw [hR, e]
    clear e hR
    go_enter Tryz.func6, Tryz.ntmps6
    go_wp2_with fail
    go_ret
    exact ⟨rfl, by go_grown⟩
  by_cases g1 : 256 < (l.length : Int)
  · have e : okD l = false := by
      have : ¬ l.length ≤ 256 := by omega
      simp [okD, this]
    rw [hR, e]
    clear e hR
    go_enter Tryz.func6, Tryz.ntmps6
    go_wp2_with fail
    go_ret
    exact ⟨rfl, by go_grown⟩
  have OE : Hid (okD l = restD none l) := Lib.hid (by
    have h1 : 1 ≤ l.length := by omega
    have h2 : l.length ≤ 256 := by omega
    simp [okD, h1, h2])
  replace hR := Lib.hid hR
  go_enter Tryz.func6, Tryz.ntmps6
  go_wp2_with fail
  go_loopw [15] (fun i wr => ∃ (k : Nat), i = .int .i64 k ∧ k ≤ l.length ∧ Hid (okD l = restD (aheadD l k) (l.drop k)) ∧ Below w.heap.size w wr) (fun i _ => l.length - (intOf i).toNat)
  case atStart => exact ⟨0, rfl, by omega, Lib.hid (by simpa [aheadD] using OE.out), by go_grown⟩
  case round =>
    obtain ⟨k, rfl, hkl, hO, hB⟩ := hrel
    have hHeld : Keeps w [] wr := ⟨hB, trivial⟩
    by_cases gk : k < l.length
    · obtain ⟨⟨t, lo, hi⟩, hx⟩ : ∃ s, l[k]? = some s := ⟨_, List.getElem?_eq_getElem gk⟩
      obtain ⟨bb, off, rfl, hbw, hc1, hc2, hc3⟩ := HK.out k _ hx
      have c1 := (hB.cell (p := ⟨bb, off + k * 3, none⟩) hbw).trans hc1
      have c2 := (hB.cell (p := ⟨bb, off + k * 3 + 1, none⟩) hbw).trans hc2
      have c3 := (hB.cell (p := ⟨bb, off + k * 3 + 2, none⟩) hbw).trans hc3
      simp only at c1 c2 c3
      have i1 : (k : Int) < (l.length : Int) := by omega
      have i0 : (0 : Int) ≤ (k : Int) := by omega
      have RD := Lib.hid (restD_drop hx (aheadD l k))
      have HX := Lib.hid hx
      have IB := Lib.hid (isBand_any t lo hi)
      clear hc1 hc2 hc3 hx OE hB
      cases gt : bandB ⟨t, lo, hi⟩
      · have hO2 : Hid (R = 180) := Lib.hid (by rw [hR.out, hO.out, RD.out, gt]; rfl)
        rw [gt] at IB
        clear hO RD gt hR
        go_wp2_with fail
        replace hHeld := (hHeld.alloc (.cells #[.int .i64 t, .int .i64 lo, .int .i64 hi] 46)).app (newK3 (hHeld.alloc (.cells #[.int .i64 t, .int .i64 lo, .int .i64 hi] 46)))
        refine region_keeps (w0 := w) (L := [(wr.heap.size, 0, .int .i64 t), (wr.heap.size, 1, .int .i64 lo), (wr.heap.size, 2, .int .i64 hi)]) (by kernel_rfl) hHeld (fun hHeld0 => ?_)
        refine wpAnyH_take (i := 0) (oi := ⟨some 20, _, _, _, _, _⟩) (v := ?_) rfl (by kernel_rfl) (by kernel_rfl) (by kernel_rfl) (fun _ _ _ h => h) (Or.inl ⟨by rfl, ?_⟩) (by assumption) ?_
        rotate_left
        · intro wq hSw; obtain ⟨⟨qz0, qc0, qf0⟩, ⟨qz1, qc1, qf1⟩, ⟨qz2, qc2, qf2⟩, _⟩ := hSw.2; go_simp; (try with_reducible rfl)
        try go_frame
        refine wpAnyH_ready (rs := [1]) (by kernel_rfl) (by simp) ?_
        refine AllReadyH.cons (o := ⟨some 21, _, _, _, _, _⟩) rfl (fun K hK => ?_) AllReadyH.nil
        go_simp
        (with_reducible refine (IB.out _).mono ?_); rintro e w5 ⟨rfl, hb⟩
        refine hK.out _ _ (hHeld0.next hb) (fun hHeld1 => ?_)
        clear hK K
        try clear hb
        try go_frame
        refine wpAnyH_take (i := 2) (oi := ⟨some 22, _, _, _, _, _⟩) (v := ?_) rfl (by kernel_rfl) (by kernel_rfl) (by kernel_rfl) (fun _ _ _ h => h) (Or.inl ⟨by rfl, ?_⟩) (by assumption) ?_
        rotate_left
        · intro wq hSw; go_simp; (try with_reducible rfl)
        try go_frame
        refine wpAnyH_take (i := 3) (oi := ⟨some 23, _, _, _, _, _⟩) (v := ?_) rfl (by kernel_rfl) (by kernel_rfl) (by kernel_rfl) (fun _ _ _ h => h) (Or.inl ⟨by rfl, ?_⟩) (by assumption) ?_
        rotate_left
        · intro wq hSw; go_simp; (try with_reducible rfl)
        try go_frame
        refine wpAnyH_take (i := 4) (oi := ⟨some 24, _, _, _, _, _⟩) (v := undef) rfl (by kernel_rfl) (by kernel_rfl) (by kernel_rfl) (fun _ _ _ h => h) (Or.inr ⟨by rfl, rfl⟩) (by assumption) ?_
        try go_frame
        refine wpAnyH_take (i := 5) (oi := ⟨some 25, _, _, _, _, _⟩) (v := undef) rfl (by kernel_rfl) (by kernel_rfl) (by kernel_rfl) (fun _ _ _ h => h) (Or.inr ⟨by rfl, rfl⟩) (by assumption) ?_
        try go_frame
        refine wpAnyH_take (i := 6) (oi := ⟨some 26, _, _, _, _, _⟩) (v := undef) rfl (by kernel_rfl) (by kernel_rfl) (by kernel_rfl) (fun _ _ _ h => h) (Or.inr ⟨by rfl, rfl⟩) (by assumption) ?_
        try go_frame
        refine wpAnyH_take (i := 7) (oi := ⟨some 27, _, _, _, _, _⟩) (v := undef) rfl (by kernel_rfl) (by kernel_rfl) (by kernel_rfl) (fun _ _ _ h => h) (Or.inr ⟨by rfl, rfl⟩) (by assumption) ?_
        try go_frame
        refine wpAnyH_take (i := 8) (oi := ⟨some 28, _, _, _, _, _⟩) (v := undef) rfl (by kernel_rfl) (by kernel_rfl) (by kernel_rfl) (fun _ _ _ h => h) (Or.inr ⟨by rfl, rfl⟩) (by assumption) ?_
        try go_frame
        refine wpAnyH_take (i := 9) (oi := ⟨some 29, _, _, _, _, _⟩) (v := undef) rfl (by kernel_rfl) (by kernel_rfl) (by kernel_rfl) (fun _ _ _ h => h) (Or.inr ⟨by rfl, rfl⟩) (by assumption) ?_
        try go_frame
        refine wpAnyH_take (i := 10) (oi := ⟨some 30, _, _, _, _, _⟩) (v := undef) rfl (by kernel_rfl) (by kernel_rfl) (by kernel_rfl) (fun _ _ _ h => h) (Or.inr ⟨by rfl, rfl⟩) (by assumption) ?_
        try go_frame
        refine wpAnyH_take (i := 11) (oi := ⟨some 31, _, _, _, _, _⟩) (v := undef) rfl (by kernel_rfl) (by kernel_rfl) (by kernel_rfl) (fun _ _ _ h => h) (Or.inr ⟨by rfl, rfl⟩) (by assumption) ?_
        try go_frame
        refine wpAnyH_take (i := 12) (oi := ⟨some 32, _, _, _, _, _⟩) (v := undef) rfl (by kernel_rfl) (by kernel_rfl) (by kernel_rfl) (fun _ _ _ h => h) (Or.inr ⟨by rfl, rfl⟩) (by assumption) ?_
        try go_frame
        refine wpAnyH_take (i := 13) (oi := ⟨some 33, _, _, _, _, _⟩) (v := undef) rfl (by kernel_rfl) (by kernel_rfl) (by kernel_rfl) (fun _ _ _ h => h) (Or.inr ⟨by rfl, rfl⟩) (by assumption) ?_
        try go_frame
        refine wpAnyH_take (i := 14) (oi := ⟨some 34, _, _, _, _, _⟩) (v := undef) rfl (by kernel_rfl) (by kernel_rfl) (by kernel_rfl) (fun _ _ _ h => h) (Or.inr ⟨by rfl, rfl⟩) (by assumption) ?_
        try go_frame
        refine wpAnyH_take (i := 15) (oi := ⟨some 35, _, _, _, _, _⟩) (v := undef) rfl (by kernel_rfl) (by kernel_rfl) (by kernel_rfl) (fun _ _ _ h => h) (Or.inr ⟨by rfl, rfl⟩) (by assumption) ?_
        try go_frame
        refine wpAnyH_take (i := 16) (oi := ⟨some 36, _, _, _, _, _⟩) (v := undef) rfl (by kernel_rfl) (by kernel_rfl) (by kernel_rfl) (fun _ _ _ h => h) (Or.inr ⟨by rfl, rfl⟩) (by assumption) ?_
        try go_frame
        refine wpAnyH_take (i := 17) (oi := ⟨some 37, _, _, _, _, _⟩) (v := ?_) rfl (by kernel_rfl) (by kernel_rfl) (by kernel_rfl) (fun _ _ _ h => h) (Or.inl ⟨by rfl, ?_⟩) (by assumption) ?_
        rotate_left
        · intro wq hSw; go_simp; (try with_reducible rfl)
        try go_frame
        refine wpAnyH_done (by kernel_rfl) ?_ _
        have hHeld := hHeld1
        obtain ⟨⟨kz0, kc0, kf0⟩, ⟨kz1, kc1, kf1⟩, ⟨kz2, kc2, kf2⟩, _⟩ := hHeld.2
        all_goals
          go_wp2_with fail
          go_ret
          exact ⟨(by rw [hO2.out]; try rfl), hHeld.1⟩
      rw [gt] at IB
      by_cases gz : k = 0
      · have ON : Hid (okD l = restD (aheadD l (0 + 1)) (l.drop (0 + 1))) := Lib.hid (by
          rw [hO.out, RD.out, gt, gz]
          have e : aheadD l (0 + 1) = some t := by have := HX.out; rw [gz] at this; simp [aheadD, this]
          rw [e]; rfl)
        subst gz
        simp only [Nat.zero_mul, Nat.add_zero] at c1 c2 c3
        clear hO RD gt
        go_wp2_with fail
        replace hHeld := (hHeld.alloc (.cells #[.int .i64 t, .int .i64 lo, .int .i64 hi] 46)).app (newK3 (hHeld.alloc (.cells #[.int .i64 t, .int .i64 lo, .int .i64 hi] 46)))
        refine region_keeps (w0 := w) (L := [(wr.heap.size, 0, .int .i64 t), (wr.heap.size, 1, .int .i64 lo), (wr.heap.size, 2, .int .i64 hi)]) (by kernel_rfl) hHeld (fun hHeld0 => ?_)
        refine wpAnyH_take (i := 0) (oi := ⟨some 20, _, _, _, _, _⟩) (v := ?_) rfl (by kernel_rfl) (by kernel_rfl) (by kernel_rfl) (fun _ _ _ h => h) (Or.inl ⟨by rfl, ?_⟩) (by assumption) ?_
        rotate_left
        · intro wq hSw; obtain ⟨⟨qz0, qc0, qf0⟩, ⟨qz1, qc1, qf1⟩, ⟨qz2, qc2, qf2⟩, _⟩ := hSw.2; go_simp; (try with_reducible rfl)
        try go_frame
        refine wpAnyH_ready (rs := [1]) (by kernel_rfl) (by simp) ?_
        refine AllReadyH.cons (o := ⟨some 21, _, _, _, _, _⟩) rfl (fun K hK => ?_) AllReadyH.nil
        go_simp
        (with_reducible refine (IB.out _).mono ?_); rintro e w5 ⟨rfl, hb⟩
        refine hK.out _ _ (hHeld0.next hb) (fun hHeld1 => ?_)
        clear hK K
        try clear hb
        try go_frame
        refine wpAnyH_take (i := 2) (oi := ⟨some 22, _, _, _, _, _⟩) (v := ?_) rfl (by kernel_rfl) (by kernel_rfl) (by kernel_rfl) (fun _ _ _ h => h) (Or.inl ⟨by rfl, ?_⟩) (by assumption) ?_
        rotate_left
        · intro wq hSw; go_simp; (try with_reducible rfl)
        try go_frame
        refine wpAnyH_take (i := 3) (oi := ⟨some 23, _, _, _, _, _⟩) (v := ?_) rfl (by kernel_rfl) (by kernel_rfl) (by kernel_rfl) (fun _ _ _ h => h) (Or.inl ⟨by rfl, ?_⟩) (by assumption) ?_
        rotate_left
        · intro wq hSw; go_simp; (try with_reducible rfl)
        try go_frame
        refine wpAnyH_take (i := 4) (oi := ⟨some 24, _, _, _, _, _⟩) (v := ?_) rfl (by kernel_rfl) (by kernel_rfl) (by kernel_rfl) (fun _ _ _ h => h) (Or.inl ⟨by rfl, ?_⟩) (by assumption) ?_
        rotate_left
        · intro wq hSw; go_simp; (try with_reducible rfl)
        try go_frame
        refine wpAnyH_take (i := 5) (oi := ⟨some 25, _, _, _, _, _⟩) (v := ?_) rfl (by kernel_rfl) (by kernel_rfl) (by kernel_rfl) (fun _ _ _ h => h) (Or.inl ⟨by rfl, ?_⟩) (by assumption) ?_
        rotate_left
        · intro wq hSw; go_simp; (try with_reducible rfl)
        try go_frame
        refine wpAnyH_take (i := 6) (oi := ⟨some 26, _, _, _, _, _⟩) (v := ?_) rfl (by kernel_rfl) (by kernel_rfl) (by kernel_rfl) (fun _ _ _ h => h) (Or.inl ⟨by rfl, ?_⟩) (by assumption) ?_
        rotate_left
        · intro wq hSw; go_simp; (try with_reducible rfl)
        try go_frame
        refine wpAnyH_take (i := 7) (oi := ⟨some 27, _, _, _, _, _⟩) (v := undef) rfl (by kernel_rfl) (by kernel_rfl) (by kernel_rfl) (fun _ _ _ h => h) (Or.inr ⟨by rfl, rfl⟩) (by assumption) ?_
        try go_frame
        refine wpAnyH_take (i := 8) (oi := ⟨some 28, _, _, _, _, _⟩) (v := undef) rfl (by kernel_rfl) (by kernel_rfl) (by kernel_rfl) (fun _ _ _ h => h) (Or.inr ⟨by rfl, rfl⟩) (by assumption) ?_
        try go_frame
        refine wpAnyH_take (i := 9) (oi := ⟨some 29, _, _, _, _, _⟩) (v := undef) rfl (by kernel_rfl) (by kernel_rfl) (by kernel_rfl) (fun _ _ _ h => h) (Or.inr ⟨by rfl, rfl⟩) (by assumption) ?_
        try go_frame
        refine wpAnyH_take (i := 10) (oi := ⟨some 30, _, _, _, _, _⟩) (v := undef) rfl (by kernel_rfl) (by kernel_rfl) (by kernel_rfl) (fun _ _ _ h => h) (Or.inr ⟨by rfl, rfl⟩) (by assumption) ?_
        try go_frame
        refine wpAnyH_take (i := 11) (oi := ⟨some 31, _, _, _, _, _⟩) (v := undef) rfl (by kernel_rfl) (by kernel_rfl) (by kernel_rfl) (fun _ _ _ h => h) (Or.inr ⟨by rfl, rfl⟩) (by assumption) ?_
        try go_frame
        refine wpAnyH_take (i := 12) (oi := ⟨some 32, _, _, _, _, _⟩) (v := undef) rfl (by kernel_rfl) (by kernel_rfl) (by kernel_rfl) (fun _ _ _ h => h) (Or.inr ⟨by rfl, rfl⟩) (by assumption) ?_
        try go_frame
        refine wpAnyH_take (i := 13) (oi := ⟨some 33, _, _, _, _, _⟩) (v := undef) rfl (by kernel_rfl) (by kernel_rfl) (by kernel_rfl) (fun _ _ _ h => h) (Or.inr ⟨by rfl, rfl⟩) (by assumption) ?_
        try go_frame
        refine wpAnyH_take (i := 14) (oi := ⟨some 34, _, _, _, _, _⟩) (v := undef) rfl (by kernel_rfl) (by kernel_rfl) (by kernel_rfl) (fun _ _ _ h => h) (Or.inr ⟨by rfl, rfl⟩) (by assumption) ?_
        try go_frame
        refine wpAnyH_take (i := 15) (oi := ⟨some 35, _, _, _, _, _⟩) (v := undef) rfl (by kernel_rfl) (by kernel_rfl) (by kernel_rfl) (fun _ _ _ h => h) (Or.inr ⟨by rfl, rfl⟩) (by assumption) ?_
        try go_frame
        refine wpAnyH_take (i := 16) (oi := ⟨some 36, _, _, _, _, _⟩) (v := ?_) rfl (by kernel_rfl) (by kernel_rfl) (by kernel_rfl) (fun _ _ _ h => h) (Or.inl ⟨by rfl, ?_⟩) (by assumption) ?_
        rotate_left
        · intro wq hSw; go_simp; (try with_reducible rfl)
        try go_frame
        refine wpAnyH_take (i := 17) (oi := ⟨some 37, _, _, _, _, _⟩) (v := ?_) rfl (by kernel_rfl) (by kernel_rfl) (by kernel_rfl) (fun _ _ _ h => h) (Or.inl ⟨by rfl, ?_⟩) (by assumption) ?_
        rotate_left
        · intro wq hSw; go_simp; (try with_reducible rfl)
        try go_frame
        refine wpAnyH_done (by kernel_rfl) ?_ _
        have hHeld := hHeld1
        obtain ⟨⟨kz0, kc0, kf0⟩, ⟨kz1, kc1, kf1⟩, ⟨kz2, kc2, kf2⟩, _⟩ := hHeld.2
        all_goals
          go_wp2_with fail
          go_roundw
          case rel => exact ⟨1, by simp, gk, ON, hHeld.1⟩
          case measure => exact index_less (k := 0) gk
      · obtain ⟨j, hj⟩ : ∃ j, k = j + 1 := ⟨k - 1, by omega⟩
        obtain ⟨⟨t0, lo0, hi0⟩, hy⟩ : ∃ s, l[j]? = some s := ⟨_, List.getElem?_eq_getElem (by omega)⟩
        obtain ⟨bb', off', hbe, hbw', hp1, _, _⟩ := HK.out j _ hy
        cases hbe
        have hak : aheadD l k = some t0 := by rw [hj]; simp [aheadD, hy]
        have ej : wrap64 ((k : Int) - 1) = (j : Int) := by rw [hj]; exact (i64_keeps (by omega) (by omega)).trans (by omega)
        have ek : IntKind.i64.wrap ((k : Int) - 1) = (j : Int) := (by rw [IntKind.wrap_i64]; omega)
        have ij : (j : Int) < (l.length : Int) := by omega
        have j0 : (0 : Int) ≤ (j : Int) := by omega
        have hk0 : (0 : Int) < (k : Int) := by omega
        rw [hak] at RD
        simp only at hp1
        have HP := Lib.hid hp1
        clear hp1
        by_cases ga : t0 < t
        · have ON : Hid (okD l = restD (aheadD l (k + 1)) (l.drop (k + 1))) := Lib.hid (by
            rw [hO.out, hak, RD.out, gt]; show (decide (t0 < t) && _) = _
            rw [decide_eq_true ga, Bool.true_and]
            have e : aheadD l (k + 1) = some t := by simp [aheadD, HX.out]
            rw [e])
          clear hO RD gt hak hj hy
          go_wp2_with fail
          replace hHeld := (hHeld.alloc (.cells #[.int .i64 t, .int .i64 lo, .int .i64 hi] 46)).app (newK3 (hHeld.alloc (.cells #[.int .i64 t, .int .i64 lo, .int .i64 hi] 46)))
          have d0 : decide (0 < k) = true := decide_eq_true (by omega)
          have d1 : decide (t ≤ t0) = false := decide_eq_false (by omega)
          refine region_keeps (w0 := w) (L := [(wr.heap.size, 0, .int .i64 t), (wr.heap.size, 1, .int .i64 lo), (wr.heap.size, 2, .int .i64 hi)]) (by kernel_rfl) hHeld (fun hHeld0 => ?_)
          refine wpAnyH_take (i := 0) (oi := ⟨some 20, _, _, _, _, _⟩) (v := ?_) rfl (by kernel_rfl) (by kernel_rfl) (by kernel_rfl) (fun _ _ _ h => h) (Or.inl ⟨by rfl, ?_⟩) (by assumption) ?_
          rotate_left
          · intro wq hSw; obtain ⟨⟨qz0, qc0, qf0⟩, ⟨qz1, qc1, qf1⟩, ⟨qz2, qc2, qf2⟩, _⟩ := hSw.2; have hp4 := (hSw.1.cell (p := ⟨bb, off + j * 3, none⟩) hbw).trans HP.out; go_simp; (try with_reducible rfl)
          try go_frame
          refine wpAnyH_ready (rs := [1]) (by kernel_rfl) (by simp) ?_
          refine AllReadyH.cons (o := ⟨some 21, _, _, _, _, _⟩) rfl (fun K hK => ?_) AllReadyH.nil
          go_simp
          (with_reducible refine (IB.out _).mono ?_); rintro e w5 ⟨rfl, hb⟩
          refine hK.out _ _ (hHeld0.next hb) (fun hHeld1 => ?_)
          clear hK K
          try clear hb
          try go_frame
          refine wpAnyH_take (i := 2) (oi := ⟨some 22, _, _, _, _, _⟩) (v := ?_) rfl (by kernel_rfl) (by kernel_rfl) (by kernel_rfl) (fun _ _ _ h => h) (Or.inl ⟨by rfl, ?_⟩) (by assumption) ?_
          rotate_left
          · intro wq hSw; go_simp; (try with_reducible rfl)
          try go_frame
          refine wpAnyH_take (i := 3) (oi := ⟨some 23, _, _, _, _, _⟩) (v := ?_) rfl (by kernel_rfl) (by kernel_rfl) (by kernel_rfl) (fun _ _ _ h => h) (Or.inl ⟨by rfl, ?_⟩) (by assumption) ?_
          rotate_left
          · intro wq hSw; go_simp; (try with_reducible rfl)
          try go_frame
          refine wpAnyH_take (i := 4) (oi := ⟨some 24, _, _, _, _, _⟩) (v := ?_) rfl (by kernel_rfl) (by kernel_rfl) (by kernel_rfl) (fun _ _ _ h => h) (Or.inl ⟨by rfl, ?_⟩) (by assumption) ?_
          rotate_left
          · intro wq hSw; go_simp; (try with_reducible rfl)
          try go_frame
          refine wpAnyH_take (i := 5) (oi := ⟨some 25, _, _, _, _, _⟩) (v := ?_) rfl (by kernel_rfl) (by kernel_rfl) (by kernel_rfl) (fun _ _ _ h => h) (Or.inl ⟨by rfl, ?_⟩) (by assumption) ?_
          rotate_left
          · intro wq hSw; go_simp; (try with_reducible rfl)
          try go_frame
          refine wpAnyH_take (i := 6) (oi := ⟨some 26, _, _, _, _, _⟩) (v := ?_) rfl (by kernel_rfl) (by kernel_rfl) (by kernel_rfl) (fun _ _ _ h => h) (Or.inl ⟨by rfl, ?_⟩) (by assumption) ?_
          rotate_left
          · intro wq hSw; go_simp; (try with_reducible rfl)
          try go_frame
          refine wpAnyH_take (i := 7) (oi := ⟨some 27, _, _, _, _, _⟩) (v := ?_) rfl (by kernel_rfl) (by kernel_rfl) (by kernel_rfl) (fun _ _ _ h => h) (Or.inl ⟨by rfl, ?_⟩) (by assumption) ?_
          rotate_left
          · intro wq hSw; go_simp; (try with_reducible rfl)
          try go_frame
          refine wpAnyH_take (i := 8) (oi := ⟨some 28, _, _, _, _, _⟩) (v := ?_) rfl (by kernel_rfl) (by kernel_rfl) (by kernel_rfl) (fun _ _ _ h => h) (Or.inl ⟨by rfl, ?_⟩) (by assumption) ?_
          rotate_left
          · intro wq hSw; go_simp; (try with_reducible rfl)
          try go_frame
          refine wpAnyH_take (i := 9) (oi := ⟨some 29, _, _, _, _, _⟩) (v := ?_) rfl (by kernel_rfl) (by kernel_rfl) (by kernel_rfl) (fun _ _ _ h => h) (Or.inl ⟨by rfl, ?_⟩) (by assumption) ?_
          rotate_left
          · intro wq hSw; go_simp; (try with_reducible rfl)
          try go_frame
          refine wpAnyH_take (i := 10) (oi := ⟨some 30, _, _, _, _, _⟩) (v := ?_) rfl (by kernel_rfl) (by kernel_rfl) (by kernel_rfl) (fun _ _ _ h => h) (Or.inl ⟨by rfl, ?_⟩) (by assumption) ?_
          rotate_left
          · intro wq hSw; go_simp; (try with_reducible rfl)
          try go_frame
          refine wpAnyH_take (i := 11) (oi := ⟨some 31, _, _, _, _, _⟩) (v := ?_) rfl (by kernel_rfl) (by kernel_rfl) (by kernel_rfl) (fun _ _ _ h => h) (Or.inl ⟨by rfl, ?_⟩) (by assumption) ?_
          rotate_left
          · intro wq hSw; go_simp; (try with_reducible rfl)
          try go_frame
          refine wpAnyH_take (i := 12) (oi := ⟨some 32, _, _, _, _, _⟩) (v := ?_) rfl (by kernel_rfl) (by kernel_rfl) (by kernel_rfl) (fun _ _ _ h => h) (Or.inl ⟨by rfl, ?_⟩) (by assumption) ?_
          rotate_left
          · intro wq hSw; obtain ⟨⟨qz0, qc0, qf0⟩, ⟨qz1, qc1, qf1⟩, ⟨qz2, qc2, qf2⟩, _⟩ := hSw.2; have hp4 := (hSw.1.cell (p := ⟨bb, off + j * 3, none⟩) hbw).trans HP.out; go_simp; (try with_reducible rfl)
          try go_frame
          refine wpAnyH_take (i := 13) (oi := ⟨some 33, _, _, _, _, _⟩) (v := ?_) rfl (by kernel_rfl) (by kernel_rfl) (by kernel_rfl) (fun _ _ _ h => h) (Or.inl ⟨by rfl, ?_⟩) (by assumption) ?_
          rotate_left
          · intro wq hSw; go_simp; (try with_reducible rfl)
          try go_frame
          refine wpAnyH_take (i := 14) (oi := ⟨some 34, _, _, _, _, _⟩) (v := ?_) rfl (by kernel_rfl) (by kernel_rfl) (by kernel_rfl) (fun _ _ _ h => h) (Or.inl ⟨by rfl, ?_⟩) (by assumption) ?_
          rotate_left
          · intro wq hSw; obtain ⟨⟨qz0, qc0, qf0⟩, ⟨qz1, qc1, qf1⟩, ⟨qz2, qc2, qf2⟩, _⟩ := hSw.2; have hp4 := (hSw.1.cell (p := ⟨bb, off + j * 3, none⟩) hbw).trans HP.out; go_simp; (try with_reducible rfl)
          try go_frame
          refine wpAnyH_take (i := 15) (oi := ⟨some 35, _, _, _, _, _⟩) (v := ?_) rfl (by kernel_rfl) (by kernel_rfl) (by kernel_rfl) (fun _ _ _ h => h) (Or.inl ⟨by rfl, ?_⟩) (by assumption) ?_
          rotate_left
          · intro wq hSw; go_simp; (try with_reducible rfl)
          try go_frame
          refine wpAnyH_take (i := 16) (oi := ⟨some 36, _, _, _, _, _⟩) (v := ?_) rfl (by kernel_rfl) (by kernel_rfl) (by kernel_rfl) (fun _ _ _ h => h) (Or.inl ⟨by rfl, ?_⟩) (by assumption) ?_
          rotate_left
          · intro wq hSw; go_simp; (try with_reducible rfl)
          try go_frame
          refine wpAnyH_take (i := 17) (oi := ⟨some 37, _, _, _, _, _⟩) (v := ?_) rfl (by kernel_rfl) (by kernel_rfl) (by kernel_rfl) (fun _ _ _ h => h) (Or.inl ⟨by rfl, ?_⟩) (by assumption) ?_
          rotate_left
          · intro wq hSw; go_simp; (try with_reducible rfl)
          try go_frame
          refine wpAnyH_done (by kernel_rfl) ?_ _
          have hHeld := hHeld1
          obtain ⟨⟨kz0, kc0, kf0⟩, ⟨kz1, kc1, kf1⟩, ⟨kz2, kc2, kf2⟩, _⟩ := hHeld.2
          all_goals
            go_wp2_with fail
            go_roundw
            case rel => exact ⟨k + 1, by simp, gk, ON, hHeld.1⟩
            case measure => exact index_less gk
        · have hO2 : Hid (R = 180) := Lib.hid (by
            rw [hR.out, hO.out, hak, RD.out, gt]; show (if (decide (t0 < t) && _) = true then _ else _) = _
            rw [decide_eq_false ga]; rfl)
          have gb : t ≤ t0 := by omega
          clear hO RD gt hak hj hy hR
          go_wp2_with fail
          replace hHeld := (hHeld.alloc (.cells #[.int .i64 t, .int .i64 lo, .int .i64 hi] 46)).app (newK3 (hHeld.alloc (.cells #[.int .i64 t, .int .i64 lo, .int .i64 hi] 46)))
          have d0 : decide (0 < k) = true := decide_eq_true (by omega)
          have d1 : decide (t ≤ t0) = true := decide_eq_true (by omega)
          refine region_keeps (w0 := w) (L := [(wr.heap.size, 0, .int .i64 t), (wr.heap.size, 1, .int .i64 lo), (wr.heap.size, 2, .int .i64 hi)]) (by kernel_rfl) hHeld (fun hHeld0 => ?_)
          refine wpAnyH_take (i := 0) (oi := ⟨some 20, _, _, _, _, _⟩) (v := ?_) rfl (by kernel_rfl) (by kernel_rfl) (by kernel_rfl) (fun _ _ _ h => h) (Or.inl ⟨by rfl, ?_⟩) (by assumption) ?_
          rotate_left
          · intro wq hSw; obtain ⟨⟨qz0, qc0, qf0⟩, ⟨qz1, qc1, qf1⟩, ⟨qz2, qc2, qf2⟩, _⟩ := hSw.2; have hp4 := (hSw.1.cell (p := ⟨bb, off + j * 3, none⟩) hbw).trans HP.out; go_simp; (try with_reducible rfl)
          try go_frame
          refine wpAnyH_ready (rs := [1]) (by kernel_rfl) (by simp) ?_
          refine AllReadyH.cons (o := ⟨some 21, _, _, _, _, _⟩) rfl (fun K hK => ?_) AllReadyH.nil
          go_simp
          (with_reducible refine (IB.out _).mono ?_); rintro e w5 ⟨rfl, hb⟩
          refine hK.out _ _ (hHeld0.next hb) (fun hHeld1 => ?_)
          clear hK K
          try clear hb
          try go_frame
          refine wpAnyH_take (i := 2) (oi := ⟨some 22, _, _, _, _, _⟩) (v := ?_) rfl (by kernel_rfl) (by kernel_rfl) (by kernel_rfl) (fun _ _ _ h => h) (Or.inl ⟨by rfl, ?_⟩) (by assumption) ?_
          rotate_left
          · intro wq hSw; go_simp; (try with_reducible rfl)
          try go_frame
          refine wpAnyH_take (i := 3) (oi := ⟨some 23, _, _, _, _, _⟩) (v := ?_) rfl (by kernel_rfl) (by kernel_rfl) (by kernel_rfl) (fun _ _ _ h => h) (Or.inl ⟨by rfl, ?_⟩) (by assumption) ?_
          rotate_left
          · intro wq hSw; go_simp; (try with_reducible rfl)
          try go_frame
          refine wpAnyH_take (i := 4) (oi := ⟨some 24, _, _, _, _, _⟩) (v := ?_) rfl (by kernel_rfl) (by kernel_rfl) (by kernel_rfl) (fun _ _ _ h => h) (Or.inl ⟨by rfl, ?_⟩) (by assumption) ?_
          rotate_left
          · intro wq hSw; go_simp; (try with_reducible rfl)
          try go_frame
          refine wpAnyH_take (i := 5) (oi := ⟨some 25, _, _, _, _, _⟩) (v := ?_) rfl (by kernel_rfl) (by kernel_rfl) (by kernel_rfl) (fun _ _ _ h => h) (Or.inl ⟨by rfl, ?_⟩) (by assumption) ?_
          rotate_left
          · intro wq hSw; go_simp; (try with_reducible rfl)
          try go_frame
          refine wpAnyH_take (i := 6) (oi := ⟨some 26, _, _, _, _, _⟩) (v := ?_) rfl (by kernel_rfl) (by kernel_rfl) (by kernel_rfl) (fun _ _ _ h => h) (Or.inl ⟨by rfl, ?_⟩) (by assumption) ?_
          rotate_left
          · intro wq hSw; go_simp; (try with_reducible rfl)
          try go_frame
          refine wpAnyH_take (i := 7) (oi := ⟨some 27, _, _, _, _, _⟩) (v := ?_) rfl (by kernel_rfl) (by kernel_rfl) (by kernel_rfl) (fun _ _ _ h => h) (Or.inl ⟨by rfl, ?_⟩) (by assumption) ?_
          rotate_left
          · intro wq hSw; go_simp; (try with_reducible rfl)
          try go_frame
          refine wpAnyH_take (i := 8) (oi := ⟨some 28, _, _, _, _, _⟩) (v := ?_) rfl (by kernel_rfl) (by kernel_rfl) (by kernel_rfl) (fun _ _ _ h => h) (Or.inl ⟨by rfl, ?_⟩) (by assumption) ?_
          rotate_left
          · intro wq hSw; go_simp; (try with_reducible rfl)
          try go_frame
          refine wpAnyH_take (i := 9) (oi := ⟨some 29, _, _, _, _, _⟩) (v := ?_) rfl (by kernel_rfl) (by kernel_rfl) (by kernel_rfl) (fun _ _ _ h => h) (Or.inl ⟨by rfl, ?_⟩) (by assumption) ?_
          rotate_left
          · intro wq hSw; go_simp; (try with_reducible rfl)
          try go_frame
          refine wpAnyH_take (i := 10) (oi := ⟨some 30, _, _, _, _, _⟩) (v := ?_) rfl (by kernel_rfl) (by kernel_rfl) (by kernel_rfl) (fun _ _ _ h => h) (Or.inl ⟨by rfl, ?_⟩) (by assumption) ?_
          rotate_left
          · intro wq hSw; go_simp; (try with_reducible rfl)
          try go_frame
          refine wpAnyH_take (i := 11) (oi := ⟨some 31, _, _, _, _, _⟩) (v := ?_) rfl (by kernel_rfl) (by kernel_rfl) (by kernel_rfl) (fun _ _ _ h => h) (Or.inl ⟨by rfl, ?_⟩) (by assumption) ?_
          rotate_left
          · intro wq hSw; go_simp; (try with_reducible rfl)
          try go_frame
          refine wpAnyH_take (i := 12) (oi := ⟨some 32, _, _, _, _, _⟩) (v := ?_) rfl (by kernel_rfl) (by kernel_rfl) (by kernel_rfl) (fun _ _ _ h => h) (Or.inl ⟨by rfl, ?_⟩) (by assumption) ?_
          rotate_left
          · intro wq hSw; obtain ⟨⟨qz0, qc0, qf0⟩, ⟨qz1, qc1, qf1⟩, ⟨qz2, qc2, qf2⟩, _⟩ := hSw.2; have hp4 := (hSw.1.cell (p := ⟨bb, off + j * 3, none⟩) hbw).trans HP.out; go_simp; (try with_reducible rfl)
          try go_frame
          refine wpAnyH_take (i := 13) (oi := ⟨some 33, _, _, _, _, _⟩) (v := ?_) rfl (by kernel_rfl) (by kernel_rfl) (by kernel_rfl) (fun _ _ _ h => h) (Or.inl ⟨by rfl, ?_⟩) (by assumption) ?_
          rotate_left
          · intro wq hSw; go_simp; (try with_reducible rfl)
          try go_frame
          refine wpAnyH_take (i := 14) (oi := ⟨some 34, _, _, _, _, _⟩) (v := ?_) rfl (by kernel_rfl) (by kernel_rfl) (by kernel_rfl) (fun _ _ _ h => h) (Or.inl ⟨by rfl, ?_⟩) (by assumption) ?_
          rotate_left
          · intro wq hSw; obtain ⟨⟨qz0, qc0, qf0⟩, ⟨qz1, qc1, qf1⟩, ⟨qz2, qc2, qf2⟩, _⟩ := hSw.2; have hp4 := (hSw.1.cell (p := ⟨bb, off + j * 3, none⟩) hbw).trans HP.out; go_simp; (try with_reducible rfl)
          try go_frame
          refine wpAnyH_take (i := 15) (oi := ⟨some 35, _, _, _, _, _⟩) (v := ?_) rfl (by kernel_rfl) (by kernel_rfl) (by kernel_rfl) (fun _ _ _ h => h) (Or.inl ⟨by rfl, ?_⟩) (by assumption) ?_
          rotate_left
          · intro wq hSw; go_simp; (try with_reducible rfl)
          try go_frame
          refine wpAnyH_take (i := 16) (oi := ⟨some 36, _, _, _, _, _⟩) (v := ?_) rfl (by kernel_rfl) (by kernel_rfl) (by kernel_rfl) (fun _ _ _ h => h) (Or.inl ⟨by rfl, ?_⟩) (by assumption) ?_
          rotate_left
          · intro wq hSw; go_simp; (try with_reducible rfl)
          try go_frame
          refine wpAnyH_take (i := 17) (oi := ⟨some 37, _, _, _, _, _⟩) (v := ?_) rfl (by kernel_rfl) (by kernel_rfl) (by kernel_rfl) (fun _ _ _ h => h) (Or.inl ⟨by rfl, ?_⟩) (by assumption) ?_
          rotate_left
          · intro wq hSw; go_simp; (try with_reducible rfl)
          try go_frame
          refine wpAnyH_done (by kernel_rfl) ?_ _
          have hHeld := hHeld1
          obtain ⟨⟨kz0, kc0, kf0⟩, ⟨kz1, kc1, kf1⟩, ⟨kz2, kc2, kf2⟩, _⟩ := hHeld.2
          all_goals
            go_wp2_with fail
            go_ret
            exact ⟨(by rw [hO2.out]; try rfl), hHeld.1⟩
    · have hkk : k = l.length := by omega
      have hO2 : Hid (R = 0) := Lib.hid (by rw [hR.out, hO.out, hkk, List.drop_length]; rfl)
      have i1 : ¬ (k : Int) < (l.length : Int) := by omega
      clear hO OE hkk hR
      go_wp2_with fail
      go_ret
      exact ⟨(by rw [hO2.out]; try rfl), hB⟩
end Go.Proofs.YtoephkglpbophaaGreat.P8

/-
  Layer 8: pmc: what is common to bands takes one more. Conditions: those written at each fact.
-/
namespace Go.Proofs.YtoephkglpbophaaGreat.P8
open Go.RowKit

/-- What is common, at block C. -/
def Com (W : World) (C : Nat) (lo hi : Int) : Prop := W.heap[C]? = some (.cells #[.int .i64 lo, .int .i64 hi] 89 (0, 0))
theorem Com.lt {w : World} {G : Nat} {n s : Int} (h : Com w G n s) : G < w.heap.size := (Array.getElem?_eq_some_iff.1 h).1
theorem Com.cells {w : World} {G : Nat} {n s : Int} (h : Com w G n s) : w.cell? ⟨G, 0, none⟩ = some (.int .i64 n) ∧ w.cell? ⟨G, 1, none⟩ = some (.int .i64 s) ∧ w.frozen? ⟨G, 0, none⟩ = false ∧ w.frozen? ⟨G, 1, none⟩ = false := by
  have e : w.heap[G]? = _ := h
  simp [World.cell?, World.frozen?, e]
theorem Com.below {w w' : World} {G : Nat} {n s : Int} (h : Com w G n s) (hb : Below w.heap.size w w') : Com w' G n s := (hb.block G h.lt).trans h
theorem Com.set0 {w : World} {G : Nat} {n s : Int} (h : Com w G n s) (x : Int) : Com (w.setCell ⟨G, 0, none⟩ (.int .i64 x)) G x s := by
  obtain ⟨hlt, hk⟩ := Array.getElem?_eq_some_iff.1 h
  show (w.heap.modify G _)[G]? = _
  rw [Array.getElem?_eq_getElem (by rw [Array.size_modify]; exact hlt), Array.getElem_modify_self, hk]
  rfl
theorem Com.set1 {w : World} {G : Nat} {n s : Int} (h : Com w G n s) (x : Int) : Com (w.setCell ⟨G, 1, none⟩ (.int .i64 x)) G n x := by
  obtain ⟨hlt, hk⟩ := Array.getElem?_eq_some_iff.1 h
  show (w.heap.modify G _)[G]? = _
  rw [Array.getElem?_eq_getElem (by rw [Array.size_modify]; exact hlt), Array.getElem_modify_self, hk]
  rfl
/-- How many bands are taken, from what is common on; and what is common behind them. -/
def goM : Int → Int → List Bd → Nat × Int × Int
  | lo, hi, [] => (0, lo, hi)
  | lo, hi, b :: l => if min hi b.hi < max lo b.lo then (0, lo, hi) else ((goM (max lo b.lo) (min hi b.hi) l).1 + 1, (goM (max lo b.lo) (min hi b.hi) l).2)
/-- What take leaves. -/
def Took8 (w : World) (C : Nat) (r : Bool) (lo hi : Int) (e : Ending) (w' : World) : Prop := e = .returned (.bool r) ∧ Near C w w' ∧ Com w' C lo hi

set_option maxRecDepth 100000 in
set_option maxHeartbeats 2000000 in
theorem take_no (C : Nat) (lo hi : Int) (t a c : Int) (h : min hi c < max lo a) (w : World) (hC : Com w C lo hi) : Calls Tryz.prog 44 #[.pointer (some ⟨C, 0, none⟩), bandV ⟨t, a, c⟩] w (Took8 w C false lo hi) := by
  obtain ⟨k0, k1, f0, f1⟩ := hC.cells
  have hlt := hC.lt
  have HC := Lib.hid hC
  clear hC
  obtain ⟨M, hM⟩ : ∃ M, M = max lo a := ⟨_, rfl⟩
  obtain ⟨m, hm⟩ : ∃ m, m = min hi c := ⟨_, rfl⟩
  rw [← hM, ← hm] at h
  by_cases g1 : lo < a
  · have e1 : M = a := by omega
    by_cases g2 : c < hi
    · have e2 : m = c := by omega
      clear hM hm
      subst e1 e2
      go_enter Tryz.func44, Tryz.ntmps44
      go_wp2_with fail
      go_quiet (fail)
      go_wp2_with fail
      go_ret
      exact ⟨rfl, Near.of (below_drewN (below_alloc w _) _), HC.out.below (below_drewN (below_alloc w _) _)⟩
    · have e2 : m = hi := by omega
      clear hM hm
      subst e1 e2
      go_enter Tryz.func44, Tryz.ntmps44
      go_wp2_with fail
      go_quiet (fail)
      go_wp2_with fail
      go_ret
      exact ⟨rfl, Near.of (below_drewN (below_alloc w _) _), HC.out.below (below_drewN (below_alloc w _) _)⟩
  · have e1 : M = lo := by omega
    by_cases g2 : c < hi
    · have e2 : m = c := by omega
      clear hM hm
      subst e1 e2
      go_enter Tryz.func44, Tryz.ntmps44
      go_wp2_with fail
      go_quiet (fail)
      go_wp2_with fail
      go_ret
      exact ⟨rfl, Near.of (below_drewN (below_alloc w _) _), HC.out.below (below_drewN (below_alloc w _) _)⟩
    · have e2 : m = hi := by omega
      clear hM hm
      subst e1 e2
      go_enter Tryz.func44, Tryz.ntmps44
      go_wp2_with fail
      go_quiet (fail)
      go_wp2_with fail
      go_ret
      exact ⟨rfl, Near.of (below_drewN (below_alloc w _) _), HC.out.below (below_drewN (below_alloc w _) _)⟩

set_option maxRecDepth 100000 in
set_option maxHeartbeats 2000000 in
theorem take_yes (C : Nat) (lo hi : Int) (t a c : Int) (M m : Int) (hM : M = max lo a) (hm : m = min hi c) (h : ¬ m < M) (w : World) (hC : Com w C lo hi) : Calls Tryz.prog 44 #[.pointer (some ⟨C, 0, none⟩), bandV ⟨t, a, c⟩] w (Took8 w C true M m) := by
  obtain ⟨k0, k1, f0, f1⟩ := hC.cells
  have hlt := hC.lt
  have HC := Lib.hid hC
  clear hC
  by_cases g1 : lo < a
  · have e1 : M = a := by omega
    by_cases g2 : c < hi
    · have e2 : m = c := by omega
      clear hM hm
      subst e1 e2
      go_enter Tryz.func44, Tryz.ntmps44
      go_wp2_with fail
      go_quiet (fail)
      go_wp2_with fail
      go_ret
      exact ⟨rfl, ((Near.of (below_drewN (below_alloc w _) _)).set (p := ⟨C, 0, none⟩) (.inl rfl) _).set (p := ⟨C, 1, none⟩) (.inl rfl) _, ((HC.out.below (below_drewN (below_alloc w _) _)).set0 _).set1 _⟩
    · have e2 : m = hi := by omega
      clear hM hm
      subst e1 e2
      go_enter Tryz.func44, Tryz.ntmps44
      go_wp2_with fail
      go_quiet (fail)
      go_wp2_with fail
      go_ret
      exact ⟨rfl, ((Near.of (below_drewN (below_alloc w _) _)).set (p := ⟨C, 0, none⟩) (.inl rfl) _).set (p := ⟨C, 1, none⟩) (.inl rfl) _, ((HC.out.below (below_drewN (below_alloc w _) _)).set0 _).set1 _⟩
  · have e1 : M = lo := by omega
    by_cases g2 : c < hi
    · have e2 : m = c := by omega
      clear hM hm
      subst e1 e2
      go_enter Tryz.func44, Tryz.ntmps44
      go_wp2_with fail
      go_quiet (fail)
      go_wp2_with fail
      go_ret
      exact ⟨rfl, ((Near.of (below_drewN (below_alloc w _) _)).set (p := ⟨C, 0, none⟩) (.inl rfl) _).set (p := ⟨C, 1, none⟩) (.inl rfl) _, ((HC.out.below (below_drewN (below_alloc w _) _)).set0 _).set1 _⟩
    · have e2 : m = hi := by omega
      clear hM hm
      subst e1 e2
      go_enter Tryz.func44, Tryz.ntmps44
      go_wp2_with fail
      go_quiet (fail)
      go_wp2_with fail
      go_ret
      exact ⟨rfl, ((Near.of (below_drewN (below_alloc w _) _)).set (p := ⟨C, 0, none⟩) (.inl rfl) _).set (p := ⟨C, 1, none⟩) (.inl rfl) _, ((HC.out.below (below_drewN (below_alloc w _) _)).set0 _).set1 _⟩
end Go.Proofs.YtoephkglpbophaaGreat.P8

/-
  Layer 8: pmc: how many bands are taken ahead of the first one that is not. Conditions: those written at each fact.
-/
namespace Go.Proofs.YtoephkglpbophaaGreat.P8
open Go.RowKit

/-- The method that takes, of what is common at block C. -/
abbrev takeF (C : Nat) : Value := .func (.func 44) #[.pointer (some ⟨C, 0, none⟩)] #[]
theorem goM_next {lo hi : Int} {b : Bd} {l : List Bd} (h : ¬ min hi b.hi < max lo b.lo) : goM lo hi (b :: l) = ((goM (max lo b.lo) (min hi b.hi) l).1 + 1, (goM (max lo b.lo) (min hi b.hi) l).2) := by
  rw [goM, if_neg h]
theorem goM_stop {lo hi : Int} {b : Bd} {l : List Bd} (h : min hi b.hi < max lo b.lo) : goM lo hi (b :: l) = (0, lo, hi) := by
  rw [goM, if_pos h]
theorem drop_of {l : List Bd} {k : Nat} {r : Bd} (hx : l[k]? = some r) : l.drop k = r :: l.drop (k + 1) := by
  obtain ⟨hlt, e⟩ := List.getElem?_eq_some_iff.1 hx
  rw [List.drop_eq_getElem_cons hlt, e]
theorem goM_le : ∀ (l : List Bd) (lo hi : Int), (goM lo hi l).1 ≤ l.length
  | [], _, _ => Nat.le_refl _
  | b :: l, lo, hi => by
    by_cases h : min hi b.hi < max lo b.lo
    · rw [goM_stop h]; simp
    · rw [goM_next h]; have := goM_le l (max lo b.lo) (min hi b.hi); simp; omega
theorem near_trans {s : Nat} {A B C : World} (h : Near s A B) (k : Near s B C) : Near s A C :=
  ⟨k.os.trans h.os, k.tape.trans h.tape, k.output.trans h.output, Nat.le_trans h.size k.size, fun j hj hs => (k.block j (Nat.lt_of_lt_of_le hj h.size) hs).trans (h.block j hj hs)⟩
theorem near_below {s : Nat} {w0 w W : World} (h : Near s w W) (h0 : Below w0.heap.size w0 w) (hs : w0.heap.size ≤ s) : Below w0.heap.size w0 W :=
  ⟨h.os.trans h0.os, h.tape.trans h0.tape, h.output.trans h0.output, Nat.le_trans h0.size h.size, fun j hj => (h.block j (Nat.lt_of_lt_of_le hj h0.size) (by omega)).trans (h0.block j hj)⟩

set_option maxRecDepth 100000 in
set_option maxHeartbeats 2000000 in
theorem taken_any (l : List Bd) (hl : l.length ≤ 1000000) (A : Option Addr) (c : Nat) (w0 : World) (h : ReadsD w0 (.slice A l.length c) l) (C : Nat) (lo hi : Int) (w : World) (hw0 : Below w0.heap.size w0 w) (hC0 : w0.heap.size ≤ C) (hC : Com w C lo hi) :
    Calls Tryz.prog 43 #[.slice A l.length c, takeF C] w (fun e w' => e = .returned (.int .i64 (goM lo hi l).1) ∧ Near C w w' ∧ Com w' C (goM lo hi l).2.1 (goM lo hi l).2.2) := by
  obtain ⟨A', c', e', hc, hk⟩ := h
  cases e'
  have HK := Lib.hid hk
  have HC0 := Lib.hid hC0
  have HW0 := Lib.hid hw0
  clear hk hw0 hC0
  obtain ⟨G, hG⟩ : ∃ G, G = goM lo hi l := ⟨_, rfl⟩
  rw [← hG]
  have AS : Hid (G = (0 + (goM lo hi (l.drop 0)).1, (goM lo hi (l.drop 0)).2)) := Lib.hid (by rw [hG]; simp)
  have HC := Lib.hid hC
  clear hG hC
  go_enter Tryz.func43, Tryz.ntmps43
  go_wp2_with (go_step3)
  go_loopw [5, 10] (fun n i wr => ∃ (k : Nat) (x y : Int), n = .int .i64 k ∧ i = .int .i64 k ∧ k ≤ l.length ∧ Hid (G = (k + (goM x y (l.drop k)).1, (goM x y (l.drop k)).2)) ∧ Hid (Com wr C x y) ∧ Hid (Near C w wr)) (fun _ i _ => l.length - (intOf i).toNat)
  case atStart => exact ⟨0, lo, hi, rfl, rfl, by omega, AS, HC, Lib.hid (Near.refl _ _)⟩
  case round =>
    obtain ⟨k, x, y, rfl, rfl, hkl, hA, hC, hN⟩ := hrel
    clear AS HC
    have hB := near_below hN.out HW0.out HC0.out
    by_cases gk : k < l.length
    · obtain ⟨⟨t, a, b⟩, hx⟩ : ∃ s, l[k]? = some s := ⟨_, List.getElem?_eq_getElem gk⟩
      obtain ⟨bb, off, rfl, hbw, hc1, hc2, hc3⟩ := HK.out k _ hx
      have c1 := (hB.cell (p := ⟨bb, off + k * 3, none⟩) hbw).trans hc1
      have c2 := (hB.cell (p := ⟨bb, off + k * 3 + 1, none⟩) hbw).trans hc2
      have c3 := (hB.cell (p := ⟨bb, off + k * 3 + 2, none⟩) hbw).trans hc3
      simp only at c1 c2 c3
      have i1 : (k : Int) < (l.length : Int) := by omega
      have i0 : (0 : Int) ≤ (k : Int) := by omega
      have hdr := drop_of hx
      have hA2 := hA.out
      rw [hdr] at hA2
      have e1 : wrap64 ((k : Int) + 1) = (k : Int) + 1 := i64_keeps (by omega) (by omega)
      have hC2 := hC.out.below (below_alloc wr (.cells #[.int .i64 t, .int .i64 a, .int .i64 b] 46))
      clear hc1 hc2 hc3 hA hdr hx hB
      by_cases g : min y b < max x a
      · have E : Hid (G = (k, x, y)) := Lib.hid (by rw [hA2, goM_stop g]; simp)
        have TN := Lib.hid (take_no C x y t a b g _ hC2)
        clear hA2 g hC2
        go_wp2_with (go_at_call 44; refine TN.out.mono ?_; rintro e w' ⟨rfl, hN2, hC3⟩)
        have F : Hid (Near C w w' ∧ Com w' C x y) := Lib.hid ⟨near_trans (near_trans hN.out (Near.of (below_alloc _ _))) hN2, hC3⟩
        clear hN2 hC3
        go_wp2_with fail
        rw [Exit.noGoto_ret]
        go_ret
        exact ⟨by rw [E.out]; try rfl, F.out.1, by rw [E.out]; exact F.out.2⟩
      · have E : Hid (G = ((k + 1 : Nat) + (goM (max x a) (min y b) (l.drop (k + 1))).1, (goM (max x a) (min y b) (l.drop (k + 1))).2)) := Lib.hid (by
          rw [hA2, goM_next g]
          refine Prod.ext ?_ rfl
          simp only
          omega)
        obtain ⟨M, hM⟩ : ∃ M, M = max x a := ⟨_, rfl⟩
        obtain ⟨m, hm⟩ : ∃ m, m = min y b := ⟨_, rfl⟩
        have TN := Lib.hid (take_yes C x y t a b M m hM hm (by rw [hM, hm]; exact g) _ hC2)
        rw [← hM, ← hm] at E
        clear hA2 g hC2 hM hm
        go_wp2_with (go_at_call 44; refine TN.out.mono ?_; rintro e w' ⟨rfl, hN2, hC3⟩)
        have F : Hid (Near C w w' ∧ Com w' C M m) := Lib.hid ⟨near_trans (near_trans hN.out (Near.of (below_alloc _ _))) hN2, hC3⟩
        clear hN2 hC3
        go_wp2_with fail
        go_roundw
        case rel => exact ⟨k + 1, M, m, by simp, by simp, gk, E, Lib.hid F.out.2, Lib.hid F.out.1⟩
        case measure => exact index_less gk
    · have hkk : k = l.length := by omega
      have E : Hid (G = (l.length, x, y)) := Lib.hid (by rw [hA.out, hkk, List.drop_length]; simp [goM])
      have i1 : ¬ (k : Int) < (l.length : Int) := by omega
      clear hA
      go_wp2_with fail
      go_ret
      exact ⟨by rw [E.out]; try rfl, hN.out, by rw [E.out]; exact hC.out⟩
end Go.Proofs.YtoephkglpbophaaGreat.P8

/-
  Tools for ranges over functions whose bodies turn blocks that lay there; rows that grow within them. Conditions: those written at each fact.
-/
namespace Go.Proofs.YtoephkglpbophaaGreat.P8
open Go.RowKit Go.Shelf
attribute [local go_sem] Oper.semAt_some

attribute [local go_sem] Oper.semAt_some

/-- Cells lie on, but in the blocks X; and X grows by new blocks alone. -/
def KeepsC (X : World → Nat → Prop) (W W' : World) : Prop :=
  W.heap.size ≤ W'.heap.size ∧ (∀ k, X W' k → X W k ∨ (W.heap.size ≤ k ∧ k < W'.heap.size)) ∧ ∀ (k : Nat) (o : Obj), W.heap[k]? = some o → o.isCells = true → ¬ X W k → W'.heap[k]? = some o

theorem KeepsC.trans {X : World → Nat → Prop} {A B C : World} (h : KeepsC X A B) (k : KeepsC X B C) : KeepsC X A C := by
  refine ⟨Nat.le_trans h.1 k.1, fun j hj => ?_, fun j o ho hc hx => ?_⟩
  · rcases k.2.1 j hj with h1 | h1
    · rcases h.2.1 j h1 with h2 | h2
      · exact .inl h2
      · exact .inr ⟨h2.1, Nat.lt_of_lt_of_le h2.2 k.1⟩
    · exact .inr ⟨Nat.le_trans h.1 h1.1, h1.2⟩
  · refine k.2.2 j o (h.2.2 j o ho hc hx) hc fun hx2 => ?_
    rcases h.2.1 j hx2 with h3 | h3
    · exact hx h3
    · have := (Array.getElem?_eq_some_iff.1 ho).1; omega

/-- X hangs on block b alone. -/
def Hangs (X : World → Nat → Prop) (b : Nat) : Prop := ∀ W W' k, W'.heap[b]? = W.heap[b]? → X W' k → X W k

theorem KeepsC.put {X : World → Nat → Prop} {b : Nat} (hX : Hangs X b) {w : World} (hb : b < w.heap.size) (W : World) (l : Nat) (o o' : Obj) (hl : w.heap.size ≤ l) (h : W.heap[l]? = some o) (hc : o.isCells = false) (_ : o.isWalk = false) : KeepsC X W (W.putObj l o') :=
  ⟨by simp, fun k hk => .inl (hX W _ k (World.putObj_heap_other (by omega)) hk), fun k o2 ho hc2 _ => (World.putObj_heap_other (fun e => by subst e; rw [h] at ho; cases ho; rw [hc] at hc2; cases hc2)).trans ho⟩

theorem KeepsC.of_below {X : World → Nat → Prop} {b : Nat} (hX : Hangs X b) {W W' : World} (hb : b < W.heap.size) (h : Below W.heap.size W W') : KeepsC X W W' :=
  ⟨h.size, fun k hk => .inl (hX W W' k (h.block b hb) hk), fun k _ ho _ _ => (h.block k (Array.getElem?_eq_some_iff.1 ho).1).trans ho⟩

/-- A range over a function whose body turns the blocks X. -/
theorem wp_rangeC {P : Program} {α : Type} {g : Operand} {ps : Array Tmp} {assign body : Code} {Q : Exit → Act → World → Prop} {a : Act} {w : World} {X : World → Nat → Prop} {b : Nat} (hX : Hangs X b) (hXb : b < w.heap.size)
    {gf : Nat} {lb : Array Value} (hg : a.eval g = .func (.func gf) #[] lb) (eg : ∀ args w, (callFunc gf args).run P w = .ok (.enter gf args) w)
    {encs : α → Array Value} {S Sp : List α → Prop} {N : Nat} (hseq : SeqStopsK Fence.wide 8 P gf lb encs (KeepsC X) S Sp N w) (hps : ∀ x, (encs x).size = ps.size)
    (I : List α → World → Prop) (Ix : Code → List α → World → Prop) (hI : OwnFrom w.heap.size I) (hIx : ∀ c, OwnFrom w.heap.size (Ix c)) (h0 : I [] w) (a₁ : α → Act)
    (hassign : ∀ (l : Nat) (x : α) (W : World) (K : Act → World → Prop), K (a₁ x) W →
      assign.wpIn (Fence.wide.inRound l) (9 - 1 - 1) P (Exit.then K (fun _ _ _ => False)) { tmps := (ps.zip (encs x)).foldl (fun t (p, v) => t.setIfInBounds p v) a.tmps, defers := [] } W)
    (hbody : ∀ (l : Nat) (pre : List α) (x : α) (W : World), I pre W → pre.length < N → body.wpIn (Fence.wide.inRound l) (9 - 1 - 1) P (ownPostG w.heap.size (KeepsC X) I Ix (pre ++ [x]) W) (a₁ x) W)
    (hdone : ∀ (D : Nat) (xs : List α) (W : World), w.heap.size ≤ D → S xs → I xs W → W.heap[D]? = some (.deferred (some [])) → Q .normal { a with defers := { target := .collected D, args := #[] } :: a.defers } W)
    (hstop : ∀ (D : Nat) (c : Code) (pre : List α) (W : World), w.heap.size ≤ D → Sp pre → Ix c pre W → W.heap[D]? = some (.deferred (some [])) → c.wp P Q { a with defers := { target := .collected D, args := #[] } :: a.defers } W) :
    (Code.rangeFunc g ps assign body).wp P Q a w :=
  wpIn_wide.1 (wpIn_rangeFunc_ownG (n := 9) rfl (by omega) hg trivial eg hseq KeepsC.trans (KeepsC.put hX hXb) (Below.refl _ _) hps I Ix hI hIx h0 a₁ hassign hbody hdone
    (fun D c pre W h1 h2 h3 h4 => wpIn_wide.2 (hstop D c pre W h1 h2 h3 h4)))

theorem abides_below {β : Type} {B : Nat} {J : β → World → Prop} (hJ : AbidesFrom B J) {s : β} {W W' : World} (h : J s W) (hb : Below W.heap.size W W') : J s W' :=
  hJ s W W' none h ⟨hb.os, hb.tape, hb.output, hb.size, fun k hk _ => hb.block k hk⟩ (fun _ e => by cases e)

theorem cells_kept {W W' : World} {row : Option Nat} (hgr : W.grownBy W' row) (hr : ∀ r, row = some r → ∃ o : Obj, W.heap[r]? = some o ∧ o.isCells = false) {k : Nat} {o : Obj} (ho : W.heap[k]? = some o) (hc : o.isCells = true) : W'.heap[k]? = some o :=
  (hgr.block k (Array.getElem?_eq_some_iff.1 ho).1 (fun e => by
    obtain ⟨o2, h2, h3⟩ := hr k e.symm
    rw [ho] at h2; cases h2; rw [hc] at h3; cases h3)).trans ho

theorem own_block {v : Value} (k off : Nat) (s : Option _) (n c : Nat) (h : v = .slice (some ⟨k, off, s⟩) n c) : v.ownBlock = some k := by subst h; rfl

attribute [local go_sem] Oper.semAt_some

/-- The blocks that a row of a variable's own may turn. -/
def XT (g : Nat) (W : World) (k : Nat) : Prop := k = g ∨ ∃ off n c s, W.cell? ⟨g, 0, none⟩ = some (.slice (some ⟨k, off, s⟩) n c)

theorem XT_hangs (g : Nat) : Hangs (XT g) g := by
  intro W W' k h hx
  rcases hx with rfl | ⟨off, n, c, s, e⟩
  · exact .inl rfl
  · exact .inr ⟨off, n, c, s, by rw [← e]; exact (World.cell?_of_block (w := W) h).symm⟩

/-- A row grows, and its variable. -/
theorem row_step {B g : Nat} {W W5 W8 : World} {t e : TypeId} {size n m : Nat} {v v8 : Value} {xs ys : List Value} (hte : t ≠ e) (h : Boxed W g t v) (hB : B ≤ g) (hBW : B ≤ W.heap.size) (hb : Below W.heap.size W W5) (hown : W.ownsRow B e size v n xs)
    (hg : W5.grownBy W8 v.ownBlock) (h8 : v8.ownBlock = v.ownBlock ∨ v8.ownBlock = some W5.heap.size) (hown8 : W8.ownsRow B e size v8 m ys) :
    Below B W (W8.setCell ⟨g, 0, none⟩ v8) ∧ KeepsOthers W (W8.setCell ⟨g, 0, none⟩ v8) ∧ KeepsC (XT g) W (W8.setCell ⟨g, 0, none⟩ v8) ∧ Boxed (W8.setCell ⟨g, 0, none⟩ v8) g t v8 ∧ (W8.setCell ⟨g, 0, none⟩ v8).ownsRow B e size v8 m ys := by
  have hgl := h.lt
  have hg5 : Boxed W5 g t v := (hb.block g hgl).trans h
  have hne : v.ownBlock ≠ some g := fun e2 => (Boxed.not_row h hte hown) e2.symm
  have hg8 : Boxed W8 g t v := (hg.block g hg5.lt (fun e2 => hne e2.symm)).trans hg5
  have hs : (W8.setCell ⟨g, 0, none⟩ v8).heap.size = W8.heap.size := by simp [World.setCell]
  have hG : Boxed (W8.setCell ⟨g, 0, none⟩ v8) g t v8 := hg8.set v8
  have hlow : ∀ k, v.ownBlock = some k → B ≤ k ∧ k < W.heap.size := hown.lt
  have hform : ∀ k, v.ownBlock = some k → (∃ off n c s, v = .slice (some ⟨k, off, s⟩) n c) ∧ ∃ cur t f, W.heap[k]? = some (.cells cur t f) := by
    intro k hk
    rcases hown.2 with ⟨rfl, _⟩ | ⟨g', cap, cur, rfl, _, e3, _⟩
    · simp [Value.ownBlock] at hk
    · simp [Value.ownBlock] at hk
      subst hk
      exact ⟨⟨0, _, _, none, rfl⟩, _, _, _, e3⟩
  have hcell : ∀ k, v.ownBlock = some k → XT g W k := by
    intro k hk
    obtain ⟨⟨off, n, c, s, e1⟩, _⟩ := hform k hk
    exact .inr ⟨off, n, c, s, by rw [h.cell, e1]⟩
  have hkeep : ∀ (k : Nat) (o' : Obj), W.heap[k]? = some o' → k ≠ g → v.ownBlock ≠ some k → (W8.setCell ⟨g, 0, none⟩ v8).heap[k]? = some o' := by
    intro k o' ho h1 h2
    have hk := (Array.getElem?_eq_some_iff.1 ho).1
    exact (Below.heap_setCell W8 ⟨g, 0, none⟩ v8 k h1).trans ((hg.block k (Nat.lt_of_lt_of_le hk hb.size) (fun e => h2 e.symm)).trans ((hb.block k hk).trans ho))
  refine ⟨?_, ⟨by rw [hs]; exact Nat.le_trans hb.size hg.size, ?_⟩, ⟨by rw [hs]; exact Nat.le_trans hb.size hg.size, ?_, ?_⟩, hG, ?_⟩
  · refine Below.setCell (p := ⟨g, 0, none⟩) ?_ hB _
    exact ((hb.mono hBW)).grown hg (Nat.le_trans hBW hb.size) (fun k e => (hlow k e).1)
  · intro k o' ho hc
    refine hkeep k o' ho (fun e => ?_) (fun e => ?_)
    · subst e; rw [show W.heap[k]? = _ from h] at ho; cases ho; cases hc
    · obtain ⟨_, cur, t, f, e3⟩ := hform k e
      rw [e3] at ho; cases ho; cases hc
  · intro k hk
    rcases hk with rfl | ⟨off, n, c, s, e⟩
    · exact .inl (.inl rfl)
    · rw [hG.cell] at e
      have hk8 := own_block k off s n c (Option.some.inj e)
      rcases h8 with h8 | h8
      · rw [h8] at hk8
        exact .inl (hcell k hk8)
      · have hl := (hown8.lt k hk8).2
        rw [h8] at hk8
        cases hk8
        exact .inr ⟨hb.size, by rw [hs]; exact hl⟩
  · intro k o' ho _ hx
    exact hkeep k o' ho (fun e => hx (.inl e)) (fun e => hx (hcell k e))
  · refine ⟨hown8.1, ?_⟩
    rcases hown8.2 with h2 | ⟨g', cap, cur, e1, e2, e3, e4⟩
    · exact .inl h2
    · refine .inr ⟨g', cap, cur, e1, e2, (Below.heap_setCell W8 ⟨g, 0, none⟩ v8 g' (fun e => ?_)).trans e3, e4⟩
      replace e : g' = g := e
      subst e
      rw [show W8.heap[g']? = _ from hg8] at e3
      cases e3
      exact hte rfl

theorem owns_kept {W W' : World} {row : Option Nat} {B : Nat} {e : TypeId} {size n : Nat} {v : Value} {xs : List Value} (h : W.ownsRow B e size v n xs) (hgr : W.grownBy W' row) (hr : ∀ r, row = some r → ∃ o : Obj, W.heap[r]? = some o ∧ o.isCells = false) : W'.ownsRow B e size v n xs := by
  refine ⟨h.1, ?_⟩
  rcases h.2 with h3 | ⟨g', cap, cur, e1, e2, e3, e4⟩
  · exact .inl h3
  · exact .inr ⟨g', cap, cur, e1, e2, cells_kept hgr hr e3 rfl, e4⟩

theorem below_grown {W0 W W' : World} {row : Option Nat} {C : Nat} (hC : W0.heap.size ≤ C) (h : Below W0.heap.size W0 W) (hgr : W.grownBy W' row) (hr : ∀ r, row = some r → C ≤ r) : Below W0.heap.size W0 W' :=
  h.grown hgr h.size (fun r e => by have := hr r e; omega)

theorem new_cells1 {W : World} {a : Value} {t : TypeId} {n : Nat} (hn : n = W.heap.size) : ∀ (j : Nat) (u : Value), [a][j]? = some u → (W.alloc (.cells #[a] t)).cell? ((⟨n, 0, none⟩ : Addr).add j) = some u := by
  subst hn
  intro j u h
  match j, h with
  | 0, h => cases h; simp [Addr.add, go_sem]
  | j + 1, h => simp at h

theorem boxed_grown {W W' : World} {row : Option Nat} {B : Nat} {t : TypeId} {v : Value} (h : Boxed W B t v) (hgr : W.grownBy W' row) (hr : ∀ r, row = some r → ∃ o : Obj, W.heap[r]? = some o ∧ o.isCells = false) : Boxed W' B t v := cells_kept hgr hr h rfl

def XN : World → Nat → Prop := fun _ _ => False

/-- .. and whose loop variables are laid in blocks of their own, each round. -/
theorem wp_rangeH {P : Program} {α : Type} {g : Operand} {ps : Array Tmp} {assign body : Code} {Q : Exit → Act → World → Prop} {a : Act} {w : World} {X : World → Nat → Prop} {b : Nat} (hX : Hangs X b) (hXb : b < w.heap.size)
    {gf : Nat} {lb : Array Value} (hg : a.eval g = .func (.func gf) #[] lb) (eg : ∀ args w, (callFunc gf args).run P w = .ok (.enter gf args) w)
    {encs : α → Array Value} {S Sp : List α → Prop} {N : Nat} (hseq : SeqStopsK Fence.wide 8 P gf lb encs (KeepsC X) S Sp N w) (hps : ∀ x, (encs x).size = ps.size)
    (I : List α → World → Prop) (Ix : Code → List α → World → Prop) (hI : OwnFrom w.heap.size I) (hIx : ∀ c, OwnFrom w.heap.size (Ix c)) (h0 : I [] w) (Ax : α → Act → World → Prop) (hAx : ∀ x a', OwnFrom w.heap.size (fun (_ : Unit) W => Ax x a' W))
    (hassign : ∀ (l : Nat) (pre : List α) (x : α) (W : World) (K : Act → World → Prop), I pre W → (∀ a' W', KeepsFrom w.heap.size W W' → KeepsC X W W' → I pre W' → Ax x a' W' → K a' W') →
      assign.wpIn (Fence.wide.inRound l) (9 - 1 - 1) P (Exit.then K (fun _ _ _ => False)) { tmps := (ps.zip (encs x)).foldl (fun t (p, v) => t.setIfInBounds p v) a.tmps, defers := [] } W)
    (hbody : ∀ (l : Nat) (pre : List α) (x : α) (a' : Act) (W : World), I pre W → Ax x a' W → pre.length < N → body.wpIn (Fence.wide.inRound l) (9 - 1 - 1) P (ownPostG w.heap.size (KeepsC X) I Ix (pre ++ [x]) W) a' W)
    (hdone : ∀ (D : Nat) (xs : List α) (W : World), w.heap.size ≤ D → S xs → I xs W → W.heap[D]? = some (.deferred (some [])) → Q .normal { a with defers := { target := .collected D, args := #[] } :: a.defers } W)
    (hstop : ∀ (D : Nat) (c : Code) (pre : List α) (W : World), w.heap.size ≤ D → Sp pre → Ix c pre W → W.heap[D]? = some (.deferred (some [])) → c.wp P Q { a with defers := { target := .collected D, args := #[] } :: a.defers } W) :
    (Code.rangeFunc g ps assign body).wp P Q a w :=
  wpIn_wide.1 (wpIn_rangeFunc_ownH (n := 9) rfl (by omega) hg trivial eg hseq KeepsC.trans (KeepsC.put hX hXb) (Below.refl _ _) hps I Ix hI hIx h0 Ax hAx hassign (fun l pre x a' W _ _ h1 h2 h3 => hbody l pre x a' W h1 h2 h3) hdone
    (fun D c pre W h1 h2 h3 h4 => wpIn_wide.2 (hstop D c pre W h1 h2 h3 h4)))
end Go.Proofs.YtoephkglpbophaaGreat.P8

/-
  Layer 8: pmc: the parts of bands, one by one. Conditions: those written at each fact.
-/
namespace Go.Proofs.YtoephkglpbophaaGreat.P8
open Go.RowKit Go.Shelf
attribute [local go_sem] Oper.semAt_some

/-- A part: from which band on, of how many, and what is common to them. -/
structure Pt where
  f : Nat
  n : Nat
  lo : Int
  hi : Int
/-- The parts of bands, from place k on. -/
def partsD : Nat → List Bd → List Pt
  | _, [] => []
  | k, b :: l => ⟨k, (goM b.lo b.hi l).1 + 1, (goM b.lo b.hi l).2.1, (goM b.lo b.hi l).2.2⟩ :: partsD (k + ((goM b.lo b.hi l).1 + 1)) (l.drop (goM b.lo b.hi l).1)
termination_by _ l => l.length
decreasing_by simp; omega
theorem partsD_nil (k : Nat) : partsD k [] = [] := by rw [partsD]
theorem partsD_cons (k : Nat) (b : Bd) (l : List Bd) : partsD k (b :: l) = ⟨k, (goM b.lo b.hi l).1 + 1, (goM b.lo b.hi l).2.1, (goM b.lo b.hi l).2.2⟩ :: partsD (k + ((goM b.lo b.hi l).1 + 1)) (l.drop (goM b.lo b.hi l).1) := by rw [partsD]
theorem goM_first {b : Bd} {l : List Bd} (h : BdOk b) : goM (-2305844108725321728) 2305844108725321728 (b :: l) = ((goM b.lo b.hi l).1 + 1, (goM b.lo b.hi l).2) := by
  obtain ⟨_, _, h1, h2, h3⟩ := h
  have e1 : max (-2305844108725321728) b.lo = b.lo := by omega
  have e2 : min 2305844108725321728 b.hi = b.hi := by omega
  rw [goM_next (by rw [e1, e2]; omega), e1, e2]

/-- The world of a range over the parts of bands: what it needs lies on. -/
structure Stand (X : World → Nat → Prop) (bb off c : Nat) (l : List Bd) (Bl : Nat) (W : World) : Prop where
  reads : ReadsD W (.slice (some ⟨bb, off, none⟩) l.length c) l
  low : bb < W.heap.size
  cells : ∃ o, W.heap[bb]? = some o ∧ o.isCells = true
  lies : ¬ X W bb
  box : Boxed W Bl 22 (.slice (some ⟨bb, off, none⟩) l.length c)
  boxes : ¬ X W Bl
theorem Stand.next {X : World → Nat → Prop} {bb off c Bl : Nat} {l : List Bd} {W W' : World} (h : Stand X bb off c l Bl W) (k : KeepsC X W W') : Stand X bb off c l Bl W' := by
  obtain ⟨o, ho, hoc⟩ := h.cells
  have hb := k.2.2 bb o ho hoc h.lies
  refine ⟨?_, Nat.lt_of_lt_of_le h.low k.1, ⟨o, hb, hoc⟩, fun hx => ?_, k.2.2 Bl _ h.box rfl h.boxes, fun hx => ?_⟩
  · obtain ⟨A', c', e, hc, hk⟩ := h.reads
    cases e
    refine ⟨_, c, rfl, hc, fun i r hi => ?_⟩
    obtain ⟨b, off', e1, e2, e3, e4, e5⟩ := hk i r hi
    cases e1
    have hb2 := hb.trans ho.symm
    exact ⟨bb, off, rfl, Nat.lt_of_lt_of_le e2 k.1, (World.cell?_of_block (w := W) hb2).trans e3, (World.cell?_of_block (w := W) hb2).trans e4, (World.cell?_of_block (w := W) hb2).trans e5⟩
  · rcases k.2.1 bb hx with h1 | h1
    · exact h.lies h1
    · have := h.low; omega
  · rcases k.2.1 Bl hx with h1 | h1
    · exact h.boxes h1
    · have := h.box.lt; omega
theorem ReadsD.drop {W : World} {bb off c : Nat} {l : List Bd} (h : ReadsD W (.slice (some ⟨bb, off, none⟩) l.length c) l) (k : Nat) (hk : k ≤ l.length) : ReadsD W (.slice (some ⟨bb, off + k * 3, none⟩) (l.length - k) (c - k)) (l.drop k) := by
  obtain ⟨A', c', e, hc, hr⟩ := h
  cases e
  refine ⟨_, c - k, by rw [List.length_drop], by rw [List.length_drop]; omega, fun i r hi => ?_⟩
  rw [List.getElem?_drop] at hi
  obtain ⟨b, off', e1, e2, e3, e4, e5⟩ := hr _ r hi
  cases e1
  have e : off + k * 3 + i * 3 = off + (k + i) * 3 := by omega
  exact ⟨bb, off + k * 3, rfl, e2, by rw [e]; exact e3, by rw [e]; exact e4, by rw [e]; exact e5⟩
/-- What the parts are handed over as. -/
def encP (bb off : Nat) (p : Pt) : Array Value := #[.slice (some ⟨bb, off + p.f * 3, none⟩) p.n p.n, spV p.lo p.hi]
set_option maxHeartbeats 1000000 in
theorem parts_any (v : Value) (w : World) (A : Option Addr) (n c : Nat) (hv : v = .slice A n c) :
    Calls Tryz.prog 23 #[v] w fun e w' => e = .returned (.func (.func 42) #[] #[.pointer (some ⟨w.heap.size, 0, none⟩)]) ∧ w' = w.alloc (.cells #[v] 22) := by
  subst hv
  have hmf : ∀ (fn : Fn) (first cap : Array Value) (w : World), (Instr.makeFunc fn first cap).run Tryz.prog w = .ok (.func fn first cap) w := fun _ _ _ _ => rfl
  go_enter Tryz.func23, Tryz.ntmps23
  go_wp2
  go_ret
  exact ⟨rfl, rfl⟩
end Go.Proofs.YtoephkglpbophaaGreat.P8

/-
  Layer 8: pmc: the iterator over the parts of bands. Conditions: those written at each fact.
-/
namespace Go.Proofs.YtoephkglpbophaaGreat.P8
open Go.RowKit Go.Shelf
attribute [local go_sem] Oper.semAt_some

theorem near_alloc {w w' : World} {o : Obj} (h : Near w.heap.size (w.alloc o) w') : Below w.heap.size w w' :=
  ⟨h.os, h.tape, h.output, Nat.le_trans (by simp) h.size, fun k hk => (h.block k (by simp; omega) (by omega)).trans ((below_alloc w o).block k hk)⟩
theorem part_nums {k n N L c T : Nat} (hN : N = n + 1) (hT : T = k + N) (h1 : k < L) (h2 : n ≤ L - (k + 1)) (h3 : L ≤ c) (h4 : L ≤ 1000000) :
    wrap64 ((k : Int) + (N : Int)) = (T : Int) ∧ (T : Int) ≤ (L : Int) ∧ (T : Int) ≤ (c : Int) ∧ (k : Int) ≤ (T : Int) ∧ (k : Int) ≤ (L : Int) ∧ (k : Int) ≤ (c : Int) := by
  have e : (k : Int) + (N : Int) = (T : Int) := by omega
  rw [e]
  exact ⟨i64_keeps (by omega) (by omega), by omega, by omega, by omega, by omega, by omega⟩
theorem part_turn {k n N L T : Nat} (hN : N = n + 1) (hT : T = k + N) (h1 : k < L) (h2 : n ≤ L - (k + 1)) : k < T ∧ T ≤ L := ⟨by omega, by omega⟩
theorem turn_less {k T n : Nat} (h : k < T) (h2 : T ≤ n) : n - (intOf (Value.int .i64 (T : Int))).toNat < n - (intOf (Value.int .i64 (k : Int))).toNat := by simp [intOf]; omega
set_option maxRecDepth 100000 in
set_option maxHeartbeats 1000000 in
theorem parts1_stops (X : World → Nat → Prop) (b : Nat) (hX : Hangs X b) (l : List Bd) (hl : l.length ≤ 1000000) (hR : ∀ r ∈ l, BdOk r) (bb off c : Nat) (Bl : Nat) (w : World) (hb : b < w.heap.size)
    (hst : Stand X bb off c l Bl w) :
    SeqStopsK Fence.wide 8 Tryz.prog 42 #[.pointer (some ⟨Bl, 0, none⟩)] (encP bb off) (KeepsC X) (fun ys => ys = partsD 0 l) (fun pre => pre <+: partsD 0 l) (partsD 0 l).length w := by
  intro g J Jx W hW hJa hJxa hY h0
  have hbW : b < W.heap.size := Nat.lt_of_lt_of_le hb hW.size
  have hst' : Stand X bb off c l Bl W := hst.next (KeepsC.of_below hX hb hW)
  have hWs : ∀ W2 : World, W.heap.size ≤ W2.heap.size → b < W2.heap.size := fun W2 h => Nat.lt_of_lt_of_le hbW h
  have hmf : ∀ (fn : Fn) (first cap : Array Value) (w : World), (Instr.makeFunc fn first cap).run Tryz.prog w = .ok (.func fn first cap) w := fun _ _ _ _ => rfl
  clear hst hW
  refine callsIn_of_wp Tryz.func42 rfl trivial ?_ rfl
  simp only [Tryz.ntmps42, List.size_toArray, List.length_cons, List.length_nil, Nat.reduceAdd, Nat.reduceSub, Array.replicate_succ, Array.replicate_zero, List.push_toArray, List.append_toArray, List.nil_append, List.cons_append]
  have HY := Lib.hid hY
  have HJA := Lib.hid hJa
  have HR := Lib.hid hR
  have HWS := Lib.hid hWs
  have MB := Lib.hid (fun W => told_any W)
  clear hY hJa hJxa hR hWs
  gi_wp2
  gi_loopw [3] (fun p wr => ∃ (k : Nat) (pre : List Pt), p = .int .i64 k ∧ k ≤ l.length ∧ Hid (pre ++ partsD k (l.drop k) = partsD 0 l) ∧ J pre wr ∧ Hid (Stand X bb off c l Bl wr) ∧ W.heap.size ≤ wr.heap.size)
    (fun p _ => l.length - (intOf p).toNat)
  case atStart => exact ⟨0, [], rfl, by omega, Lib.hid (by simp), h0, Lib.hid hst', Nat.le_refl _⟩
  case round =>
    obtain ⟨k, pre, rfl, hkl, hp, hJ, hSt, hsz⟩ := hrel
    clear h0 hst'
    have hbx := hSt.out.box.cell
    by_cases gk : k < l.length
    · obtain ⟨⟨t, a, d⟩, hx⟩ : ∃ s, l[k]? = some s := ⟨_, List.getElem?_eq_getElem gk⟩
      have i1 : (k : Int) < (l.length : Int) := by omega
      have i0 : (0 : Int) ≤ (k : Int) := by omega
      have hok := HR.out _ (List.mem_of_getElem? hx)
      have hdr := drop_of hx
      have hp2 := hp.out
      rw [hdr, partsD_cons] at hp2
      have hgf := goM_first (l := l.drop (k + 1)) hok
      rw [← hdr] at hgf
      have hle := goM_le (l.drop (k + 1)) a d
      rw [List.length_drop] at hle
      simp only at hp2 hgf
      rw [List.drop_drop] at hp2
      generalize goM a d (l.drop (k + 1)) = G at hp2 hgf hle
      obtain ⟨n, x, y⟩ := G
      simp only at hp2 hgf hle
      have hrd := hSt.out.reads
      obtain ⟨_, _, e', hcl, _⟩ := hrd
      cases e'
      obtain ⟨N, hN⟩ : ∃ N, N = n + 1 := ⟨_, rfl⟩
      obtain ⟨T, hT⟩ : ∃ T, T = k + N := ⟨_, rfl⟩
      have hTN : N = T - k := by omega
      have E : Hid ((pre ++ [(⟨k, N, x, y⟩ : Pt)]) ++ partsD T (l.drop T) = partsD 0 l) := Lib.hid (by
        rw [List.append_assoc, hT, hN, ← hp2]
        simp only [List.singleton_append]
        rw [show k + (n + 1) = k + 1 + n by omega])
      have hln : pre.length < (partsD 0 l).length := by rw [← hp2]; simp
      have HLN := Lib.hid hln
      obtain ⟨q2, q3, q4, q5, q6, q7⟩ := part_nums hN hT gk hle hcl hl
      rw [← hN] at hgf
      have HTN := Lib.hid hTN
      have HT := Lib.hid (part_turn hN hT gk hle)
      have HD := Lib.hid hgf
      clear hp hp2 hdr hx hok hgf hln hle hN hT hTN
      have hbl := hSt.out.box.lt
      gi_wp2_with (refine ⟨trivial, ?_⟩; refine (callsIn_wide.2 (MB.out _)).mono ?_; rintro en w3 ⟨rfl, hb3⟩; have hb3' := hb3; have hbx3 := (hb3.cell (p := ⟨Bl, 0, none⟩) hbl).trans hbx; have hbl3 := Nat.lt_of_lt_of_le hbl hb3.size)
      refine ⟨trivial, ?_⟩
      have hrd3 := (hSt.out.reads.below hb3').drop k (Nat.le_of_lt gk)
      have TK := taken_any (l.drop k) (by rw [List.length_drop]; omega) (some ⟨bb, off + k * 3, none⟩) (c - k) w3 (by rw [List.length_drop]; exact hrd3) w3.heap.size (-2305844108725321728) 2305844108725321728 _ (below_alloc w3 _) (Nat.le_refl _) (World.alloc_heap_new w3 (.cells #[.int .i64 (-2305844108725321728), .int .i64 2305844108725321728] 89))
      rw [List.length_drop, HD.out] at TK
      refine (callsIn_wide.2 TK).mono ?_
      rintro en w4 ⟨rfl, hN4, hC4⟩
      have hb34 := near_alloc hN4
      have hB4 := under hb3' hb34
      obtain ⟨k0, k1, f0, f1⟩ := hC4.cells
      have hcl4 := hC4.lt
      have hbx4 := (hb34.cell (p := ⟨Bl, 0, none⟩) hbl3).trans hbx3
      have hbl4 := Nat.lt_of_lt_of_le hbl3 hb34.size
      have hJ4 := abides_below HJA.out hJ hB4.drew
      obtain ⟨fn, tmps, assign, body, hyl, hR⟩ := HY.out pre ⟨k, N, x, y⟩ w4.drew hJ4 HLN.out
      simp only [encP] at hyl
      rw [HTN.out] at hyl
      have HST := Lib.hid (hSt.out.next (KeepsC.of_below hX (HWS.out wr hsz) hB4.drew))
      have hsz4 : W.heap.size ≤ w4.drew.heap.size := Nat.le_trans hsz hB4.size
      clear hSt hJ hJ4 hbx hbx3 hb3 hb3' hN4 hC4 hb34 hB4 hrd3 TK HY HJA HLN
      gi_wp2_with fail
      rw [q2]
      clear q2
      have hmx : Tryz.prog.follows .mixedOrders = true := by kernel_rfl
      have HR := Lib.hid (RoundIn.mono hR (R' := fun e W' => ∃ r, e = .returned (.bool r) ∧ Hid ((r = true ∧ J (pre ++ [(⟨k, N, x, y⟩ : Pt)]) W' ∧ KeepsC X w4.drew W') ∨ (r = false ∧ Jx (pre ++ [(⟨k, N, x, y⟩ : Pt)]) W'))) (fun e W' hh => by
        rcases hh with ⟨h1, h2⟩ | ⟨h1, h2⟩
        · exact ⟨_, h1, Lib.hid (.inl ⟨rfl, h2⟩)⟩
        · exact ⟨_, h1, Lib.hid (.inr ⟨rfl, h2⟩)⟩))
      clear hR
      have q8 : ¬ T = k := Nat.ne_of_gt HT.out.1
      gi_region_with_o (refine HR.out.mono ?_; rintro e W5 ⟨r, rfl, hh⟩)
      all_goals
        rcases hh.out with ⟨rfl, hJ5, hk5⟩ | ⟨rfl, hJx5⟩
        · have HS5 := Lib.hid (HST.out.next hk5)
          have hsz5 := Nat.le_trans hsz4 hk5.1
          clear hk5 HST
          gi_wp2
          go_roundw
          case rel => exact ⟨T, _, rfl, HT.out.2, E, hJ5, HS5, hsz5⟩
          case measure => exact turn_less HT.out.1 HT.out.2
        · gi_wp2
          refine bodyPost_ret (results_none rfl _ _ _) rfl ?_
          exact ⟨⟨_, rfl⟩, .inr ⟨_, ⟨_, E.out⟩, hJx5⟩⟩
    · have hkk : k = l.length := by omega
      have e := hp.out
      rw [hkk, List.drop_length, partsD_nil, List.append_nil] at e
      have E := Lib.hid e
      have i1 : ¬ (k : Int) < (l.length : Int) := by omega
      clear e hkk hp HY
      gi_wp2
      go_end0
      exact ⟨⟨_, rfl⟩, .inl (E.out ▸ hJ)⟩
end Go.Proofs.YtoephkglpbophaaGreat.P8

/-
  Layer 8: pmc: the first of the parts. Conditions: those written at each fact.
-/
namespace Go.Proofs.YtoephkglpbophaaGreat.P8
open Go.RowKit Go.Shelf
attribute [local go_sem] Oper.semAt_some

/-- A span's block. -/
def SpanAt (W : World) (B : Nat) (lo hi : Int) : Prop := W.heap[B]? = some (.cells #[.int .i64 lo, .int .i64 hi] 81 (0, 0))
theorem SpanAt.lt {W : World} {B : Nat} {lo hi : Int} (h : SpanAt W B lo hi) : B < W.heap.size := (Array.getElem?_eq_some_iff.1 h).1
theorem SpanAt.cells {w : World} {G : Nat} {n s : Int} (h : SpanAt w G n s) : w.cell? ⟨G, 0, none⟩ = some (.int .i64 n) ∧ w.cell? ⟨G, 1, none⟩ = some (.int .i64 s) ∧ w.frozen? ⟨G, 0, none⟩ = false ∧ w.frozen? ⟨G, 1, none⟩ = false := by
  have e : w.heap[G]? = _ := h
  simp [World.cell?, World.frozen?, e]
theorem span_grown {W W' : World} {row : Option Nat} {B : Nat} {lo hi : Int} (h : SpanAt W B lo hi) (hgr : W.grownBy W' row) (hr : ∀ r, row = some r → ∃ o : Obj, W.heap[r]? = some o ∧ o.isCells = false) : SpanAt W' B lo hi := cells_kept hgr hr h rfl
theorem SpanAt.set {w : World} {G : Nat} {n s x y : Int} (h : SpanAt w G n s) : SpanAt ((w.setCell ⟨G, 0, none⟩ (.int .i64 x)).setCell ⟨G, 1, none⟩ (.int .i64 y)) G x y := by
  have e1 : SpanAt (w.setCell ⟨G, 0, none⟩ (.int .i64 x)) G x s := by
    obtain ⟨hlt, hk⟩ := Array.getElem?_eq_some_iff.1 h
    show (w.heap.modify G _)[G]? = _
    rw [Array.getElem?_eq_getElem (by rw [Array.size_modify]; exact hlt), Array.getElem_modify_self, hk]
    rfl
  obtain ⟨hlt, hk⟩ := Array.getElem?_eq_some_iff.1 e1
  show ((w.setCell ⟨G, 0, none⟩ (.int .i64 x)).heap.modify G _)[G]? = _
  rw [Array.getElem?_eq_getElem (by rw [Array.size_modify]; exact hlt), Array.getElem_modify_self, hk]
  rfl
theorem stand_of {w W : World} {bb off c Bl : Nat} {l : List Bd} (h : ReadsD w (.slice (some ⟨bb, off, none⟩) l.length c) l) (hne : l ≠ []) (hb : Below w.heap.size w W) (hbx : Boxed W Bl 22 (.slice (some ⟨bb, off, none⟩) l.length c)) : bb < w.heap.size ∧ (∀ X : World → Nat → Prop, ¬ X W bb → ¬ X W Bl → Stand X bb off c l Bl W) := by
  have hr := h
  obtain ⟨_, _, e, _, hk⟩ := h
  cases e
  obtain ⟨r, l', rfl⟩ := List.exists_cons_of_ne_nil hne
  obtain ⟨_, _, e1, e2, e3, _⟩ := hk 0 r rfl
  cases e1
  refine ⟨e2, fun X h1 h2 => ⟨hr.below hb, Nat.lt_of_lt_of_le e2 hb.size, ?_, h1, hbx, h2⟩⟩
  obtain ⟨o, ho⟩ : ∃ o, w.heap[bb]? = some o := ⟨_, Array.getElem?_eq_getElem e2⟩
  refine ⟨o, (hb.block bb e2).trans ho, ?_⟩
  cases o with
  | cells _ _ _ => rfl
  | _ => simp [World.cell?, ho] at e3
/-- The first part. -/
def firstD : List Bd → Pt
  | [] => ⟨0, 0, 0, 0⟩
  | b :: l => ⟨0, (goM b.lo b.hi l).1 + 1, (goM b.lo b.hi l).2.1, (goM b.lo b.hi l).2.2⟩
theorem partsD_head {l : List Bd} (h : l ≠ []) : ∃ r, partsD 0 l = firstD l :: r := by
  cases l with
  | nil => exact absurd rfl h
  | cons b l => exact ⟨_, partsD_cons 0 b l⟩
/-- How the loop is left. -/
def Left1 (w : World) (bb off : Nat) (c : Code) (pre : List Pt) (W : World) : Prop :=
  Below w.heap.size w W ∧ c = .ret ∧ ∃ p, pre = [p] ∧ Boxed W w.heap.size 22 (.slice (some ⟨bb, off + p.f * 3, none⟩) p.n p.n) ∧ SpanAt W (w.heap.size + 1) p.lo p.hi
set_option maxRecDepth 100000 in
set_option maxHeartbeats 2000000 in
theorem first_any (l : List Bd) (hl : l.length ≤ 1000000) (hR : ∀ r ∈ l, BdOk r) (hne : l ≠ []) (bb off c : Nat) (w : World) (h : ReadsD w (.slice (some ⟨bb, off, none⟩) l.length c) l) :
    Calls Tryz.prog 119 #[.slice (some ⟨bb, off, none⟩) l.length c] w (Ret w (.tuple #[.slice (some ⟨bb, off, none⟩) (firstD l).n (firstD l).n, spV (firstD l).lo (firstD l).hi])) := by
  obtain ⟨rest, hpt⟩ := partsD_head hne
  have hf0 : (firstD l).f = 0 := by cases l <;> rfl
  refine calls_marks Tryz.func119 rfl ?_
  simp only [Tryz.ntmps119, List.size_toArray, List.length_cons, List.length_nil, Nat.reduceAdd, Nat.reduceSub, Array.replicate_succ, Array.replicate_zero, List.push_toArray, List.append_toArray, List.nil_append, List.cons_append]
  go_wp2_with (go_at_call 23; refine (parts_any _ _ _ _ _ rfl).mono ?_; rintro e w' ⟨rfl, rfl⟩)
  obtain ⟨W2, hW2⟩ : ∃ W2, W2 = (((w.alloc (.cells #[.slice none 0 0] 22)).alloc (.cells #[.int .i64 0, .int .i64 0] 81)).alloc (.cells #[.slice (some ⟨bb, off, none⟩) l.length c] 22)) := ⟨_, rfl⟩
  rw [← hW2]
  have hs2 : W2.heap.size = w.heap.size + 3 := by rw [hW2]; simp
  have b1 : Boxed W2 w.heap.size 22 (.slice none 0 0) := by rw [hW2]; exact ((Boxed.new w _ _).alloc _).alloc _
  have b2 : SpanAt W2 (w.heap.size + 1) 0 0 := by
    rw [hW2]
    have := World.alloc_heap_new (w.alloc (.cells #[.slice none 0 0] 22)) (.cells #[.int .i64 0, .int .i64 0] 81)
    rw [World.size_alloc] at this
    exact ((below_alloc ((w.alloc (.cells #[.slice none 0 0] 22)).alloc (.cells #[.int .i64 0, .int .i64 0] 81)) _).block _ (by simp)).trans this
  have b3 : Boxed W2 (w.heap.size + 2) 22 (.slice (some ⟨bb, off, none⟩) l.length c) := by
    rw [hW2]
    have := Boxed.new ((w.alloc (.cells #[.slice none 0 0] 22)).alloc (.cells #[.int .i64 0, .int .i64 0] 81)) 22 (.slice (some ⟨bb, off, none⟩) l.length c)
    rwa [World.size_alloc, World.size_alloc] at this
  have b4 : Below w.heap.size w W2 := by rw [hW2]; exact (((Below.refl _ w).alloc (Nat.le_refl _) _).alloc (by simp) _).alloc (by simp; omega) _
  have hXN : Hangs XN w.heap.size := fun _ _ _ _ h => h
  obtain ⟨_, hst⟩ := stand_of h hne b4 b3
  have hseq := parts1_stops XN w.heap.size hXN l hl hR bb off c (w.heap.size + 2) W2 (by omega) (hst XN (fun h => h) (fun h => h))
  have HPT := Lib.hid hpt
  clear hW2 hst h hR b3 hpt
  refine wp_rangeH (X := XN) (b := w.heap.size) hXN (by omega) (gf := 42) (lb := #[.pointer (some ⟨w.heap.size + 1 + 1, 0, none⟩)]) rfl (enters_of Tryz.func42 (by kernel_rfl) rfl)
    hseq (fun _ => rfl)
    (fun pre W' => pre = [] ∧ Boxed W' w.heap.size 22 (.slice none 0 0) ∧ SpanAt W' (w.heap.size + 1) 0 0 ∧ Below w.heap.size w W') (Left1 w bb off)
    ?oI ?oIx ⟨rfl, b1, b2, b4⟩
    (fun x a' W' => ∃ B, a' = { tmps := #[Value.slice (some ⟨bb, off, none⟩) l.length c, undef, Value.pointer (some ⟨w.heap.size, 0, none⟩), Value.pointer (some ⟨w.heap.size + 1, 0, none⟩), .slice (some ⟨bb, off + x.f * 3, none⟩) x.n x.n, Value.pointer (some ⟨B, 0, none⟩), Value.slice (some ⟨bb, off, none⟩) l.length c, Value.func (Fn.func 42) #[] #[Value.pointer (some ⟨w.heap.size + 1 + 1, 0, none⟩)], .slice (some ⟨bb, off + x.f * 3, none⟩) x.n x.n, spV x.lo x.hi, undef, undef, undef], defers := [] } ∧ SpanAt W' B x.lo x.hi ∧ w.heap.size + 2 ≤ B)
    ?oA ?assign ?body ?done ?stop
  case oI =>
    intro pre W1 W1' row ⟨h0, h1, h2, h3⟩ hgr hr
    have hr2 : ∀ r, row = some r → ∃ o : Obj, W1.heap[r]? = some o ∧ o.isCells = false := fun r e => (hr r e).2
    exact ⟨h0, boxed_grown h1 hgr hr2, span_grown h2 hgr hr2, below_grown (C := W2.heap.size) b4.size h3 hgr (fun r e => (hr r e).1)⟩
  case oIx =>
    intro c' pre W1 W1' row ⟨h1, h2, p, h3, h4, h5⟩ hgr hr
    have hr2 : ∀ r, row = some r → ∃ o : Obj, W1.heap[r]? = some o ∧ o.isCells = false := fun r e => (hr r e).2
    exact ⟨below_grown (C := W2.heap.size) b4.size h1 hgr (fun r e => (hr r e).1), h2, p, h3, boxed_grown h4 hgr hr2, span_grown h5 hgr hr2⟩
  case oA =>
    intro x a' _ W1 W1' row ⟨B, h1, h2, h3⟩ hgr hr
    exact ⟨B, h1, span_grown h2 hgr (fun r e => (hr r e).2), h3⟩
  case assign =>
    rintro l' pre ⟨f, n, lo, hi⟩ W K ⟨h0, h1, h2, h3⟩ hK
    have H1 := Lib.hid (And.intro h1 (And.intro h2 h3))
    clear h1 h2 h3 hseq b1 b2 b4
    simp only [encP]
    gi_wp2
    have hb := below_alloc W (.cells #[.int .i64 lo, .int .i64 hi] 81)
    refine hK _ _ ((KeepsOthers.alloc W _).from _) ⟨hb.size, fun _ h => .inl h, fun k o ho _ _ => (hb.block k (Array.getElem?_eq_some_iff.1 ho).1).trans ho⟩ ⟨h0, H1.out.1.alloc _, (hb.block _ H1.out.2.1.lt).trans H1.out.2.1, under H1.out.2.2 hb⟩ ⟨W.heap.size, rfl, World.alloc_heap_new W _, H1.out.2.1.lt⟩
  case body =>
    rintro l' pre ⟨f, n, lo, hi⟩ a' W1 ⟨h0, h1, h2, h3⟩ ⟨B, rfl, hB, hBl⟩ hlt
    have H1 := Lib.hid h1
    have H2 := Lib.hid h2
    have H3 := Lib.hid h3
    have hc1 := h1.cell
    have hf1 := h1.frozen
    obtain ⟨d0, d1, f0, f1⟩ := h2.cells
    obtain ⟨e0, e1, _, _⟩ := hB.cells
    have q0 : ∀ u, (W1.drew.setCell ⟨w.heap.size, 0, none⟩ u).cell? ⟨B, 0, none⟩ = some (.int .i64 lo) := fun u => off_cell (by first | (simp; done) | (simp; omega)) e0
    have q1 : ∀ u, (W1.drew.setCell ⟨w.heap.size, 0, none⟩ u).cell? ⟨B, 1, none⟩ = some (.int .i64 hi) := fun u => off_cell (by first | (simp; done) | (simp; omega)) e1
    clear h1 h2 h3 hB hseq b1 b2 b4 hlt
    have hmx : Tryz.prog.follows .mixedOrders = true := by kernel_rfl
    simp only at e0 e1
    gi_wp2
    gi_region
    all_goals
      gi_wp2
      refine ⟨((KeepsOthers.setCell _ _ _).trans ((KeepsOthers.setCell _ _ _).trans ((KeepsOthers.setCell _ _ _).trans (KeepsOthers.drew _)))).from _, ?_, rfl, ⟨f, n, lo, hi⟩, by rw [h0]; rfl, ?_, ?_⟩
      · exact (((H3.out.setCell (p := ⟨w.heap.size, 0, none⟩) (Nat.le_refl _) _).setCell (p := ⟨w.heap.size + 1, 0, none⟩) (by simp) _).setCell (p := ⟨w.heap.size + 1, 1, none⟩) (by simp) _).drew
      · exact (Below.heap_setCell _ ⟨w.heap.size + 1, 1, none⟩ _ w.heap.size (by simp)).trans ((Below.heap_setCell _ ⟨w.heap.size + 1, 0, none⟩ _ w.heap.size (by simp)).trans (H1.out.set _))
      · have h5 : SpanAt (W1.setCell ⟨w.heap.size, 0, none⟩ (.slice (some ⟨bb, off + f * 3, none⟩) n n)) (w.heap.size + 1) 0 0 := (Below.heap_setCell _ ⟨w.heap.size, 0, none⟩ _ (w.heap.size + 1) (by simp)).trans H2.out
        exact h5.set
  case done =>
    rintro D ys W1 hD rfl ⟨h0, h1, h2, h3⟩ hK
    rw [HPT.out] at h0
    cases h0
  case stop =>
    rintro D c' pre W1 hD hpre ⟨h1, rfl, p, h3, h4, h5⟩ hK
    have hp : p = firstD l := by
      rw [h3, HPT.out] at hpre
      exact (List.cons_prefix_cons.1 hpre).1
    subst h3
    rw [hp, hf0] at h4
    rw [hp] at h5
    have hc4 := (boxed_grown h4 (grownBy_putObj' W1 D (.deferred none)) (fun r e => by cases e; exact ⟨_, hK, rfl⟩)).cell
    obtain ⟨d0, d1, _, _⟩ := (span_grown h5 (grownBy_putObj' W1 D (.deferred none)) (fun r e => by cases e; exact ⟨_, hK, rfl⟩)).cells
    obtain ⟨o0, o1, _, _⟩ := h5.cells
    have o4 := h4.cell
    clear hseq hpre
    generalize firstD l = q at *
    obtain ⟨f, n, lo, hi⟩ := q
    simp only at d0 d1 o0 o1 o4 hc4
    go_wp2_with fail
    refine ⟨by simp, .inl ⟨_, _, rfl, run_takeDeferred hK, ?_⟩⟩
    refine ⟨.tuple #[.slice (some ⟨bb, off + 0 * 3, none⟩) n n, spV lo hi], by simp [results, Tryz.results119, go_sem, hc4, d0, d1], by simp, below_grown (C := W2.heap.size) b4.size h1 (grownBy_putObj' W1 D _) (fun r e => by cases e; exact hD)⟩
end Go.Proofs.YtoephkglpbophaaGreat.P8

/-
  Layer 8: pmc: Common, Fit and Longest. Conditions: those written at each fact.
-/
namespace Go.Proofs.YtoephkglpbophaaGreat.P8
open Go.RowKit Go.Shelf

theorem makes_func (fn : Fn) (first cap : Array Value) (w : World) : (Instr.makeFunc fn first cap).run Tryz.prog w = .ok (.func fn first cap) w := rfl
/-- What Common, Longest and Fit tell. -/
def codeC (l : List Bd) : Int := if okD l then (if (firstD l).n < l.length then 181 else 0) else 180
def comLo (l : List Bd) : Int := if codeC l = 0 then (firstD l).lo else 0
def comHi (l : List Bd) : Int := if codeC l = 0 then (firstD l).hi else 0
theorem okD_ne {l : List Bd} (h : okD l = true) : l ≠ [] := by
  rintro rfl
  simp [okD] at h
/-- A slice of bands that may be has a place. -/
theorem readsD_some {w : World} {A : Option Addr} {c : Nat} {l : List Bd} (h : ReadsD w (.slice A l.length c) l) (hne : l ≠ []) : ∃ bb off, A = some ⟨bb, off, none⟩ := by
  obtain ⟨_, _, e, _, hk⟩ := h
  cases e
  obtain ⟨r, l', rfl⟩ := List.exists_cons_of_ne_nil hne
  obtain ⟨bb, off, e1, _⟩ := hk 0 r rfl
  exact ⟨bb, off, e1⟩
set_option maxHeartbeats 1000000 in
theorem common1_any (l : List Bd) (hk : okD l = true) (v : Value) (W : World) (B : Nat) (hb : Boxed W B 22 v) (h : ReadsD W v l) :
    Calls Tryz.prog 118 #[.pointer (some ⟨B, 0, none⟩)] W (Ret W (.tuple #[spV (comLo l) (comHi l), .int .i64 (codeC l)])) := by
  obtain ⟨h1, h2, hR⟩ := okD_facts hk
  have hne := okD_ne hk
  have hr := h
  obtain ⟨A, c, rfl, _, _⟩ := h
  obtain ⟨bb, off, rfl⟩ := readsD_some hr hne
  have FA := Lib.hid (fun W' (hb' : Below W.heap.size W W') => first_any l (by omega) hR hne bb off c W' (hr.below hb'))
  have hc := hb.cell
  have hbl := hb.lt
  have HE : Hid (codeC l = (if (firstD l).n < l.length then 181 else 0) ∧ comLo l = (if codeC l = 0 then (firstD l).lo else 0) ∧ comHi l = (if codeC l = 0 then (firstD l).hi else 0)) := Lib.hid ⟨by simp [codeC, hk], rfl, rfl⟩
  clear hr hR h1 h2 hne hk hb
  generalize comLo l = x at *
  generalize comHi l = y at *
  generalize codeC l = e at *
  generalize firstD l = q at *
  obtain ⟨f, n, lo, hi⟩ := q
  simp only at FA HE
  by_cases g : n < l.length
  · have E : Hid (e = 181 ∧ x = 0 ∧ y = 0) := Lib.hid (by
      obtain ⟨h1, h2, h3⟩ := HE.out
      rw [if_pos g] at h1
      subst h1
      exact ⟨rfl, h2, h3⟩)
    have i1 : (n : Int) < (l.length : Int) := by omega
    clear HE
    go_enter Tryz.func118, Tryz.ntmps118
    go_wp2_with fail
    refine (FA.out _ (below_alloc W _)).mono ?_
    rintro en w1 ⟨rfl, hb1⟩
    have hHeld : Keeps W [(W.heap.size, 0, .int .i64 0), (W.heap.size, 1, .int .i64 0)] w1 := Keeps.next (by refine ⟨below_alloc W _, ?_⟩; simp [Cells, go_sem]) hb1
    have hc1 := (hHeld.1.cell (p := ⟨B, 0, none⟩) hbl).trans hc
    have hbl1 := Nat.lt_of_lt_of_le hbl hHeld.1.size
    have hBne : ¬ B = W.heap.size := by omega
    clear hb1
    obtain ⟨⟨kz0, kc0, kf0⟩, ⟨kz1, kc1, kf1⟩, _⟩ := hHeld.2
    go_wp2_with fail
    obtain ⟨d0, d1⟩ := set2 (W := w1) (B := W.heap.size) (u0 := .int .i64 0) (u1 := .int .i64 0) kc0 kc1
    refine bodyPost_ret (v := .tuple #[spV 0 0, .int .i64 181]) (by simp [results, Tryz.results118, go_sem, d0, d1, kz0]) rfl ?_
    exact ⟨by rw [E.out.1, E.out.2.1, E.out.2.2], under ((hHeld.1.setCell (p := ⟨W.heap.size, 0, none⟩) (Nat.le_refl _) _).setCell (p := ⟨W.heap.size, 1, none⟩) (Nat.le_refl _) _) (below_alloc _ _)⟩
  · have E : Hid (e = 0 ∧ x = lo ∧ y = hi) := Lib.hid (by
      obtain ⟨h1, h2, h3⟩ := HE.out
      rw [if_neg g] at h1
      subst h1
      exact ⟨rfl, h2, h3⟩)
    have i1 : ¬ (n : Int) < (l.length : Int) := by omega
    clear HE
    go_enter Tryz.func118, Tryz.ntmps118
    go_wp2_with fail
    refine (FA.out _ (below_alloc W _)).mono ?_
    rintro en w1 ⟨rfl, hb1⟩
    have hHeld : Keeps W [(W.heap.size, 0, .int .i64 0), (W.heap.size, 1, .int .i64 0)] w1 := Keeps.next (by refine ⟨below_alloc W _, ?_⟩; simp [Cells, go_sem]) hb1
    have hc1 := (hHeld.1.cell (p := ⟨B, 0, none⟩) hbl).trans hc
    have hbl1 := Nat.lt_of_lt_of_le hbl hHeld.1.size
    have hBne : ¬ B = W.heap.size := by omega
    clear hb1
    obtain ⟨⟨kz0, kc0, kf0⟩, ⟨kz1, kc1, kf1⟩, _⟩ := hHeld.2
    go_wp2_with fail
    obtain ⟨d0, d1⟩ := set2 (W := w1) (B := W.heap.size) (u0 := .int .i64 lo) (u1 := .int .i64 hi) kc0 kc1
    refine bodyPost_ret (v := .tuple #[spV lo hi, .int .i64 0]) (by simp [results, Tryz.results118, go_sem, d0, d1, kz0]) rfl ?_
    exact ⟨by rw [E.out.1, E.out.2.1, E.out.2.2], under ((hHeld.1.setCell (p := ⟨W.heap.size, 0, none⟩) (Nat.le_refl _) _).setCell (p := ⟨W.heap.size, 1, none⟩) (Nat.le_refl _) _) (below_alloc _ _)⟩
end Go.Proofs.YtoephkglpbophaaGreat.P8

/-
  Layer 8: pmc: what is asked of bands, if they may be; Check, Common, Fit and Longest. Conditions: those written at each fact.
-/
namespace Go.Proofs.YtoephkglpbophaaGreat.P8
open Go.RowKit Go.Shelf

set_option maxHeartbeats 1000000 in
theorem ofS_any (l : List Bd) (hl : l.length ≤ 9223372036854775807) (K : Nat) (caps : Array Value) (eK : ∀ args w, (callFunc K args).run Tryz.prog w = .ok (.enter K args) w) (lo hi code : Int) (v : Value) (w : World) (h : ReadsD w v l)
    (hF : okD l = true → ∀ W, Below w.heap.size w W → Calls Tryz.prog K caps W (Ret W (.tuple #[spV lo hi, .int .i64 code]))) :
    Calls Tryz.prog 117 #[v, .func (.func K) #[] caps] w (Ret w (if okD l then .tuple #[spV lo hi, .int .i64 code] else .tuple #[spV 0 0, .int .i64 180])) := by
  have hr := h
  obtain ⟨A, c, rfl, _, _⟩ := h
  have BC := Lib.hid (fun W (hb : Below w.heap.size w W) => bcheck_any l hl _ W (hr.below hb))
  clear hr
  cases gk : okD l
  · rw [gk] at BC
    clear hF
    simp only [Bool.false_eq_true, if_false] at BC ⊢
    clear gk
    go_enter Tryz.func117, Tryz.ntmps117
    go_wp2_with fail
    refine (BC.out _ (below_alloc w _)).mono ?_
    rintro en w1 ⟨rfl, hb1⟩
    have hHeld : Keeps w [(w.heap.size, 0, .int .i64 0), (w.heap.size, 1, .int .i64 0)] w1 := Keeps.next (by refine ⟨below_alloc w _, ?_⟩; simp [Cells, go_sem]) hb1
    clear hb1
    obtain ⟨⟨kz0, kc0, kf0⟩, ⟨kz1, kc1, kf1⟩, _⟩ := hHeld.2
    go_wp2_with fail
    obtain ⟨d0, d1⟩ := set2 (W := w1) (B := w.heap.size) (u0 := .int .i64 0) (u1 := .int .i64 0) kc0 kc1
    refine bodyPost_ret (v := .tuple #[spV 0 0, .int .i64 180]) (by simp [results, Tryz.results117, go_sem, d0, d1, kz0]) rfl ?_
    exact ⟨rfl, under ((hHeld.1.setCell (p := ⟨w.heap.size, 0, none⟩) (Nat.le_refl _) _).setCell (p := ⟨w.heap.size, 1, none⟩) (Nat.le_refl _) _) (below_alloc _ _)⟩
  · have HF := Lib.hid (hF gk)
    rw [gk] at BC
    simp only [if_true] at BC ⊢
    clear hF gk
    go_enter Tryz.func117, Tryz.ntmps117
    go_wp2_with fail
    refine (BC.out _ (below_alloc w _)).mono ?_
    rintro en w1 ⟨rfl, hb1⟩
    have hHeld : Keeps w [(w.heap.size, 0, .int .i64 0), (w.heap.size, 1, .int .i64 0)] w1 := Keeps.next (by refine ⟨below_alloc w _, ?_⟩; simp [Cells, go_sem]) hb1
    have HF1 := Lib.hid (HF.out w1 hHeld.1)
    clear hb1 HF
    go_wp2_with fail
    refine HF1.out.mono ?_
    rintro en w2 ⟨rfl, hb2⟩
    replace hHeld := hHeld.next hb2
    clear hb2
    obtain ⟨⟨kz0, kc0, kf0⟩, ⟨kz1, kc1, kf1⟩, _⟩ := hHeld.2
    go_wp2_with fail
    obtain ⟨d0, d1⟩ := set2 (W := w2) (B := w.heap.size) (u0 := .int .i64 lo) (u1 := .int .i64 hi) kc0 kc1
    refine bodyPost_ret (v := .tuple #[spV lo hi, .int .i64 code]) (by simp [results, Tryz.results117, go_sem, d0, d1]) rfl ?_
    exact ⟨rfl, (hHeld.1.setCell (p := ⟨w.heap.size, 0, none⟩) (Nat.le_refl _) _).setCell (p := ⟨w.heap.size, 1, none⟩) (Nat.le_refl _) _⟩
theorem codeC_bad {l : List Bd} (h : okD l = false) : codeC l = 180 ∧ comLo l = 0 ∧ comHi l = 0 := by simp [codeC, comLo, comHi, h]
set_option maxHeartbeats 1000000 in
theorem common_any (l : List Bd) (hl : l.length ≤ 9223372036854775807) (v : Value) (w : World) (h : ReadsD w v l) :
    Calls Tryz.prog 114 #[v] w (Ret w (.tuple #[spV (comLo l) (comHi l), .int .i64 (codeC l)])) := by
  have hr := h
  obtain ⟨A, c, rfl, _, _⟩ := h
  have hmf := makes_func
  have HF := Lib.hid (fun W (hb : Below w.heap.size w W) (hbx : Boxed W w.heap.size 22 (.slice A l.length c)) => ofS_any l hl 118 #[.pointer (some ⟨w.heap.size, 0, none⟩)] (enters_of Tryz.func118 (by kernel_rfl) rfl) (comLo l) (comHi l) (codeC l) (.slice A l.length c) W (hr.below hb)
    (fun gk W' hb' => common1_any l gk (.slice A l.length c) W' w.heap.size ((hb'.block _ hbx.lt).trans hbx) ((hr.below hb).below hb')))
  have HE : Hid ((if okD l then Value.tuple #[spV (comLo l) (comHi l), .int .i64 (codeC l)] else .tuple #[spV 0 0, .int .i64 180]) = .tuple #[spV (comLo l) (comHi l), .int .i64 (codeC l)]) := Lib.hid (by
    cases gk : okD l
    · obtain ⟨h1, h2, h3⟩ := codeC_bad gk
      rw [h1, h2, h3]; rfl
    · rfl)
  clear hr
  generalize comLo l = x at *
  generalize comHi l = y at *
  generalize codeC l = e at *
  go_enter Tryz.func114, Tryz.ntmps114
  go_wp2_with fail
  have hb : Below w.heap.size w ((w.alloc (.cells #[.slice A l.length c] 22)).alloc (.cells #[.int .i64 0, .int .i64 0] 81)) := ((Below.refl _ w).alloc (Nat.le_refl _) _).alloc (by simp) _
  have HF1 := HF.out _ hb ((Boxed.new w _ _).alloc _)
  rw [HE.out] at HF1
  refine HF1.mono ?_
  rintro en w1 ⟨rfl, hb1⟩
  have hHeld : Keeps w [(w.heap.size + 1, 0, .int .i64 0), (w.heap.size + 1, 1, .int .i64 0)] w1 := Keeps.next (by refine ⟨hb, ?_⟩; simp [Cells, go_sem]) hb1
  clear hb1 HF1
  obtain ⟨⟨kz0, kc0, kf0⟩, ⟨kz1, kc1, kf1⟩, _⟩ := hHeld.2
  go_wp2_with fail
  obtain ⟨d0, d1⟩ := set2 (W := w1) (B := w.heap.size + 1) (u0 := .int .i64 x) (u1 := .int .i64 y) kc0 kc1
  refine bodyPost_ret (v := .tuple #[spV x y, .int .i64 e]) (by simp [results, Tryz.results114, go_sem, d0, d1]) rfl ?_
  exact ⟨rfl, (hHeld.1.setCell (p := ⟨w.heap.size + 1, 0, none⟩) (by simp) _).setCell (p := ⟨w.heap.size + 1, 1, none⟩) (by simp) _⟩
/-- The constant that is told. -/
def fitD (l : List Bd) : Int := if codeC l = 0 then (comLo l + comHi l) / 2 else 0
set_option maxHeartbeats 1000000 in
theorem fit_any (l : List Bd) (hl : l.length ≤ 9223372036854775807) (hlo : comLo l ≤ comHi l) (h1 : -9223372036854775808 ≤ comLo l) (h2 : comHi l ≤ 9223372036854775807) (v : Value) (w : World) (h : ReadsD w v l) :
    Calls Tryz.prog 108 #[v] w (Ret w (.tuple #[.int .i64 (fitD l), .int .i64 (codeC l)])) := by
  have CA := Lib.hid (common_any l hl v w h)
  have MA := Lib.hid (fun W => middle_any (comLo l) (comHi l) h1 h2 W)
  rw [if_neg (by omega), if_neg (by omega)] at MA
  obtain ⟨A, c, rfl, _, _⟩ := h
  by_cases g : codeC l = 0
  · have HE : Hid (fitD l = (comLo l + comHi l) / 2) := Lib.hid (by simp [fitD, g])
    rw [g] at CA ⊢
    rw [← HE.out] at MA
    clear HE g h1 h2 hlo
    generalize comLo l = x at *
    generalize comHi l = y at *
    generalize fitD l = z at *
    go_enter Tryz.func108, Tryz.ntmps108
    go_wp2_with fail
    refine CA.out.mono ?_
    rintro en w1 ⟨rfl, hb1⟩
    go_wp2_with fail
    refine (MA.out _).mono ?_
    rintro en w2 ⟨rfl, hb2⟩
    go_wp2_with fail
    go_returns
    exact ⟨rfl, under (under hb1 (below_alloc w1 _)) hb2⟩
  · have HE : Hid (fitD l = 0) := Lib.hid (by simp [fitD, g])
    clear MA h1 h2 hlo
    generalize comLo l = x at *
    generalize comHi l = y at *
    generalize codeC l = e at *
    have g1 : (e == 0) = false := beq_eq_false_iff_ne.2 g
    go_enter Tryz.func108, Tryz.ntmps108
    go_wp2_with fail
    refine CA.out.mono ?_
    rintro en w1 ⟨rfl, hb1⟩
    go_wp2_with fail
    go_returns
    exact ⟨by rw [HE.out]; try rfl, under hb1 (below_alloc w1 _)⟩
end Go.Proofs.YtoephkglpbophaaGreat.P8

/-
  Layer 8: pmc: Cut. Conditions: those written at each fact.
-/
namespace Go.Proofs.YtoephkglpbophaaGreat.P8
open Go.RowKit Go.Shelf
attribute [local go_sem] Oper.semAt_some

theorem infoInt : (Tryz.prog.info? 3).map (fun i => (i.zero, i.size, i.bytes)) = some (some (.int .i64 0), 1, 8) := by kernel_rfl
theorem info_parts8 {t : TypeId} {z : Value} {s b : Nat} (h : (Tryz.prog.info? t).map (fun i => (i.zero, i.size, i.bytes)) = some (some z, s, b)) : ∃ i : TypeInfo, Tryz.prog.info? t = some i ∧ i.zero = some z ∧ i.size = s ∧ i.bytes = b := by
  cases e : Tryz.prog.info? t with
  | none => rw [e] at h; cases h
  | some i =>
    rw [e] at h
    simp only [Option.map_some, Option.some.injEq, Prod.mk.injEq] at h
    exact ⟨i, rfl, h.1, h.2.1, h.2.2⟩
/-- How many bands each part has. -/
def cutD (l : List Bd) : List Int := (partsD 0 l).map fun p => (p.n : Int)
theorem partsD_length : ∀ (n : Nat) (k : Nat) (l : List Bd), l.length ≤ n → (partsD k l).length ≤ l.length
  | _, _, [], _ => by rw [partsD_nil]; exact Nat.le_refl _
  | 0, _, _ :: _, h => by simp at h
  | n + 1, k, b :: l, h => by
    rw [partsD_cons, List.length_cons]
    simp only [List.length_cons] at h ⊢
    have := partsD_length n (k + ((goM b.lo b.hi l).1 + 1)) (l.drop (goM b.lo b.hi l).1) (by rw [List.length_drop]; omega)
    rw [List.length_drop] at this
    omega
/-- A row of numbers of the call's own, from B on. -/
def RowN (B : Nat) (l : List Int) (v : Value) (W : World) : Prop := W.ownsRow B 3 1 v l.length (l.map (Value.int .i64))
/-- What Cut leaves within. -/
def CutEnd (w : World) (l : List Int) (code : Int) (e : Ending) (w' : World) : Prop := Below w.heap.size w w' ∧ ∃ A n c, e = .returned (.tuple #[.slice A n c, .int .i64 code]) ∧ RowN w.heap.size l (.slice A n c) w'
set_option maxRecDepth 100000 in
set_option maxHeartbeats 2000000 in
theorem cut1_any (l : List Bd) (gk : okD l = true) (Bl : Nat) (w : World) (v : Value) (h : ReadsD w v l) (hbl : Boxed w Bl 22 v) :
    Calls Tryz.prog 22 #[.pointer (some ⟨Bl, 0, none⟩)] w (CutEnd w (cutD l) 0) := by
  obtain ⟨_, hl2, hR⟩ := okD_facts gk
  have hne := okD_ne gk
  have hcl := hbl.cell
  have hrd := h
  obtain ⟨A, c, rfl, hc, hk⟩ := h
  obtain ⟨bb, off, rfl⟩ := readsD_some hrd hne
  clear hk gk
  obtain ⟨i0, hi, hz0, hz1, hz2⟩ := info_parts8 infoInt
  refine calls_marks Tryz.func22 rfl ?_
  simp only [Tryz.ntmps22, List.size_toArray, List.length_cons, List.length_nil, Nat.reduceAdd, Nat.reduceSub, Array.replicate_succ, Array.replicate_zero, List.push_toArray, List.append_toArray, List.nil_append, List.cons_append]
  have hbll := hbl.lt
  go_wp2_with (go_at_call 23; refine (parts_any _ _ _ _ _ rfl).mono ?_; rintro e w' ⟨rfl, rfl⟩)
  obtain ⟨W3, hW3⟩ : ∃ W3, W3 = (w.alloc (.cells #[.slice none 0 0] 27)).alloc (.cells #[.slice (some ⟨bb, off, none⟩) l.length c] 22) := ⟨_, rfl⟩
  rw [← hW3]
  have hs3 : W3.heap.size = w.heap.size + 2 := by rw [hW3]; simp
  have hbT3 : Boxed W3 w.heap.size 27 (.slice none 0 0) := by rw [hW3]; exact (Boxed.new w _ _).alloc _
  have hbL : Boxed W3 (w.heap.size + 1) 22 (.slice (some ⟨bb, off, none⟩) l.length c) := by
    rw [hW3]
    have := Boxed.new (w.alloc (.cells #[.slice none 0 0] 27)) 22 (.slice (some ⟨bb, off, none⟩) l.length c)
    rwa [World.size_alloc] at this
  have hB3 : Below w.heap.size w W3 := by rw [hW3]; exact ((Below.refl _ w).alloc (Nat.le_refl _) _).alloc (by simp) _
  have hoT3 : RowN w.heap.size [] (.slice none 0 0) W3 := World.ownsRow_nil _ _ _ _
  have hXs : ∀ k, XT w.heap.size W3 k → k = w.heap.size := by
    intro k hk
    rcases hk with rfl | ⟨off, n, c, s, e⟩
    · rfl
    · rw [hbT3.cell] at e
      cases e
  obtain ⟨hbb, hst⟩ := stand_of hrd hne hB3 hbL
  have hseq := parts1_stops (XT w.heap.size) w.heap.size (XT_hangs _) l (by omega) hR bb off c (w.heap.size + 1) W3 (by omega) (hst _ (fun hx => by have := hXs _ hx; omega) (fun hx => by have := hXs _ hx; omega))
  have hpl2 := partsD_length l.length 0 l (Nat.le_refl _)
  have HNM : Hid (cutD l = (partsD 0 l).map fun p => (p.n : Int)) := Lib.hid rfl
  clear hst hbL hrd hR hXs hbl hW3 hne
  generalize partsD 0 l = full at *
  refine wp_rangeC (X := XT w.heap.size) (b := w.heap.size) (XT_hangs _) (by omega) (gf := 42) (lb := #[.pointer (some ⟨w.heap.size + 1, 0, none⟩)]) rfl (enters_of Tryz.func42 (by kernel_rfl) rfl)
    hseq (fun _ => rfl)
    (fun pre W' => ∃ v, Boxed W' w.heap.size 27 v ∧ RowN w.heap.size (pre.map fun p => (p.n : Int)) v W' ∧ Below w.heap.size w W') (fun _ _ _ => False)
    ?oI (fun _ _ _ _ _ hs _ _ => hs) ⟨_, hbT3, hoT3, hB3⟩
    (fun x => { tmps := #[Value.pointer (some ⟨Bl, 0, none⟩), Value.slice none 0 0, Value.int .i64 0, Value.pointer (some ⟨w.heap.size, 0, none⟩), .slice (some ⟨bb, off + x.f * 3, none⟩) x.n x.n, Value.slice (some ⟨bb, off, none⟩) l.length c, Value.func (Fn.func 42) #[] #[Value.pointer (some ⟨w.heap.size + 1, 0, none⟩)], .slice (some ⟨bb, off + x.f * 3, none⟩) x.n x.n, spV x.lo x.hi, undef, undef, undef, undef, undef, undef], defers := [] }) ?assign ?body ?done ?stop
  case oI =>
    intro pre W1 W1' row ⟨v, h1, h2, h3⟩ hgr hr
    have hr2 : ∀ r, row = some r → ∃ o : Obj, W1.heap[r]? = some o ∧ o.isCells = false := fun r e => (hr r e).2
    exact ⟨v, cells_kept hgr hr2 h1 rfl, owns_kept h2 hgr hr2, below_grown (C := W3.heap.size) hB3.size h3 hgr (fun r e => (hr r e).1)⟩
  case assign =>
    rintro l' ⟨f, n, lo, hi⟩ W K hK
    simp only [encP]
    gi_wp2
    simpa using hK
  case body =>
    rintro l' pre ⟨f, n, lo, hi2⟩ W1 ⟨v, h1, h2, h3⟩ hlt
    have hpl : pre.length ≤ 256 := by omega
    have hc1 := h1.cell
    have hf1 := h1.frozen
    have h1s := h3.size
    have hgl := h1.lt
    have H1 := Lib.hid h1
    have h2' : W1.ownsRow w.heap.size 3 1 v pre.length ((pre.map fun p => (p.n : Int)).map (Value.int .i64)) := by
      have := h2
      unfold RowN at this
      rwa [List.length_map] at this
    have H2 := Lib.hid h2'
    have H3 := Lib.hid h3
    clear h1 h2 h2' hlt hseq hbT3 hoT3 hB3 h3
    gi_wp2_with (gi_at_builtin; refine wpListIn_append_own_at _ rfl _ _ 27 rfl w.heap.size 3 i0 (.int .i64 0) 1 8 Tryz.underlying27 hi hz0 hz1 hz2 rfl (by decide) v _ _ rfl (owns_below H2.out (below_alloc W1 _)) ⟨W1.heap.size, 0, none⟩ 1 1 [.int .i64 (n : Int)] rfl rfl (new_cells1 rfl) (by intro u hu; simp at hu; subst hu; rfl) (by unfold maxLen; omega) (by omega) (by simp; omega) ?_; intro v8 w8 hown8 hgrow8 _ h8; obtain ⟨g8, cap8, rfl⟩ := ownsRow_succ hown8; have hx8 : Boxed w8 w.heap.size 27 v := (hgrow8.block _ (by simp; omega) (fun e => Boxed.not_row H1.out (by decide) H2.out e)).trans (((below_alloc W1 _).block _ hgl).trans H1.out); have hc8 := hx8.cell; have hf8 := hx8.frozen)
    obtain ⟨q1, q2, q3, q4, q5⟩ := row_step (B := w.heap.size) (by decide) H1.out (by omega) h1s (below_alloc W1 _) H2.out hgrow8 h8 hown8
    refine ⟨q2.from _, q3, _, q4, ?_, H3.out.trans q1⟩
    unfold RowN
    rw [List.map_append, List.map_append, List.length_append, List.length_map]
    simpa using q5
  case done =>
    rintro D ys W1 hD rfl ⟨v, h1, h2, h3⟩ hK
    rw [← HNM.out] at h2
    have H2 := Lib.hid h2
    have H3 := Lib.hid h3
    have hc1 := h1.cell
    obtain ⟨A1, n1, c1, hv⟩ : ∃ A1 n1 c1, v = .slice A1 n1 c1 := by
      rcases h2.2 with ⟨rfl, _⟩ | ⟨g', cap, cur, rfl, _⟩
      · exact ⟨_, _, _, rfl⟩
      · exact ⟨_, _, _, rfl⟩
    subst hv
    clear h2 hseq hbT3 hoT3
    go_wp2_with fail
    refine ⟨by simp, .inl ⟨_, _, rfl, run_takeDeferred hK, ?_⟩⟩
    refine ⟨.tuple #[.slice A1 n1 c1, .int .i64 0], by simp [results, Tryz.results22, go_sem], below_grown (C := W3.heap.size) hB3.size H3.out (grownBy_putObj' W1 D _) (fun r e => by cases e; exact hD), _, _, _, rfl, owns_kept (show World.ownsRow _ _ _ _ _ _ _ from H2.out) (grownBy_putObj' W1 D _) (fun r e => by cases e; exact ⟨_, hK, rfl⟩)⟩
  case stop =>
    rintro D c pre W _ _ h _
    exact h.elim
end Go.Proofs.YtoephkglpbophaaGreat.P8

/-
  Layer 8: pmc: Cut. Conditions: those written at each fact.
-/
namespace Go.Proofs.YtoephkglpbophaaGreat.P8
open Go.RowKit Go.Shelf

/-- The parts that Cut tells, and its code. -/
def cutR (l : List Bd) : List Int := if okD l then cutD l else []
def codeK (l : List Bd) : Int := if okD l then 0 else 180
theorem CutEnd.less {w W w' : World} {l : List Int} {code : Int} {e : Ending} (h : CutEnd W l code e w') (hb : Below w.heap.size w W) : CutEnd w l code e w' := by
  obtain ⟨h1, A, n, c, h2, h3⟩ := h
  exact ⟨under hb h1, A, n, c, h2, owns_less h3 hb.size⟩
set_option maxHeartbeats 1000000 in
theorem ofL_any (l : List Bd) (hl : l.length ≤ 9223372036854775807) (K : Nat) (caps : Array Value) (eK : ∀ args w, (callFunc K args).run Tryz.prog w = .ok (.enter K args) w) (v : Value) (w : World) (h : ReadsD w v l)
    (hF : okD l = true → ∀ W, Below w.heap.size w W → Calls Tryz.prog K caps W (CutEnd W (cutR l) 0)) :
    Calls Tryz.prog 21 #[v, .func (.func K) #[] caps] w (CutEnd w (cutR l) (codeK l)) := by
  have hr := h
  obtain ⟨A, c, rfl, _, _⟩ := h
  have BC := Lib.hid (bcheck_any l hl _ w hr)
  clear hr
  cases gk : okD l
  · rw [gk] at BC
    have E : Hid (cutR l = [] ∧ codeK l = 180) := Lib.hid ⟨by simp [cutR, gk], by simp [codeK, gk]⟩
    clear hF gk
    simp only [Bool.false_eq_true, if_false] at BC
    go_enter Tryz.func21, Tryz.ntmps21
    go_wp2_with fail
    refine BC.out.mono ?_
    rintro en w1 ⟨rfl, hb1⟩
    go_wp2_with fail
    go_returns
    exact ⟨hb1, _, _, _, by rw [E.out.2]; rfl, by rw [E.out.1]; exact World.ownsRow_nil _ _ _ _⟩
  · have HF := Lib.hid (hF gk)
    rw [gk] at BC
    have E : Hid (codeK l = 0) := Lib.hid (by simp [codeK, gk])
    simp only [if_true] at BC
    clear hF gk
    go_enter Tryz.func21, Tryz.ntmps21
    go_wp2_with fail
    refine BC.out.mono ?_
    rintro en w1 ⟨rfl, hb1⟩
    have HF1 := Lib.hid (HF.out w1 hb1)
    go_wp2_with fail
    refine HF1.out.mono ?_
    rintro en w2 ⟨hb2, A1, n1, c1, rfl, hrow⟩
    have H2 := Lib.hid hrow
    clear hrow
    go_wp2_with fail
    go_returns
    exact ⟨under hb1 hb2, _, _, _, by rw [E.out]; rfl, owns_less H2.out hb1.size⟩
set_option maxHeartbeats 1000000 in
theorem cut_any (l : List Bd) (hl : l.length ≤ 9223372036854775807) (v : Value) (w : World) (h : ReadsD w v l) :
    Calls Tryz.prog 8 #[v] w (CutEnd w (cutR l) (codeK l)) := by
  have hr := h
  obtain ⟨A, c, rfl, _, _⟩ := h
  have hmf := makes_func
  have HF := Lib.hid (fun W (hb : Below w.heap.size w W) (hbx : Boxed W w.heap.size 22 (.slice A l.length c)) => ofL_any l hl 22 #[.pointer (some ⟨w.heap.size, 0, none⟩)] (enters_of Tryz.func22 (by kernel_rfl) rfl) (.slice A l.length c) W (hr.below hb)
    (fun gk W' hb' => by
      rw [show cutR l = cutD l by simp [cutR, gk]]
      exact cut1_any l gk w.heap.size W' (.slice A l.length c) ((hr.below hb).below hb') ((hb'.block _ hbx.lt).trans hbx)))
  clear hr
  generalize cutR l = x at *
  generalize codeK l = e at *
  go_enter Tryz.func8, Tryz.ntmps8
  go_wp2_with fail
  have hb := below_alloc w (.cells #[.slice A l.length c] 22)
  refine (HF.out _ hb (Boxed.new w _ _)).mono ?_
  rintro en w2 ⟨hb2, A1, n1, c1, rfl, hrow⟩
  have H2 := Lib.hid hrow
  clear hrow HF
  go_wp2_with fail
  go_returns
  exact ⟨under hb hb2, _, _, _, rfl, owns_less H2.out hb.size⟩
end Go.Proofs.YtoephkglpbophaaGreat.P8
