/-
  Layer 9: swing: the lesser and the greater of two slopes; a door that is opened. Conditions: those written at each fact.
-/
import Derived.Test.YtoephkglpbophaaGreatSwA
namespace Go.Proofs.YtoephkglpbophaaGreat.P9
open Go.RowKit Go.Shelf Go.Proofs.YtoephkglpbophaaGreat.P8

abbrev arV (n d m e : Int) : Value := .agg #[.int .i64 n, .int .i64 d, .int .i64 m, .int .i64 e]
set_option maxHeartbeats 1000000 in
theorem rising_gt (n d m e : Int) (h : slopesB n d m e = true) (g : m * d < n * e) (w : World) : Calls Tryz.prog 92 #[slV n d, slV m e] w (Ret w (arV m e n d)) := by
  have CP := Lib.hid (fun W => cmp_any n d m e W)
  have hc : decide (0 < cpI n d m e) = true := by
    simp only [cpI, h, if_true, cmpI]
    rw [if_neg (by omega), if_neg (by omega)]
    rfl
  rw [h] at CP
  generalize cpI n d m e = p at *
  clear h g
  go_enter Tryz.func92, Tryz.ntmps92
  go_wp2_with fail
  refine (CP.out _).mono ?_
  rintro en W1 ⟨rfl, hb1⟩
  have hHeld : Keeps w [(w.heap.size, 0, .int .i64 n), (w.heap.size, 1, .int .i64 d), (w.heap.size + 1, 0, .int .i64 m), (w.heap.size + 1, 1, .int .i64 e), (w.heap.size + 2, 0, .int .i64 0), (w.heap.size + 2, 1, .int .i64 0), (w.heap.size + 2, 2, .int .i64 0), (w.heap.size + 2, 3, .int .i64 0)] W1 := Keeps.next (by refine ⟨(((Below.refl _ w).alloc (Nat.le_refl _) _).alloc (by simp) _).alloc (by simp; omega) _, ?_⟩; simp [Cells, go_sem]) hb1
  clear hb1
  obtain ⟨⟨kz0, kc0, kf0⟩, ⟨kz1, kc1, kf1⟩, ⟨kz2, kc2, kf2⟩, ⟨kz3, kc3, kf3⟩, ⟨kz4, kc4, kf4⟩, ⟨kz5, kc5, kf5⟩, ⟨kz6, kc6, kf6⟩, ⟨kz7, kc7, kf7⟩, _⟩ := hHeld.2
  go_wp2_with fail
  obtain ⟨d0, d1, d2, d3⟩ := set4 (W := W1) (B := w.heap.size + 2) (u0 := .int .i64 m) (u1 := .int .i64 e) (u2 := .int .i64 n) (u3 := .int .i64 d) kc4 kc5 kc6 kc7
  refine bodyPost_ret (v := arV m e n d) (by simp [results, Tryz.results92, go_sem, d0, d1, d2, d3]) rfl ?_
  exact ⟨rfl, (((hHeld.1.setCell (p := ⟨w.heap.size + 2, 0, none⟩) (by simp) _).setCell (p := ⟨w.heap.size + 2, 1, none⟩) (by simp) _).setCell (p := ⟨w.heap.size + 2, 2, none⟩) (by simp) _).setCell (p := ⟨w.heap.size + 2, 3, none⟩) (by simp) _⟩
set_option maxHeartbeats 1000000 in
theorem rising_le (n d m e : Int) (h : slopesB n d m e = true) (g : ¬ m * d < n * e) (w : World) : Calls Tryz.prog 92 #[slV n d, slV m e] w (Ret w (arV n d m e)) := by
  have CP := Lib.hid (fun W => cmp_any n d m e W)
  have hc : decide (0 < cpI n d m e) = false := by
    simp only [cpI, h, if_true, cmpI]
    split
    · rfl
    · rw [if_pos (by omega)]; rfl
  rw [h] at CP
  generalize cpI n d m e = p at *
  clear h g
  go_enter Tryz.func92, Tryz.ntmps92
  go_wp2_with fail
  refine (CP.out _).mono ?_
  rintro en W1 ⟨rfl, hb1⟩
  have hHeld : Keeps w [(w.heap.size, 0, .int .i64 n), (w.heap.size, 1, .int .i64 d), (w.heap.size + 1, 0, .int .i64 m), (w.heap.size + 1, 1, .int .i64 e), (w.heap.size + 2, 0, .int .i64 0), (w.heap.size + 2, 1, .int .i64 0), (w.heap.size + 2, 2, .int .i64 0), (w.heap.size + 2, 3, .int .i64 0)] W1 := Keeps.next (by refine ⟨(((Below.refl _ w).alloc (Nat.le_refl _) _).alloc (by simp) _).alloc (by simp; omega) _, ?_⟩; simp [Cells, go_sem]) hb1
  clear hb1
  obtain ⟨⟨kz0, kc0, kf0⟩, ⟨kz1, kc1, kf1⟩, ⟨kz2, kc2, kf2⟩, ⟨kz3, kc3, kf3⟩, ⟨kz4, kc4, kf4⟩, ⟨kz5, kc5, kf5⟩, ⟨kz6, kc6, kf6⟩, ⟨kz7, kc7, kf7⟩, _⟩ := hHeld.2
  go_wp2_with fail
  obtain ⟨d0, d1, d2, d3⟩ := set4 (W := W1) (B := w.heap.size + 2) (u0 := .int .i64 n) (u1 := .int .i64 d) (u2 := .int .i64 m) (u3 := .int .i64 e) kc4 kc5 kc6 kc7
  refine bodyPost_ret (v := arV n d m e) (by simp [results, Tryz.results92, go_sem, d0, d1, d2, d3]) rfl ?_
  exact ⟨rfl, (((hHeld.1.setCell (p := ⟨w.heap.size + 2, 0, none⟩) (by simp) _).setCell (p := ⟨w.heap.size + 2, 1, none⟩) (by simp) _).setCell (p := ⟨w.heap.size + 2, 2, none⟩) (by simp) _).setCell (p := ⟨w.heap.size + 2, 3, none⟩) (by simp) _⟩

/-- A door: its hinge, and both its ends. -/
structure Dr where
  t : Int
  v : Int
  a : Int
  b : Int
  c : Int
  d : Int
abbrev drV (x : Dr) : Value := .agg #[.int .i64 x.t, .int .i64 x.v, .int .i64 x.a, .int .i64 x.b, .int .i64 x.c, .int .i64 x.d]
/-- Block B is a door's variable. -/
abbrev DrAt (W : World) (B : Nat) (x : Dr) : Prop := Cells [(B, 0, .int .i64 x.t), (B, 1, .int .i64 x.v), (B, 2, .int .i64 x.a), (B, 3, .int .i64 x.b), (B, 4, .int .i64 x.c), (B, 5, .int .i64 x.d)] W
theorem DrAt.lt {W : World} {B : Nat} {x : Dr} (h : DrAt W B x) : B < W.heap.size := h.1.1
/-- Six cells of a block, stored one behind the other. -/
def put6 (W : World) (B : Nat) (u0 u1 u2 u3 u4 u5 : Value) : World := (((((W.setCell ⟨B, 0, none⟩ u0).setCell ⟨B, 1, none⟩ u1).setCell ⟨B, 2, none⟩ u2).setCell ⟨B, 3, none⟩ u3).setCell ⟨B, 4, none⟩ u4).setCell ⟨B, 5, none⟩ u5
theorem set6 {W : World} {B : Nat} {u0 u1 u2 u3 u4 u5 a0 a1 a2 a3 a4 a5 : Value} (h0 : W.cell? ⟨B, 0, none⟩ = some a0) (h1 : W.cell? ⟨B, 1, none⟩ = some a1) (h2 : W.cell? ⟨B, 2, none⟩ = some a2) (h3 : W.cell? ⟨B, 3, none⟩ = some a3) (h4 : W.cell? ⟨B, 4, none⟩ = some a4) (h5 : W.cell? ⟨B, 5, none⟩ = some a5) :
    (put6 W B u0 u1 u2 u3 u4 u5).cell? ⟨B, 0, none⟩ = some u0 ∧ (put6 W B u0 u1 u2 u3 u4 u5).cell? ⟨B, 1, none⟩ = some u1 ∧ (put6 W B u0 u1 u2 u3 u4 u5).cell? ⟨B, 2, none⟩ = some u2 ∧ (put6 W B u0 u1 u2 u3 u4 u5).cell? ⟨B, 3, none⟩ = some u3 ∧ (put6 W B u0 u1 u2 u3 u4 u5).cell? ⟨B, 4, none⟩ = some u4 ∧ (put6 W B u0 u1 u2 u3 u4 u5).cell? ⟨B, 5, none⟩ = some u5 := by
  obtain ⟨k0, k1, k2, k3⟩ := set4 (u0 := u0) (u1 := u1) (u2 := u2) (u3 := u3) h0 h1 h2 h3
  unfold put6
  refine ⟨?_, ?_, ?_, ?_, ?_, ?_⟩
  · exact off_cell (by simp) (off_cell (by simp) k0)
  · exact off_cell (by simp) (off_cell (by simp) k1)
  · exact off_cell (by simp) (off_cell (by simp) k2)
  · exact off_cell (by simp) (off_cell (by simp) k3)
  · exact off_cell (by simp) (World.cell?_setCell_same' _ _ _ (by rw [off_cell (by simp) (off_cell (by simp) (off_cell (by simp) (off_cell (by simp) h4)))]; rfl))
  · exact World.cell?_setCell_same' _ _ _ (by rw [off_cell (by simp) (off_cell (by simp) (off_cell (by simp) (off_cell (by simp) (off_cell (by simp) h5))))]; rfl)
theorem below_put6 {n : Nat} {w W : World} {B : Nat} (h : Below n w W) (hB : n ≤ B) (u0 u1 u2 u3 u4 u5 : Value) : Below n w (put6 W B u0 u1 u2 u3 u4 u5) :=
  (((((h.setCell (p := ⟨B, 0, none⟩) hB _).setCell (p := ⟨B, 1, none⟩) hB _).setCell (p := ⟨B, 2, none⟩) hB _).setCell (p := ⟨B, 3, none⟩) hB _).setCell (p := ⟨B, 4, none⟩) hB _).setCell (p := ⟨B, 5, none⟩) hB _
/-- The door ahead of all bands but the first one. -/
def open0 (b : Bd) : Dr := ⟨b.t, mid b, -4611688217450643456, 1, 4611688217450643456, 1⟩
set_option maxHeartbeats 1000000 in
theorem opened_any (b : Bd) (l : List Bd) (h : BdOk b) (v : Value) (w : World) (hr : ReadsD w v (b :: l)) :
    Calls Tryz.prog 66 #[v] w (Ret w (drV (open0 b))) := by
  have HA := Lib.hid (fun W (hb : Below w.heap.size w W) => hinge_any b l h v W (hr.below hb))
  obtain ⟨A, c, rfl, hc, hk⟩ := hr
  unfold open0
  generalize mid b = m at *
  obtain ⟨t, lo, hi⟩ := b
  simp only at HA ⊢
  clear h hc hk
  generalize ((⟨t, lo, hi⟩ : Bd) :: l).length = n at *
  go_enter Tryz.func66, Tryz.ntmps66
  go_wp2_with fail
  refine (HA.out _ (below_alloc w _)).mono ?_
  rintro en w1 ⟨rfl, hb1⟩
  have hHeld : Keeps w [(w.heap.size, 0, .int .i64 0), (w.heap.size, 1, .int .i64 0), (w.heap.size, 2, .int .i64 0), (w.heap.size, 3, .int .i64 0), (w.heap.size, 4, .int .i64 0), (w.heap.size, 5, .int .i64 0)] w1 := Keeps.next (by refine ⟨below_alloc w _, ?_⟩; simp [Cells, go_sem]) hb1
  clear hb1
  obtain ⟨⟨kz0, kc0, kf0⟩, ⟨kz1, kc1, kf1⟩, ⟨kz2, kc2, kf2⟩, ⟨kz3, kc3, kf3⟩, ⟨kz4, kc4, kf4⟩, ⟨kz5, kc5, kf5⟩, _⟩ := hHeld.2
  go_wp2_with fail
  obtain ⟨d0, d1, d2, d3, d4, d5⟩ := set6 (W := w1) (B := w.heap.size) (u0 := .int .i64 t) (u1 := .int .i64 m) (u2 := .int .i64 (-4611688217450643456)) (u3 := .int .i64 1) (u4 := .int .i64 4611688217450643456) (u5 := .int .i64 1) kc0 kc1 kc2 kc3 kc4 kc5
  refine bodyPost_ret (v := drV ⟨t, m, -4611688217450643456, 1, 4611688217450643456, 1⟩) ?_ rfl ⟨rfl, below_put6 hHeld.1 (Nat.le_refl _) _ _ _ _ _ _⟩
  unfold put6 at d0 d1 d2 d3 d4 d5
  simp [results, Tryz.results66, go_sem, d0, d1, d2, d3, d4, d5]
end Go.Proofs.YtoephkglpbophaaGreat.P9
