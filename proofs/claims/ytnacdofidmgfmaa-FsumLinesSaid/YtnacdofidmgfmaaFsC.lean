/-
  Layer 6: what is added to a sum. Conditions: those written at each fact.
-/
import Derived.Test.YtnacdofidmgfmaaFsB
namespace Go.Proofs.Ytnacdofidmgfmaa
open Go.RowKit

theorem below_new2 (W : World) (a b u0 u1 : Value) (t : TypeId) : Below W.heap.size W (((W.alloc (.cells #[a, b] t)).setCell ⟨W.heap.size, 0, none⟩ u0).setCell ⟨W.heap.size, 1, none⟩ u1) :=
  ((below_alloc W _).setCell (Nat.le_refl _) _).setCell (Nat.le_refl _) _
theorem cells_new2 (W : World) (a b u0 u1 : Value) (t : TypeId) : Cells [(W.heap.size, 0, u0), (W.heap.size, 1, u1)] (((W.alloc (.cells #[a, b] t)).setCell ⟨W.heap.size, 0, none⟩ u0).setCell ⟨W.heap.size, 1, none⟩ u1) := by
  simp [Cells, go_sem]
theorem KeepsX.undrewR {w W : World} {s : Nat} {L : List (Nat × Nat × Value)} (h : KeepsX w s L W.drew) : KeepsX w s L W := ⟨⟨h.1.os, h.1.tape, h.1.output, h.1.size, h.1.block⟩, h.2.undrewR⟩
theorem KeepsX.set2M {w W : World} {s b o p : Nat} {u u' : Value} {M : List (Nat × Nat × Value)} (h : KeepsX w s ((b, o, u) :: (b, p, u') :: M) W) (hb : b ≠ s) (hM : ∀ q ∈ M, q.1 ≠ s ∨ 2 ≤ q.2.1) (v0 v1 : Value) :
    KeepsX w s ((b, o, u) :: (b, p, u') :: M) ((W.setCell ⟨s, 0, none⟩ v0).setCell ⟨s, 1, none⟩ v1) := by
  have hne : ∀ i, i < 2 → ∀ q ∈ (b, o, u) :: (b, p, u') :: M, q.1 ≠ s ∨ q.2.1 ≠ i := by
    intro i hi q hq
    rcases List.mem_cons.1 hq with rfl | hq
    · exact Or.inl hb
    · rcases List.mem_cons.1 hq with rfl | hq
      · exact Or.inl hb
      · rcases hM q hq with g | g
        · exact Or.inl g
        · exact Or.inr (by omega)
  exact (h.set (p := ⟨s, 0, none⟩) (Or.inl rfl) rfl (hne 0 (by omega)) v0).set (p := ⟨s, 1, none⟩) (Or.inl rfl) rfl (hne 1 (by omega)) v1
theorem scale_fits (y k : Int) (hy : Fits y) (hk : I64 k) (f : Fits (y * k)) (w : World) : Calls Try.prog 48 #[wideV (rhi y) (rlo y), .int .i64 k] w (Ret w (.tuple #[wideV (rhi (y * k)) (rlo (y * k)), .int .i64 0])) := by
  have h := scale_any (rhi y) (rlo y) k (rhi_i64 _) (rlo_u64 _) hk w
  rw [val_r hy] at h
  have e : rcode (y * k) = 0 := by unfold rcode; rw [if_pos f]
  rw [show (.tuple #[wideV (rhi (y * k)) (rlo (y * k)), .int .i64 0] : Value) = roomV (y * k) by unfold roomV; rw [e]]
  exact h
theorem add_fits (x y : Int) (hx : Fits x) (hy : Fits y) (f : Fits (x + y)) (w : World) : Calls Try.prog 49 #[wideV (rhi x) (rlo x), wideV (rhi y) (rlo y)] w (Ret w (.tuple #[wideV (rhi (x + y)) (rlo (x + y)), .int .i64 0])) := by
  have h := add_any (rhi x) (rlo x) (rhi y) (rlo y) (rhi_i64 _) (rlo_u64 _) (rhi_i64 _) (rlo_u64 _) w
  rw [val_r hx, val_r hy] at h
  have e : rcode (x + y) = 0 := by unfold rcode; rw [if_pos f]
  rw [show (.tuple #[wideV (rhi (x + y)) (rlo (x + y)), .int .i64 0] : Value) = roomV (x + y) by unfold roomV; rw [e]]
  exact h
set_option maxRecDepth 100000 in
set_option maxHeartbeats 2000000 in
theorem sadd_any (s : Nat) (z y k : Int) (M : List (Nat × Nat × Value)) (hz : Fits z) (hy : Fits y) (hk : I64 k) (f1 : Fits (y * k)) (f2 : Fits (z + y * k)) (w : World)
    (hs : Cells ((s, 0, .int .i64 (rhi z)) :: (s, 1, .int .u64 (rlo z)) :: M) w) (hM : ∀ q ∈ M, q.1 ≠ s ∨ 2 ≤ q.2.1) :
    Calls Try.prog 64 #[.pointer (some ⟨s, 0, none⟩), wideV (rhi y) (rlo y), .int .i64 k] w
      (Wrote w s (.tuple #[]) ((s, 0, .int .i64 (rhi (z + y * k))) :: (s, 1, .int .u64 (rlo (z + y * k))) :: M)) := by
  have SC := Lib.hid (fun W => scale_fits y k hy hk f1 W)
  have AD := Lib.hid (fun W => add_fits z (y * k) hz f1 f2 W)
  have HM := Lib.hid hM
  clear hM hy hk hz f1 f2
  have hK : Keeps w ((s, 0, .int .i64 (rhi z)) :: (s, 1, .int .u64 (rlo z)) :: M) w := ⟨Below.refl _ _, hs⟩
  clear hs
  generalize rhi (z + y * k) = p0 at *
  generalize rlo (z + y * k) = p1 at *
  generalize rhi (y * k) = q0 at *
  generalize rlo (y * k) = q1 at *
  generalize rhi y = y0 at *
  generalize rlo y = y1 at *
  generalize rhi z = z0 at *
  generalize rlo z = z1 at *
  go_enter Try.func64, Try.ntmps64
  go_wp2_with fail
  refine (SC.out _).mono ?_
  rintro e w1 ⟨rfl, hb⟩
  have hH := (hK.alloc _).next hb
  clear hb
  go_wp2_with fail
  have hlt : s < w1.heap.size := hH.2.1.1
  refine region_keepsXB (w0 := w) (s := s) (L := ((w1.heap.size, 0, .int .i64 q0) :: (w1.heap.size, 1, .int .u64 q1) :: M)) (M := [(s, 0, .int .i64 z0), (s, 1, .int .u64 z1)]) (by kernel_rfl) ⟨Near.of (hH.alloc _).1, (newK2 (hH.alloc _)).2.1, (newK2 (hH.alloc _)).2.2.1, (hH.alloc _).2.2.2⟩ ⟨Near.of (hH.alloc _).1, (hH.alloc _).2.1, (hH.alloc _).2.2.1, trivial⟩ (fun hHeld0 hT0 => ?_)
  refine wpAnyH_take (i := 0) (oi := ⟨some 15, _, _, _, _, _⟩) (v := ?_) rfl (by kernel_rfl) (by kernel_rfl) (by kernel_rfl) (fun _ _ _ h => h) (Or.inl ⟨by rfl, ?_⟩) (by assumption) ?_
  rotate_left
  · intro wq hSw; go_simp; (try with_reducible rfl)
  try simp only [Act.put, List.setIfInBounds_toArray, List.set_cons_zero, List.set_cons_succ]
  refine wpAnyH_take (i := 1) (oi := ⟨some 16, _, _, _, _, _⟩) (v := ?_) rfl (by kernel_rfl) (by kernel_rfl) (by kernel_rfl) (fun _ _ _ h => h) (Or.inl ⟨by rfl, ?_⟩) (by assumption) ?_
  rotate_left
  · intro wq hSw; go_simp; (try with_reducible rfl)
  try simp only [Act.put, List.setIfInBounds_toArray, List.set_cons_zero, List.set_cons_succ]
  refine wpAnyH_take (i := 2) (oi := ⟨some 17, _, _, _, _, _⟩) (v := ?_) rfl (by kernel_rfl) (by kernel_rfl) (by kernel_rfl) (fun _ _ _ h => h) (Or.inl ⟨by rfl, ?_⟩) (by assumption) ?_
  rotate_left
  · intro wq hSw; go_simp; (try with_reducible rfl)
  try simp only [Act.put, List.setIfInBounds_toArray, List.set_cons_zero, List.set_cons_succ]
  refine wpAnyH_take (i := 3) (oi := ⟨some 18, _, _, _, _, _⟩) (v := ?_) rfl (by kernel_rfl) (by kernel_rfl) (by kernel_rfl) (fun _ _ _ h => h) (Or.inl ⟨by rfl, ?_⟩) (by assumption) ?_
  rotate_left
  · intro wq hSw; go_simp; (try with_reducible rfl)
  try simp only [Act.put, List.setIfInBounds_toArray, List.set_cons_zero, List.set_cons_succ]
  refine wpAnyH_take (i := 5) (oi := ⟨some 20, _, _, _, _, _⟩) (v := ?_) rfl (by kernel_rfl) (by kernel_rfl) (by kernel_rfl) (fun _ _ _ h => h) (Or.inl ⟨by rfl, ?_⟩) (by assumption) ?_
  rotate_left
  · intro wq hSw; obtain ⟨⟨qz0, qc0, qf0⟩, ⟨qz1, qc1, qf1⟩, _⟩ := hSw.2; go_simp; (try with_reducible rfl)
  try simp only [Act.put, List.setIfInBounds_toArray, List.set_cons_zero, List.set_cons_succ]
  refine wpAnyH_ready (rs := [4]) (by kernel_rfl) (by simp) ?_
  refine AllReadyH.cons (o := ⟨some 19, _, _, _, _, _⟩) rfl (fun K hK => ?_) AllReadyH.nil
  obtain ⟨⟨kz0, kc0, kf0⟩, ⟨kz1, kc1, kf1⟩, _⟩ := hHeld0.2
  obtain ⟨⟨t0z0, t0c0, t0f0⟩, ⟨t0z1, t0c1, t0f1⟩, _⟩ := hT0.2
  go_simp
  refine hK.out _ _ (by first | exact hHeld0 | (first | exact hHeld | (refine ⟨by go_grown, ?_⟩; simp [Cells, go_sem]; done))) (fun hHeld1 => ?_)
  clear hK K
  try clear hb
  try simp only [Act.put, List.setIfInBounds_toArray, List.set_cons_zero, List.set_cons_succ]
  refine wpAnyH_ready (rs := [6]) (by kernel_rfl) (by simp) ?_
  refine AllReadyH.cons (o := ⟨some 21, _, _, _, _, _⟩) rfl (fun K hK => ?_) AllReadyH.nil
  go_simp
  (with_reducible refine Calls.mono (AD.out _) ?_); rintro e w5 ⟨rfl, hb⟩
  refine hK.out _ _ (hHeld1.next hb) (fun hHeld2 => ?_)
  replace hT0 := hT0.next hb
  clear hK K
  try clear hb
  try simp only [Act.put, List.setIfInBounds_toArray, List.set_cons_zero, List.set_cons_succ]
  refine wpAnyH_take (i := 7) (oi := ⟨some 14, _, _, _, _, _⟩) (v := ?_) rfl (by kernel_rfl) (by kernel_rfl) (by kernel_rfl) (fun _ _ _ h => h) (Or.inl ⟨by rfl, ?_⟩) (by assumption) ?_
  rotate_left
  · intro wq hSw; go_simp; (try with_reducible rfl)
  try simp only [Act.put, List.setIfInBounds_toArray, List.set_cons_zero, List.set_cons_succ]
  refine wpAnyH_take (i := 8) (oi := ⟨some 22, _, _, _, _, _⟩) (v := ?_) rfl (by kernel_rfl) (by kernel_rfl) (by kernel_rfl) (fun _ _ _ h => h) (Or.inl ⟨by rfl, ?_⟩) (by assumption) ?_
  rotate_left
  · intro wq hSw; go_simp; (try with_reducible rfl)
  try simp only [Act.put, List.setIfInBounds_toArray, List.set_cons_zero, List.set_cons_succ]
  refine wpAnyH_take (i := 9) (oi := ⟨some 23, _, _, _, _, _⟩) (v := ?_) rfl (by kernel_rfl) (by kernel_rfl) (by kernel_rfl) (fun _ _ _ h => h) (Or.inl ⟨by rfl, ?_⟩) (by assumption) ?_
  rotate_left
  · intro wq hSw; go_simp; (try with_reducible rfl)
  try simp only [Act.put, List.setIfInBounds_toArray, List.set_cons_zero, List.set_cons_succ]
  refine wpAnyH_take (i := 10) (oi := ⟨some 24, _, _, _, _, _⟩) (v := ?_) rfl (by kernel_rfl) (by kernel_rfl) (by kernel_rfl) (fun _ _ _ h => h) (Or.inl ⟨by rfl, ?_⟩) (by assumption) ?_
  rotate_left
  · intro wq hSw; go_simp; (try with_reducible rfl)
  try simp only [Act.put, List.setIfInBounds_toArray, List.set_cons_zero, List.set_cons_succ]
  refine wpAnyH_take (i := 11) (oi := ⟨some 25, _, _, _, _, _⟩) (v := ?_) rfl (by kernel_rfl) (by kernel_rfl) (by kernel_rfl) (fun _ _ _ h => h) (Or.inl ⟨by rfl, ?_⟩) (by assumption) ?_
  rotate_left
  · intro wq hSw; go_simp; (try with_reducible rfl)
  try simp only [Act.put, List.setIfInBounds_toArray, List.set_cons_zero, List.set_cons_succ]
  refine wpAnyH_ready (rs := [12]) (by kernel_rfl) (by simp) ?_
  refine AllReadyH.cons (o := ⟨none, _, _, _, _, _⟩) rfl (fun K hK => ?_) AllReadyH.nil
  obtain ⟨⟨t0z0, t0c0, t0f0⟩, ⟨t0z1, t0c1, t0f1⟩, _⟩ := hT0.2; (try simp at t0z0); (try simp at t0c0); (try simp at t0f0); (try simp at t0z1); (try simp at t0c1); (try simp at t0f1)
  go_simp
  refine hK.out _ _ ((by first | exact (KeepsX.set2M hHeld2 (Nat.ne_of_gt hlt) HM.out _ _) | exact (KeepsX.set2M hHeld2 (Nat.ne_of_gt hlt) HM.out _ _).drew)) (fun hHeld3 => ?_)
  clear hK K
  try clear hb
  try simp only [Act.put, List.setIfInBounds_toArray, List.set_cons_zero, List.set_cons_succ]
  refine wpAnyH_done (by kernel_rfl) ?_ _
  have hHeld := hHeld3
  obtain ⟨⟨kz0, kc0, kf0⟩, ⟨kz1, kc1, kf1⟩, _⟩ := hHeld.2
  all_goals
    go_wp2_with fail
    go_returns
    refine ⟨rfl, hHeld.1, ⟨?_, ?_, ?_⟩, ⟨?_, ?_, ?_⟩, hHeld.2.2.2⟩
    · simp; omega
    · simp [go_sem, *]
    · simp [*]
    · simp; omega
    · simp [go_sem, *]
    · simp [*]
end Go.Proofs.Ytnacdofidmgfmaa
