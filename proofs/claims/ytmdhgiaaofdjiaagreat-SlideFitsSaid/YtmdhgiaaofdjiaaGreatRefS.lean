/-
  The document's own answers: differences. Conditions: those written at each fact.
-/
import Derived.Maps.RangeWalk
import Derived.Test.YtmdhgiaaofdjiaaGreatRefQ
import Derived.Test.YtmdhgiaaofdjiaaGreatKitY
namespace Go.Proofs.YtmdhgiaaofdjiaaGreat
open Go.RowKit

set_option maxRecDepth 100000 in
set_option maxHeartbeats 2000000 in
theorem subZ_any (x y : Int) (hx : (sizeL x.natAbs).length ≤ 3998) (hy : (sizeL y.natAbs).length ≤ 3998) (v v' : Value) (w : World) (h : NumZ w v x) (h' : NumZ w v' y) : Calls Tryz.prog 111 #[v, v'] w (RetZ w (x - y)) := by
  obtain ⟨A, n, c, rfl, hn⟩ := h.parts
  obtain ⟨A', n', c', rfl, hn'⟩ := h'.parts
  have NG := Lib.hid (fun (W : World) L (hk : Keeps w L W) => (negZ_any y _ W (h'.below hk.1)).mono fun _ _ h => retZ_of h)
  have AD := Lib.hid (fun (u : Value) (W : World) L (hk : Keeps w L W) (k : NumZ W u (-y)) => addZ_any x (-y) (by omega) (by rw [Int.natAbs_neg]; omega) _ u W (h.below hk.1) k)
  rw [Int.sub_eq_add_neg]
  clear h h' hn hn' hx hy
  generalize x + -y = z at *
  generalize decide (x < 0) = p at *
  generalize decide (y < 0) = q at *
  go_enter Tryz.func111, Tryz.ntmps111
  go_wp2_with fail
  refine region_keepsB (w0 := w) (L := [(w.heap.size, 0, .bool p), (w.heap.size, 1, .slice A n c), (w.heap.size + 1, 0, .bool q), (w.heap.size + 1, 1, .slice A' n' c')]) (M := [(w.heap.size + 1 + 1, 0, .bool false), (w.heap.size + 1 + 1, 1, .slice none 0 0)]) (by kernel_rfl) (by first | exact hHeld | (refine ⟨by go_grown, ?_⟩; simp [Cells, go_sem]; done)) (by first | exact hHeld | (refine ⟨by go_grown, ?_⟩; simp [Cells, go_sem]; done)) (fun hHeld0 hT0 => ?_)
  refine wpAnyH_take (i := 0) (oi := ⟨some 5, _, _, _, _, _⟩) (v := ?_) rfl (by kernel_rfl) (by kernel_rfl) (by kernel_rfl) (fun _ _ _ h => h) (Or.inl ⟨by rfl, ?_⟩) (by assumption) ?_
  rotate_left
  · intro wq hSw; obtain ⟨⟨qz0, qc0, qf0⟩, ⟨qz1, qc1, qf1⟩, ⟨qz2, qc2, qf2⟩, ⟨qz3, qc3, qf3⟩, _⟩ := hSw.2; go_simp; (try with_reducible rfl)
  try go_frame
  refine wpAnyH_take (i := 1) (oi := ⟨some 6, _, _, _, _, _⟩) (v := ?_) rfl (by kernel_rfl) (by kernel_rfl) (by kernel_rfl) (fun _ _ _ h => h) (Or.inl ⟨by rfl, ?_⟩) (by assumption) ?_
  rotate_left
  · intro wq hSw; obtain ⟨⟨qz0, qc0, qf0⟩, ⟨qz1, qc1, qf1⟩, ⟨qz2, qc2, qf2⟩, ⟨qz3, qc3, qf3⟩, _⟩ := hSw.2; go_simp; (try with_reducible rfl)
  try go_frame
  refine wpAnyH_ready (rs := [2]) (by kernel_rfl) (by simp) ?_
  refine AllReadyH.cons (o := ⟨some 7, _, _, _, _, _⟩) rfl (fun K hK => ?_) AllReadyH.nil
  go_simp
  (first | ((with_reducible refine (NG.out _ _ (by assumption)).mono ?_); rintro e w5 ⟨b5, A5, n5, c5, rfl, hb, hz5⟩) | ((with_reducible refine (AD.out _ _ _ (by assumption) (by assumption)).mono ?_); rintro e w6 ⟨b6, A6, n6, c6, rfl, hb, hz6⟩))
  refine hK.out _ _ (hHeld0.next hb) (fun hHeld1 => ?_)
  replace hT0 := hT0.next hb
  clear hK K
  try clear hb
  try go_frame
  refine wpAnyH_ready (rs := [3]) (by kernel_rfl) (by simp) ?_
  refine AllReadyH.cons (o := ⟨some 8, _, _, _, _, _⟩) rfl (fun K hK => ?_) AllReadyH.nil
  go_simp
  (first | ((with_reducible refine (NG.out _ _ (by assumption)).mono ?_); rintro e w5 ⟨b5, A5, n5, c5, rfl, hb, hz5⟩) | ((with_reducible refine (AD.out _ _ _ (by assumption) (by assumption)).mono ?_); rintro e w6 ⟨b6, A6, n6, c6, rfl, hb, hz6⟩))
  refine hK.out _ _ (hHeld1.next hb) (fun hHeld2 => ?_)
  replace hT0 := hT0.next hb
  clear hK K
  try clear hb
  try go_frame
  refine wpAnyH_ready (rs := [4]) (by kernel_rfl) (by simp) ?_
  refine AllReadyH.cons (o := ⟨none, _, _, _, _, _⟩) rfl (fun K hK => ?_) AllReadyH.nil
  obtain ⟨⟨t0z0, t0c0, t0f0⟩, ⟨t0z1, t0c1, t0f1⟩, _⟩ := hT0.2; (try simp at t0z0); (try simp at t0c0); (try simp at t0f0); (try simp at t0z1); (try simp at t0c1); (try simp at t0f1)
  go_simp
  refine hK.out _ _ (by first | exact hHeld2.alloc _ | (repeat (first | (with_reducible exact hHeld2) | (with_reducible exact (Keeps.undrewR hHeld2)) | (refine Keeps.set ?_ (by simp <;> omega) (by simp <;> omega) _) | (with_reducible refine Keeps.drew ?_)))) (fun hHeld3 => ?_)
  clear hK K
  try clear hb
  try go_frame
  refine wpAnyH_done (by kernel_rfl) ?_ _
  have hHeld := hHeld3
  obtain ⟨⟨kz0, kc0, kf0⟩, ⟨kz1, kc1, kf1⟩, ⟨kz2, kc2, kf2⟩, ⟨kz3, kc3, kf3⟩, _⟩ := hHeld.2
  obtain ⟨d0, d1⟩ := set2 (W := w6) (B := w.heap.size + 1 + 1) (u0 := .bool b6) (u1 := .slice A6 n6 c6) t0c0 t0c1; go_wp2_with fail; refine bodyPost_ret (v := .agg #[.bool b6, .slice A6 n6 c6]) (by simp [results, Tryz.results111, go_sem, d0, d1]) rfl ?_; exact ⟨b6, A6, n6, c6, rfl, hHeld.1, hz6.set2 t0c0 t0c1 _ _⟩
end Go.Proofs.YtmdhgiaaofdjiaaGreat
