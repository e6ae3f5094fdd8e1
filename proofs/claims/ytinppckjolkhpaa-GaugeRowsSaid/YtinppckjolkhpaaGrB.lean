/-
  Layer 3: the document's own answers: a number's whole parts. Conditions: words are of 64 bits.
-/
import Derived.Test.YtinppckjolkhpaaGrA
namespace Go.Proofs.Ytinppckjolkhpaa
open Go.RowKit

set_option maxRecDepth 100000 in
set_option maxHeartbeats 4000000 in
theorem parts_up (b : Int) (e f sh : Nat) (he : 0 < e) (hg : b < 9223372036854775808) (hsh : sh = 125 + e) (he2 : e ≤ 2047)
    (E : ∀ W, Calls Try.prog 27 #[.int .u64 b] W fun en w' => en = .returned (.int .i64 e) ∧ w' = W) (F : ∀ W, Calls Try.prog 28 #[.int .u64 b] W fun en w' => en = .returned (.int .u64 f) ∧ w' = W)
    (S : ∀ W, Calls Try.prog 35 #[.int .u64 f] W (RetN W f)) (P52 : ∀ W, Calls Try.prog 30 #[.int .i64 52] W (RetZ W ((2 ^ 52 : Nat) : Int)))
    (AD : ∀ v v' W, NumZ W v ((f : Nat) : Int) → NumZ W v' ((2 ^ 52 : Nat) : Int) → Calls Try.prog 31 #[v, v'] W (RetZ W (((f : Nat) : Int) + ((2 ^ 52 : Nat) : Int))))
    (PW : ∀ W p, p = (sh : Int) → Calls Try.prog 30 #[.int .i64 p] W (RetZ W ((2 ^ sh : Nat) : Int)))
    (ML : ∀ v v' W, NumZ W v (((f : Nat) : Int) + ((2 ^ 52 : Nat) : Int)) → NumZ W v' ((2 ^ sh : Nat) : Int) → Calls Try.prog 36 #[v, v'] W (RetZ W ((((f : Nat) : Int) + ((2 ^ 52 : Nat) : Int)) * ((2 ^ sh : Nat) : Int)))) (w : World) :
    Calls Try.prog 14 #[.int .u64 b] w (RetZ w ((((f : Nat) : Int) + ((2 ^ 52 : Nat) : Int)) * ((2 ^ sh : Nat) : Int))) := by
  replace E := Lib.hid E
  replace F := Lib.hid F
  replace S := Lib.hid S
  replace P52 := Lib.hid P52
  replace AD := Lib.hid AD
  replace PW := Lib.hid PW
  replace ML := Lib.hid ML
  have hg1 : ¬ (9223372036854775808 : Int) ≤ b := by omega
  have he1 : (0 : Int) < (e : Int) := by omega
  have he3 : (e : Int) ≤ 2047 := by omega
  generalize 2 ^ sh = ps at *
  generalize 2 ^ 52 = p52 at *
  clear hg
  go_enter Try.func14, Try.ntmps14
  go_wp2_with (go_at_call 28; refine (F.out _).mono ?_; rintro en w' ⟨rfl, rfl⟩)
  refine (S.out _).mono ?_
  rintro en w1 ⟨A1, n1, c1, rfl, hb1, hn1⟩
  have hHeld : Keeps w [(w.heap.size, 0, .bool false), (w.heap.size, 1, .slice none 0 0)] w1 := Keeps.next (by refine ⟨below_alloc w _, ?_⟩; simp [Cells, go_sem]) hb1
  have zB : w.heap.size < w1.heap.size := hHeld.2.1.1
  replace hn1 := Lib.hid (numZ_nat (hn1.below (below_alloc w1 (.cells #[.bool false, .slice A1 n1 c1] 43))))
  clear hb1
  have h1 : Keeps w [(w.heap.size, 0, .bool false), (w.heap.size, 1, .slice none 0 0)] (w1.alloc (.cells #[.bool false, .slice A1 n1 c1] 43)) := hHeld.alloc _
  have hT : Keeps w [(w1.heap.size, 0, .bool false), (w1.heap.size, 1, .slice A1 n1 c1)] (w1.alloc (.cells #[.bool false, .slice A1 n1 c1] 43)) := ⟨h1.1, ⟨by simp, by simp [go_sem], by simp [go_sem]⟩, ⟨by simp, by simp [go_sem], by simp [go_sem]⟩, trivial⟩
  clear hHeld
  go_wp2_with (go_at_call 27; refine (E.out _).mono ?_; rintro en w' ⟨rfl, rfl⟩)
  refine region_keepsB (w0 := w) (L := [(w.heap.size, 0, .bool false), (w.heap.size, 1, .slice none 0 0)]) (M := [(w1.heap.size, 0, .bool false), (w1.heap.size, 1, .slice A1 n1 c1)]) (by kernel_rfl) h1 hT (fun hHeld0 hT0 => ?_)
  refine wpAnyH_ready (rs := [0, 1]) (by kernel_rfl) (by simp) ?_
  refine AllReadyH.cons (o := ⟨some 14, _, _, _, _, _⟩) rfl (fun K hK => ?_) ?_
  obtain ⟨⟨kz0, kc0, kf0⟩, ⟨kz1, kc1, kf1⟩, _⟩ := hHeld0.2
  obtain ⟨⟨t0z0, t0c0, t0f0⟩, ⟨t0z1, t0c1, t0f1⟩, _⟩ := hT0.2
  go_simp
  refine hK.out _ _ (by first | exact hHeld0 | (first | exact hHeld | (refine ⟨by go_grown, ?_⟩; simp [Cells, go_sem]; done))) (fun hHeld1 => ?_)
  clear hK K
  try clear hb
  try simp only [Act.put, List.setIfInBounds_toArray, List.set_cons_zero, List.set_cons_succ]
  refine wpAnyH_ready (rs := [1]) (by kernel_rfl) (by simp) ?_
  refine AllReadyH.cons (o := ⟨some 15, _, _, _, _, _⟩) rfl (fun K hK => ?_) AllReadyH.nil
  go_simp
  (first | ((with_reducible refine (P52.out _).mono ?_); rintro e w5 ⟨b5, A5, n5, c5, rfl, hb, hz5⟩; have hn5 := hn1.out.below (undrew hb)) | ((with_reducible refine (AD.out _ _ _ hn5 (by assumption)).mono ?_); rintro e w6 ⟨b6, A6, n6, c6, rfl, hb, hz6⟩))
  refine hK.out _ _ (hHeld1.next hb) (fun hHeld2 => ?_)
  replace hT0 := hT0.next hb
  clear hK K
  try clear hb
  try simp only [Act.put, List.setIfInBounds_toArray, List.set_cons_zero, List.set_cons_succ]
  refine wpAnyH_ready (rs := [2]) (by kernel_rfl) (by simp) ?_
  refine AllReadyH.cons (o := ⟨some 16, _, _, _, _, _⟩) rfl (fun K hK => ?_) AllReadyH.nil
  go_simp
  (first | ((with_reducible refine (P52.out _).mono ?_); rintro e w5 ⟨b5, A5, n5, c5, rfl, hb, hz5⟩; have hn5 := hn1.out.below (undrew hb)) | ((with_reducible refine (AD.out _ _ _ hn5 (by assumption)).mono ?_); rintro e w6 ⟨b6, A6, n6, c6, rfl, hb, hz6⟩))
  refine hK.out _ _ (hHeld2.next hb) (fun hHeld3 => ?_)
  replace hT0 := hT0.next hb
  clear hK K
  try clear hb
  try simp only [Act.put, List.setIfInBounds_toArray, List.set_cons_zero, List.set_cons_succ]
  refine wpAnyH_ready (rs := [3]) (by kernel_rfl) (by simp) ?_
  refine AllReadyH.cons (o := ⟨none, _, _, _, _, _⟩) rfl (fun K hK => ?_) AllReadyH.nil
  obtain ⟨⟨t0z0, t0c0, t0f0⟩, ⟨t0z1, t0c1, t0f1⟩, _⟩ := hT0.2; (try simp at t0z0); (try simp at t0c0); (try simp at t0f0); (try simp at t0z1); (try simp at t0c1); (try simp at t0f1)
  go_simp
  refine hK.out _ _ (by first | exact hHeld3.alloc _ | (repeat (first | (with_reducible exact hHeld3) | (with_reducible exact (Keeps.undrewR hHeld3)) | (refine Keeps.set ?_ (by simp <;> omega) (by simp <;> omega) _) | (with_reducible refine Keeps.drew ?_)))) (fun hHeld4 => ?_)
  clear hK K
  try clear hb
  try simp only [Act.put, List.setIfInBounds_toArray, List.set_cons_zero, List.set_cons_succ]
  refine wpAnyH_done (by kernel_rfl) ?_ _
  have hHeld := hHeld4
  obtain ⟨⟨kz0, kc0, kf0⟩, ⟨kz1, kc1, kf1⟩, _⟩ := hHeld.2
  rotate_left 1
  refine AllReadyH.cons (o := ⟨some 15, _, _, _, _, _⟩) rfl (fun K hK => ?_) ?_
  go_simp
  (first | ((with_reducible refine (P52.out _).mono ?_); rintro e w5 ⟨b5, A5, n5, c5, rfl, hb, hz5⟩; have hn5 := hn1.out.below (undrew hb)) | ((with_reducible refine (AD.out _ _ _ hn5 (by assumption)).mono ?_); rintro e w6 ⟨b6, A6, n6, c6, rfl, hb, hz6⟩))
  refine hK.out _ _ (hHeld0.next hb) (fun hHeld5 => ?_)
  replace hT0 := hT0.next hb
  clear hK K
  try clear hb
  try simp only [Act.put, List.setIfInBounds_toArray, List.set_cons_zero, List.set_cons_succ]
  refine wpAnyH_ready (rs := [0]) (by kernel_rfl) (by simp) ?_
  refine AllReadyH.cons (o := ⟨some 14, _, _, _, _, _⟩) rfl (fun K hK => ?_) AllReadyH.nil
  obtain ⟨⟨kz0, kc0, kf0⟩, ⟨kz1, kc1, kf1⟩, _⟩ := hHeld5.2
  obtain ⟨⟨t0z0, t0c0, t0f0⟩, ⟨t0z1, t0c1, t0f1⟩, _⟩ := hT0.2
  go_simp
  refine hK.out _ _ (by first | exact hHeld5 | (first | exact hHeld | (refine ⟨by go_grown, ?_⟩; simp [Cells, go_sem]; done))) (fun hHeld6 => ?_)
  clear hK K
  try clear hb
  try simp only [Act.put, List.setIfInBounds_toArray, List.set_cons_zero, List.set_cons_succ]
  refine wpAnyH_ready (rs := [2]) (by kernel_rfl) (by simp) ?_
  refine AllReadyH.cons (o := ⟨some 16, _, _, _, _, _⟩) rfl (fun K hK => ?_) AllReadyH.nil
  go_simp
  (first | ((with_reducible refine (P52.out _).mono ?_); rintro e w5 ⟨b5, A5, n5, c5, rfl, hb, hz5⟩; have hn5 := hn1.out.below (undrew hb)) | ((with_reducible refine (AD.out _ _ _ hn5 (by assumption)).mono ?_); rintro e w6 ⟨b6, A6, n6, c6, rfl, hb, hz6⟩))
  refine hK.out _ _ (hHeld6.next hb) (fun hHeld7 => ?_)
  replace hT0 := hT0.next hb
  clear hK K
  try clear hb
  try simp only [Act.put, List.setIfInBounds_toArray, List.set_cons_zero, List.set_cons_succ]
  refine wpAnyH_ready (rs := [3]) (by kernel_rfl) (by simp) ?_
  refine AllReadyH.cons (o := ⟨none, _, _, _, _, _⟩) rfl (fun K hK => ?_) AllReadyH.nil
  obtain ⟨⟨t0z0, t0c0, t0f0⟩, ⟨t0z1, t0c1, t0f1⟩, _⟩ := hT0.2; (try simp at t0z0); (try simp at t0c0); (try simp at t0f0); (try simp at t0z1); (try simp at t0c1); (try simp at t0f1)
  go_simp
  refine hK.out _ _ (by first | exact hHeld7.alloc _ | (repeat (first | (with_reducible exact hHeld7) | (with_reducible exact (Keeps.undrewR hHeld7)) | (refine Keeps.set ?_ (by simp <;> omega) (by simp <;> omega) _) | (with_reducible refine Keeps.drew ?_)))) (fun hHeld8 => ?_)
  clear hK K
  try clear hb
  try simp only [Act.put, List.setIfInBounds_toArray, List.set_cons_zero, List.set_cons_succ]
  refine wpAnyH_done (by kernel_rfl) ?_ _
  have hHeld := hHeld8
  obtain ⟨⟨kz0, kc0, kf0⟩, ⟨kz1, kc1, kf1⟩, _⟩ := hHeld.2
  rotate_left 1
  exact AllReadyH.nil
  all_goals
    have hK := hHeld.add2 t0z0 t0c0 t0f0 t0c1 t0f1
    have hN := Lib.hid (hz6.set2 t0c0 t0c1 (.bool b6) (.slice A6 n6 c6))
    clear hz6 hn1 h1 hT hz5
    generalize hW7 : (w6.setCell ⟨w1.heap.size, 0, none⟩ (.bool b6)).setCell ⟨w1.heap.size, 1, none⟩ (.slice A6 n6 c6) = w7 at hK hN ⊢
    clear hW7 hHeld
    (try clear hHeld0); (try clear hHeld1); (try clear hHeld2); (try clear hHeld3); (try clear hHeld4); (try clear hHeld5); (try clear hHeld6); (try clear hHeld7); (try clear hHeld8); (try clear hHeld9); (try clear hHeld10); (try clear hHeld11); (try clear hHeld12); (try clear hHeld13); (try clear hHeld14); (try clear hHeld15); (try clear hHeld16); (try clear hHeld17); (try clear hHeld18); (try clear hHeld19); (try clear hT0); (try clear kz0); (try clear kc0); (try clear kf0); (try clear kz1); (try clear kc1); (try clear kf1); (try clear t0z0); (try clear t0c0); (try clear t0f0); (try clear t0z1); (try clear t0c1); (try clear t0f1)
    obtain ⟨⟨tz0, tc0, tf0⟩, ⟨tz1, tc1, tf1⟩, ⟨rz0, rc0, rf0⟩, ⟨rz1, rc1, rf1⟩, _⟩ := hK.2
    go_wp2_with fail
    refine region_keepsB (w0 := w) (L := [(w.heap.size, 0, .bool false), (w.heap.size, 1, .slice none 0 0)]) (M := [(w1.heap.size, 0, .bool b6), (w1.heap.size, 1, .slice A6 n6 c6)]) (by kernel_rfl) ⟨hK.1, ⟨rz0, rc0, rf0⟩, ⟨rz1, rc1, rf1⟩, trivial⟩ ⟨hK.1, ⟨tz0, tc0, tf0⟩, ⟨tz1, tc1, tf1⟩, trivial⟩ (fun hHeld0 hT0 => ?_)
    refine wpAnyH_take (i := 1) (oi := ⟨some 22, _, _, _, _, _⟩) (v := ?_) rfl (by kernel_rfl) (by kernel_rfl) (by kernel_rfl) (fun _ _ _ h => h) (Or.inl ⟨by rfl, ?_⟩) (by assumption) ?_
    rotate_left
    · intro wq hSw; go_simp; (try with_reducible rfl)
    try simp only [Act.put, List.setIfInBounds_toArray, List.set_cons_zero, List.set_cons_succ]
    refine wpAnyH_ready (rs := [0, 2]) (by kernel_rfl) (by simp) ?_
    refine AllReadyH.cons (o := ⟨some 21, _, _, _, _, _⟩) rfl (fun K hK => ?_) ?_
    obtain ⟨⟨kz0, kc0, kf0⟩, ⟨kz1, kc1, kf1⟩, _⟩ := hHeld0.2
    obtain ⟨⟨t0z0, t0c0, t0f0⟩, ⟨t0z1, t0c1, t0f1⟩, _⟩ := hT0.2
    go_simp
    refine hK.out _ _ (by first | exact hHeld0 | (first | exact hHeld | (refine ⟨by go_grown, ?_⟩; simp [Cells, go_sem]; done))) (fun hHeld1 => ?_)
    clear hK K
    try clear hb
    try simp only [Act.put, List.setIfInBounds_toArray, List.set_cons_zero, List.set_cons_succ]
    refine wpAnyH_ready (rs := [2]) (by kernel_rfl) (by simp) ?_
    refine AllReadyH.cons (o := ⟨some 23, _, _, _, _, _⟩) rfl (fun K hK => ?_) AllReadyH.nil
    go_simp
    (first | ((with_reducible refine (PW.out _ _ (by omega)).mono ?_); rintro e w8 ⟨b8, A8, n8, c8, rfl, hb, hz8⟩; have hn8 := hN.out.below (undrew hb)) | ((with_reducible refine (ML.out _ _ _ hn8 (by assumption)).mono ?_); rintro e w9 ⟨b9, A9, n9, c9, rfl, hb, hz9⟩))
    refine hK.out _ _ (hHeld1.next hb) (fun hHeld2 => ?_)
    replace hT0 := hT0.next hb
    clear hK K
    try clear hb
    try simp only [Act.put, List.setIfInBounds_toArray, List.set_cons_zero, List.set_cons_succ]
    refine wpAnyH_ready (rs := [3]) (by kernel_rfl) (by simp) ?_
    refine AllReadyH.cons (o := ⟨some 24, _, _, _, _, _⟩) rfl (fun K hK => ?_) AllReadyH.nil
    go_simp
    (first | ((with_reducible refine (PW.out _ _ (by omega)).mono ?_); rintro e w8 ⟨b8, A8, n8, c8, rfl, hb, hz8⟩; have hn8 := hN.out.below (undrew hb)) | ((with_reducible refine (ML.out _ _ _ hn8 (by assumption)).mono ?_); rintro e w9 ⟨b9, A9, n9, c9, rfl, hb, hz9⟩))
    refine hK.out _ _ (hHeld2.next hb) (fun hHeld3 => ?_)
    replace hT0 := hT0.next hb
    clear hK K
    try clear hb
    try simp only [Act.put, List.setIfInBounds_toArray, List.set_cons_zero, List.set_cons_succ]
    refine wpAnyH_ready (rs := [4]) (by kernel_rfl) (by simp) ?_
    refine AllReadyH.cons (o := ⟨none, _, _, _, _, _⟩) rfl (fun K hK => ?_) AllReadyH.nil
    obtain ⟨⟨t0z0, t0c0, t0f0⟩, ⟨t0z1, t0c1, t0f1⟩, _⟩ := hT0.2; (try simp at t0z0); (try simp at t0c0); (try simp at t0f0); (try simp at t0z1); (try simp at t0c1); (try simp at t0f1)
    go_simp
    refine hK.out _ _ (by first | exact hHeld3.alloc _ | (repeat (first | (with_reducible exact hHeld3) | (with_reducible exact (Keeps.undrewR hHeld3)) | (refine Keeps.set ?_ (by simp <;> omega) (by simp <;> omega) _) | (with_reducible refine Keeps.drew ?_)))) (fun hHeld4 => ?_)
    clear hK K
    try clear hb
    try simp only [Act.put, List.setIfInBounds_toArray, List.set_cons_zero, List.set_cons_succ]
    refine wpAnyH_done (by kernel_rfl) ?_ _
    have hHeld := hHeld4
    obtain ⟨⟨kz0, kc0, kf0⟩, ⟨kz1, kc1, kf1⟩, _⟩ := hHeld.2
    rotate_left 1
    refine AllReadyH.cons (o := ⟨some 23, _, _, _, _, _⟩) rfl (fun K hK => ?_) ?_
    go_simp
    (first | ((with_reducible refine (PW.out _ _ (by omega)).mono ?_); rintro e w8 ⟨b8, A8, n8, c8, rfl, hb, hz8⟩; have hn8 := hN.out.below (undrew hb)) | ((with_reducible refine (ML.out _ _ _ hn8 (by assumption)).mono ?_); rintro e w9 ⟨b9, A9, n9, c9, rfl, hb, hz9⟩))
    refine hK.out _ _ (hHeld0.next hb) (fun hHeld5 => ?_)
    replace hT0 := hT0.next hb
    clear hK K
    try clear hb
    try simp only [Act.put, List.setIfInBounds_toArray, List.set_cons_zero, List.set_cons_succ]
    refine wpAnyH_ready (rs := [0]) (by kernel_rfl) (by simp) ?_
    refine AllReadyH.cons (o := ⟨some 21, _, _, _, _, _⟩) rfl (fun K hK => ?_) AllReadyH.nil
    obtain ⟨⟨kz0, kc0, kf0⟩, ⟨kz1, kc1, kf1⟩, _⟩ := hHeld5.2
    obtain ⟨⟨t0z0, t0c0, t0f0⟩, ⟨t0z1, t0c1, t0f1⟩, _⟩ := hT0.2
    go_simp
    refine hK.out _ _ (by first | exact hHeld5 | (first | exact hHeld | (refine ⟨by go_grown, ?_⟩; simp [Cells, go_sem]; done))) (fun hHeld6 => ?_)
    clear hK K
    try clear hb
    try simp only [Act.put, List.setIfInBounds_toArray, List.set_cons_zero, List.set_cons_succ]
    refine wpAnyH_ready (rs := [3]) (by kernel_rfl) (by simp) ?_
    refine AllReadyH.cons (o := ⟨some 24, _, _, _, _, _⟩) rfl (fun K hK => ?_) AllReadyH.nil
    go_simp
    (first | ((with_reducible refine (PW.out _ _ (by omega)).mono ?_); rintro e w8 ⟨b8, A8, n8, c8, rfl, hb, hz8⟩; have hn8 := hN.out.below (undrew hb)) | ((with_reducible refine (ML.out _ _ _ hn8 (by assumption)).mono ?_); rintro e w9 ⟨b9, A9, n9, c9, rfl, hb, hz9⟩))
    refine hK.out _ _ (hHeld6.next hb) (fun hHeld7 => ?_)
    replace hT0 := hT0.next hb
    clear hK K
    try clear hb
    try simp only [Act.put, List.setIfInBounds_toArray, List.set_cons_zero, List.set_cons_succ]
    refine wpAnyH_ready (rs := [4]) (by kernel_rfl) (by simp) ?_
    refine AllReadyH.cons (o := ⟨none, _, _, _, _, _⟩) rfl (fun K hK => ?_) AllReadyH.nil
    obtain ⟨⟨t0z0, t0c0, t0f0⟩, ⟨t0z1, t0c1, t0f1⟩, _⟩ := hT0.2; (try simp at t0z0); (try simp at t0c0); (try simp at t0f0); (try simp at t0z1); (try simp at t0c1); (try simp at t0f1)
    go_simp
    refine hK.out _ _ (by first | exact hHeld7.alloc _ | (repeat (first | (with_reducible exact hHeld7) | (with_reducible exact (Keeps.undrewR hHeld7)) | (refine Keeps.set ?_ (by simp <;> omega) (by simp <;> omega) _) | (with_reducible refine Keeps.drew ?_)))) (fun hHeld8 => ?_)
    clear hK K
    try clear hb
    try simp only [Act.put, List.setIfInBounds_toArray, List.set_cons_zero, List.set_cons_succ]
    refine wpAnyH_done (by kernel_rfl) ?_ _
    have hHeld := hHeld8
    obtain ⟨⟨kz0, kc0, kf0⟩, ⟨kz1, kc1, kf1⟩, _⟩ := hHeld.2
    rotate_left 1
    exact AllReadyH.nil
    all_goals
      have hK2 := hHeld.add2 t0z0 t0c0 t0f0 t0c1 t0f1
      have hN2 := Lib.hid (hz9.set2 t0c0 t0c1 (.bool b9) (.slice A9 n9 c9))
      generalize hW7 : (w9.setCell ⟨w1.heap.size, 0, none⟩ (.bool b9)).setCell ⟨w1.heap.size, 1, none⟩ (.slice A9 n9 c9) = wa at hK2 hN2 ⊢
      clear hW7 hHeld hz8 hz9
      (try clear hHeld0); (try clear hHeld1); (try clear hHeld2); (try clear hHeld3); (try clear hHeld4); (try clear hHeld5); (try clear hHeld6); (try clear hHeld7); (try clear hHeld8); (try clear hHeld9); (try clear hHeld10); (try clear hHeld11); (try clear hHeld12); (try clear hHeld13); (try clear hHeld14); (try clear hHeld15); (try clear hHeld16); (try clear hHeld17); (try clear hHeld18); (try clear hHeld19); (try clear hT0); (try clear kz0); (try clear kc0); (try clear kf0); (try clear kz1); (try clear kc1); (try clear kf1); (try clear t0z0); (try clear t0c0); (try clear t0f0); (try clear t0z1); (try clear t0c1); (try clear t0f1); (try clear tz0); (try clear tc0); (try clear tf0); (try clear tz1); (try clear tc1); (try clear tf1); (try clear rz0); (try clear rc0); (try clear rf0); (try clear rz1); (try clear rc1); (try clear rf1)
      obtain ⟨⟨tz0, tc0, tf0⟩, ⟨tz1, tc1, tf1⟩, ⟨rz0, rc0, rf0⟩, ⟨rz1, rc1, rf1⟩, _⟩ := hK2.2
      go_wp2_with fail
      obtain ⟨d0, d1⟩ := set2 (W := wa) (B := w.heap.size) (u0 := .bool b9) (u1 := .slice A9 n9 c9) rc0 rc1
      refine bodyPost_ret (v := .agg #[.bool b9, .slice A9 n9 c9]) (by simp [results, Try.results14, go_sem, d0, d1]) rfl ?_
      exact ⟨b9, A9, n9, c9, rfl, (hK2.1.setCell (p := ⟨w.heap.size, 0, none⟩) (by simp) _).setCell (p := ⟨w.heap.size, 1, none⟩) (by simp) _, hN2.out.set2 rc0 rc1 _ _⟩
set_option maxRecDepth 100000 in
set_option maxHeartbeats 4000000 in
theorem parts_un (b : Int) (e f sh : Nat) (he : 0 < e) (hg : 9223372036854775808 ≤ b) (hsh : sh = 125 + e) (he2 : e ≤ 2047)
    (E : ∀ W, Calls Try.prog 27 #[.int .u64 b] W fun en w' => en = .returned (.int .i64 e) ∧ w' = W) (F : ∀ W, Calls Try.prog 28 #[.int .u64 b] W fun en w' => en = .returned (.int .u64 f) ∧ w' = W)
    (S : ∀ W, Calls Try.prog 35 #[.int .u64 f] W (RetN W f)) (P52 : ∀ W, Calls Try.prog 30 #[.int .i64 52] W (RetZ W ((2 ^ 52 : Nat) : Int)))
    (AD : ∀ v v' W, NumZ W v ((f : Nat) : Int) → NumZ W v' ((2 ^ 52 : Nat) : Int) → Calls Try.prog 31 #[v, v'] W (RetZ W (((f : Nat) : Int) + ((2 ^ 52 : Nat) : Int))))
    (PW : ∀ W p, p = (sh : Int) → Calls Try.prog 30 #[.int .i64 p] W (RetZ W ((2 ^ sh : Nat) : Int)))
    (ML : ∀ v v' W, NumZ W v (((f : Nat) : Int) + ((2 ^ 52 : Nat) : Int)) → NumZ W v' ((2 ^ sh : Nat) : Int) → Calls Try.prog 36 #[v, v'] W (RetZ W ((((f : Nat) : Int) + ((2 ^ 52 : Nat) : Int)) * ((2 ^ sh : Nat) : Int)))) (w : World) :
    Calls Try.prog 14 #[.int .u64 b] w (RetZ w (-((((f : Nat) : Int) + ((2 ^ 52 : Nat) : Int)) * ((2 ^ sh : Nat) : Int)))) := by
  replace E := Lib.hid E
  replace F := Lib.hid F
  replace S := Lib.hid S
  replace P52 := Lib.hid P52
  replace AD := Lib.hid AD
  replace PW := Lib.hid PW
  replace ML := Lib.hid ML
  have hg1 : (9223372036854775808 : Int) ≤ b := hg
  have he1 : (0 : Int) < (e : Int) := by omega
  have he3 : (e : Int) ≤ 2047 := by omega
  generalize 2 ^ sh = ps at *
  generalize 2 ^ 52 = p52 at *
  clear hg
  go_enter Try.func14, Try.ntmps14
  go_wp2_with (go_at_call 28; refine (F.out _).mono ?_; rintro en w' ⟨rfl, rfl⟩)
  refine (S.out _).mono ?_
  rintro en w1 ⟨A1, n1, c1, rfl, hb1, hn1⟩
  have hHeld : Keeps w [(w.heap.size, 0, .bool false), (w.heap.size, 1, .slice none 0 0)] w1 := Keeps.next (by refine ⟨below_alloc w _, ?_⟩; simp [Cells, go_sem]) hb1
  have zB : w.heap.size < w1.heap.size := hHeld.2.1.1
  replace hn1 := Lib.hid (numZ_nat (hn1.below (below_alloc w1 (.cells #[.bool false, .slice A1 n1 c1] 43))))
  clear hb1
  have h1 : Keeps w [(w.heap.size, 0, .bool false), (w.heap.size, 1, .slice none 0 0)] (w1.alloc (.cells #[.bool false, .slice A1 n1 c1] 43)) := hHeld.alloc _
  have hT : Keeps w [(w1.heap.size, 0, .bool false), (w1.heap.size, 1, .slice A1 n1 c1)] (w1.alloc (.cells #[.bool false, .slice A1 n1 c1] 43)) := ⟨h1.1, ⟨by simp, by simp [go_sem], by simp [go_sem]⟩, ⟨by simp, by simp [go_sem], by simp [go_sem]⟩, trivial⟩
  clear hHeld
  go_wp2_with (go_at_call 27; refine (E.out _).mono ?_; rintro en w' ⟨rfl, rfl⟩)
  refine region_keepsB (w0 := w) (L := [(w.heap.size, 0, .bool false), (w.heap.size, 1, .slice none 0 0)]) (M := [(w1.heap.size, 0, .bool false), (w1.heap.size, 1, .slice A1 n1 c1)]) (by kernel_rfl) h1 hT (fun hHeld0 hT0 => ?_)
  refine wpAnyH_ready (rs := [0, 1]) (by kernel_rfl) (by simp) ?_
  refine AllReadyH.cons (o := ⟨some 14, _, _, _, _, _⟩) rfl (fun K hK => ?_) ?_
  obtain ⟨⟨kz0, kc0, kf0⟩, ⟨kz1, kc1, kf1⟩, _⟩ := hHeld0.2
  obtain ⟨⟨t0z0, t0c0, t0f0⟩, ⟨t0z1, t0c1, t0f1⟩, _⟩ := hT0.2
  go_simp
  refine hK.out _ _ (by first | exact hHeld0 | (first | exact hHeld | (refine ⟨by go_grown, ?_⟩; simp [Cells, go_sem]; done))) (fun hHeld1 => ?_)
  clear hK K
  try clear hb
  try simp only [Act.put, List.setIfInBounds_toArray, List.set_cons_zero, List.set_cons_succ]
  refine wpAnyH_ready (rs := [1]) (by kernel_rfl) (by simp) ?_
  refine AllReadyH.cons (o := ⟨some 15, _, _, _, _, _⟩) rfl (fun K hK => ?_) AllReadyH.nil
  go_simp
  (first | ((with_reducible refine (P52.out _).mono ?_); rintro e w5 ⟨b5, A5, n5, c5, rfl, hb, hz5⟩; have hn5 := hn1.out.below (undrew hb)) | ((with_reducible refine (AD.out _ _ _ hn5 (by assumption)).mono ?_); rintro e w6 ⟨b6, A6, n6, c6, rfl, hb, hz6⟩))
  refine hK.out _ _ (hHeld1.next hb) (fun hHeld2 => ?_)
  replace hT0 := hT0.next hb
  clear hK K
  try clear hb
  try simp only [Act.put, List.setIfInBounds_toArray, List.set_cons_zero, List.set_cons_succ]
  refine wpAnyH_ready (rs := [2]) (by kernel_rfl) (by simp) ?_
  refine AllReadyH.cons (o := ⟨some 16, _, _, _, _, _⟩) rfl (fun K hK => ?_) AllReadyH.nil
  go_simp
  (first | ((with_reducible refine (P52.out _).mono ?_); rintro e w5 ⟨b5, A5, n5, c5, rfl, hb, hz5⟩; have hn5 := hn1.out.below (undrew hb)) | ((with_reducible refine (AD.out _ _ _ hn5 (by assumption)).mono ?_); rintro e w6 ⟨b6, A6, n6, c6, rfl, hb, hz6⟩))
  refine hK.out _ _ (hHeld2.next hb) (fun hHeld3 => ?_)
  replace hT0 := hT0.next hb
  clear hK K
  try clear hb
  try simp only [Act.put, List.setIfInBounds_toArray, List.set_cons_zero, List.set_cons_succ]
  refine wpAnyH_ready (rs := [3]) (by kernel_rfl) (by simp) ?_
  refine AllReadyH.cons (o := ⟨none, _, _, _, _, _⟩) rfl (fun K hK => ?_) AllReadyH.nil
  obtain ⟨⟨t0z0, t0c0, t0f0⟩, ⟨t0z1, t0c1, t0f1⟩, _⟩ := hT0.2; (try simp at t0z0); (try simp at t0c0); (try simp at t0f0); (try simp at t0z1); (try simp at t0c1); (try simp at t0f1)
  go_simp
  refine hK.out _ _ (by first | exact hHeld3.alloc _ | (repeat (first | (with_reducible exact hHeld3) | (with_reducible exact (Keeps.undrewR hHeld3)) | (refine Keeps.set ?_ (by simp <;> omega) (by simp <;> omega) _) | (with_reducible refine Keeps.drew ?_)))) (fun hHeld4 => ?_)
  clear hK K
  try clear hb
  try simp only [Act.put, List.setIfInBounds_toArray, List.set_cons_zero, List.set_cons_succ]
  refine wpAnyH_done (by kernel_rfl) ?_ _
  have hHeld := hHeld4
  obtain ⟨⟨kz0, kc0, kf0⟩, ⟨kz1, kc1, kf1⟩, _⟩ := hHeld.2
  rotate_left 1
  refine AllReadyH.cons (o := ⟨some 15, _, _, _, _, _⟩) rfl (fun K hK => ?_) ?_
  go_simp
  (first | ((with_reducible refine (P52.out _).mono ?_); rintro e w5 ⟨b5, A5, n5, c5, rfl, hb, hz5⟩; have hn5 := hn1.out.below (undrew hb)) | ((with_reducible refine (AD.out _ _ _ hn5 (by assumption)).mono ?_); rintro e w6 ⟨b6, A6, n6, c6, rfl, hb, hz6⟩))
  refine hK.out _ _ (hHeld0.next hb) (fun hHeld5 => ?_)
  replace hT0 := hT0.next hb
  clear hK K
  try clear hb
  try simp only [Act.put, List.setIfInBounds_toArray, List.set_cons_zero, List.set_cons_succ]
  refine wpAnyH_ready (rs := [0]) (by kernel_rfl) (by simp) ?_
  refine AllReadyH.cons (o := ⟨some 14, _, _, _, _, _⟩) rfl (fun K hK => ?_) AllReadyH.nil
  obtain ⟨⟨kz0, kc0, kf0⟩, ⟨kz1, kc1, kf1⟩, _⟩ := hHeld5.2
  obtain ⟨⟨t0z0, t0c0, t0f0⟩, ⟨t0z1, t0c1, t0f1⟩, _⟩ := hT0.2
  go_simp
  refine hK.out _ _ (by first | exact hHeld5 | (first | exact hHeld | (refine ⟨by go_grown, ?_⟩; simp [Cells, go_sem]; done))) (fun hHeld6 => ?_)
  clear hK K
  try clear hb
  try simp only [Act.put, List.setIfInBounds_toArray, List.set_cons_zero, List.set_cons_succ]
  refine wpAnyH_ready (rs := [2]) (by kernel_rfl) (by simp) ?_
  refine AllReadyH.cons (o := ⟨some 16, _, _, _, _, _⟩) rfl (fun K hK => ?_) AllReadyH.nil
  go_simp
  (first | ((with_reducible refine (P52.out _).mono ?_); rintro e w5 ⟨b5, A5, n5, c5, rfl, hb, hz5⟩; have hn5 := hn1.out.below (undrew hb)) | ((with_reducible refine (AD.out _ _ _ hn5 (by assumption)).mono ?_); rintro e w6 ⟨b6, A6, n6, c6, rfl, hb, hz6⟩))
  refine hK.out _ _ (hHeld6.next hb) (fun hHeld7 => ?_)
  replace hT0 := hT0.next hb
  clear hK K
  try clear hb
  try simp only [Act.put, List.setIfInBounds_toArray, List.set_cons_zero, List.set_cons_succ]
  refine wpAnyH_ready (rs := [3]) (by kernel_rfl) (by simp) ?_
  refine AllReadyH.cons (o := ⟨none, _, _, _, _, _⟩) rfl (fun K hK => ?_) AllReadyH.nil
  obtain ⟨⟨t0z0, t0c0, t0f0⟩, ⟨t0z1, t0c1, t0f1⟩, _⟩ := hT0.2; (try simp at t0z0); (try simp at t0c0); (try simp at t0f0); (try simp at t0z1); (try simp at t0c1); (try simp at t0f1)
  go_simp
  refine hK.out _ _ (by first | exact hHeld7.alloc _ | (repeat (first | (with_reducible exact hHeld7) | (with_reducible exact (Keeps.undrewR hHeld7)) | (refine Keeps.set ?_ (by simp <;> omega) (by simp <;> omega) _) | (with_reducible refine Keeps.drew ?_)))) (fun hHeld8 => ?_)
  clear hK K
  try clear hb
  try simp only [Act.put, List.setIfInBounds_toArray, List.set_cons_zero, List.set_cons_succ]
  refine wpAnyH_done (by kernel_rfl) ?_ _
  have hHeld := hHeld8
  obtain ⟨⟨kz0, kc0, kf0⟩, ⟨kz1, kc1, kf1⟩, _⟩ := hHeld.2
  rotate_left 1
  exact AllReadyH.nil
  all_goals
    have hK := hHeld.add2 t0z0 t0c0 t0f0 t0c1 t0f1
    have hN := Lib.hid (hz6.set2 t0c0 t0c1 (.bool b6) (.slice A6 n6 c6))
    clear hz6 hn1 h1 hT hz5
    generalize hW7 : (w6.setCell ⟨w1.heap.size, 0, none⟩ (.bool b6)).setCell ⟨w1.heap.size, 1, none⟩ (.slice A6 n6 c6) = w7 at hK hN ⊢
    clear hW7 hHeld
    (try clear hHeld0); (try clear hHeld1); (try clear hHeld2); (try clear hHeld3); (try clear hHeld4); (try clear hHeld5); (try clear hHeld6); (try clear hHeld7); (try clear hHeld8); (try clear hHeld9); (try clear hHeld10); (try clear hHeld11); (try clear hHeld12); (try clear hHeld13); (try clear hHeld14); (try clear hHeld15); (try clear hHeld16); (try clear hHeld17); (try clear hHeld18); (try clear hHeld19); (try clear hT0); (try clear kz0); (try clear kc0); (try clear kf0); (try clear kz1); (try clear kc1); (try clear kf1); (try clear t0z0); (try clear t0c0); (try clear t0f0); (try clear t0z1); (try clear t0c1); (try clear t0f1)
    obtain ⟨⟨tz0, tc0, tf0⟩, ⟨tz1, tc1, tf1⟩, ⟨rz0, rc0, rf0⟩, ⟨rz1, rc1, rf1⟩, _⟩ := hK.2
    go_wp2_with fail
    refine region_keepsB (w0 := w) (L := [(w.heap.size, 0, .bool false), (w.heap.size, 1, .slice none 0 0)]) (M := [(w1.heap.size, 0, .bool b6), (w1.heap.size, 1, .slice A6 n6 c6)]) (by kernel_rfl) ⟨hK.1, ⟨rz0, rc0, rf0⟩, ⟨rz1, rc1, rf1⟩, trivial⟩ ⟨hK.1, ⟨tz0, tc0, tf0⟩, ⟨tz1, tc1, tf1⟩, trivial⟩ (fun hHeld0 hT0 => ?_)
    refine wpAnyH_take (i := 1) (oi := ⟨some 22, _, _, _, _, _⟩) (v := ?_) rfl (by kernel_rfl) (by kernel_rfl) (by kernel_rfl) (fun _ _ _ h => h) (Or.inl ⟨by rfl, ?_⟩) (by assumption) ?_
    rotate_left
    · intro wq hSw; go_simp; (try with_reducible rfl)
    try simp only [Act.put, List.setIfInBounds_toArray, List.set_cons_zero, List.set_cons_succ]
    refine wpAnyH_ready (rs := [0, 2]) (by kernel_rfl) (by simp) ?_
    refine AllReadyH.cons (o := ⟨some 21, _, _, _, _, _⟩) rfl (fun K hK => ?_) ?_
    obtain ⟨⟨kz0, kc0, kf0⟩, ⟨kz1, kc1, kf1⟩, _⟩ := hHeld0.2
    obtain ⟨⟨t0z0, t0c0, t0f0⟩, ⟨t0z1, t0c1, t0f1⟩, _⟩ := hT0.2
    go_simp
    refine hK.out _ _ (by first | exact hHeld0 | (first | exact hHeld | (refine ⟨by go_grown, ?_⟩; simp [Cells, go_sem]; done))) (fun hHeld1 => ?_)
    clear hK K
    try clear hb
    try simp only [Act.put, List.setIfInBounds_toArray, List.set_cons_zero, List.set_cons_succ]
    refine wpAnyH_ready (rs := [2]) (by kernel_rfl) (by simp) ?_
    refine AllReadyH.cons (o := ⟨some 23, _, _, _, _, _⟩) rfl (fun K hK => ?_) AllReadyH.nil
    go_simp
    (first | ((with_reducible refine (PW.out _ _ (by omega)).mono ?_); rintro e w8 ⟨b8, A8, n8, c8, rfl, hb, hz8⟩; have hn8 := hN.out.below (undrew hb)) | ((with_reducible refine (ML.out _ _ _ hn8 (by assumption)).mono ?_); rintro e w9 ⟨b9, A9, n9, c9, rfl, hb, hz9⟩))
    refine hK.out _ _ (hHeld1.next hb) (fun hHeld2 => ?_)
    replace hT0 := hT0.next hb
    clear hK K
    try clear hb
    try simp only [Act.put, List.setIfInBounds_toArray, List.set_cons_zero, List.set_cons_succ]
    refine wpAnyH_ready (rs := [3]) (by kernel_rfl) (by simp) ?_
    refine AllReadyH.cons (o := ⟨some 24, _, _, _, _, _⟩) rfl (fun K hK => ?_) AllReadyH.nil
    go_simp
    (first | ((with_reducible refine (PW.out _ _ (by omega)).mono ?_); rintro e w8 ⟨b8, A8, n8, c8, rfl, hb, hz8⟩; have hn8 := hN.out.below (undrew hb)) | ((with_reducible refine (ML.out _ _ _ hn8 (by assumption)).mono ?_); rintro e w9 ⟨b9, A9, n9, c9, rfl, hb, hz9⟩))
    refine hK.out _ _ (hHeld2.next hb) (fun hHeld3 => ?_)
    replace hT0 := hT0.next hb
    clear hK K
    try clear hb
    try simp only [Act.put, List.setIfInBounds_toArray, List.set_cons_zero, List.set_cons_succ]
    refine wpAnyH_ready (rs := [4]) (by kernel_rfl) (by simp) ?_
    refine AllReadyH.cons (o := ⟨none, _, _, _, _, _⟩) rfl (fun K hK => ?_) AllReadyH.nil
    obtain ⟨⟨t0z0, t0c0, t0f0⟩, ⟨t0z1, t0c1, t0f1⟩, _⟩ := hT0.2; (try simp at t0z0); (try simp at t0c0); (try simp at t0f0); (try simp at t0z1); (try simp at t0c1); (try simp at t0f1)
    go_simp
    refine hK.out _ _ (by first | exact hHeld3.alloc _ | (repeat (first | (with_reducible exact hHeld3) | (with_reducible exact (Keeps.undrewR hHeld3)) | (refine Keeps.set ?_ (by simp <;> omega) (by simp <;> omega) _) | (with_reducible refine Keeps.drew ?_)))) (fun hHeld4 => ?_)
    clear hK K
    try clear hb
    try simp only [Act.put, List.setIfInBounds_toArray, List.set_cons_zero, List.set_cons_succ]
    refine wpAnyH_done (by kernel_rfl) ?_ _
    have hHeld := hHeld4
    obtain ⟨⟨kz0, kc0, kf0⟩, ⟨kz1, kc1, kf1⟩, _⟩ := hHeld.2
    rotate_left 1
    refine AllReadyH.cons (o := ⟨some 23, _, _, _, _, _⟩) rfl (fun K hK => ?_) ?_
    go_simp
    (first | ((with_reducible refine (PW.out _ _ (by omega)).mono ?_); rintro e w8 ⟨b8, A8, n8, c8, rfl, hb, hz8⟩; have hn8 := hN.out.below (undrew hb)) | ((with_reducible refine (ML.out _ _ _ hn8 (by assumption)).mono ?_); rintro e w9 ⟨b9, A9, n9, c9, rfl, hb, hz9⟩))
    refine hK.out _ _ (hHeld0.next hb) (fun hHeld5 => ?_)
    replace hT0 := hT0.next hb
    clear hK K
    try clear hb
    try simp only [Act.put, List.setIfInBounds_toArray, List.set_cons_zero, List.set_cons_succ]
    refine wpAnyH_ready (rs := [0]) (by kernel_rfl) (by simp) ?_
    refine AllReadyH.cons (o := ⟨some 21, _, _, _, _, _⟩) rfl (fun K hK => ?_) AllReadyH.nil
    obtain ⟨⟨kz0, kc0, kf0⟩, ⟨kz1, kc1, kf1⟩, _⟩ := hHeld5.2
    obtain ⟨⟨t0z0, t0c0, t0f0⟩, ⟨t0z1, t0c1, t0f1⟩, _⟩ := hT0.2
    go_simp
    refine hK.out _ _ (by first | exact hHeld5 | (first | exact hHeld | (refine ⟨by go_grown, ?_⟩; simp [Cells, go_sem]; done))) (fun hHeld6 => ?_)
    clear hK K
    try clear hb
    try simp only [Act.put, List.setIfInBounds_toArray, List.set_cons_zero, List.set_cons_succ]
    refine wpAnyH_ready (rs := [3]) (by kernel_rfl) (by simp) ?_
    refine AllReadyH.cons (o := ⟨some 24, _, _, _, _, _⟩) rfl (fun K hK => ?_) AllReadyH.nil
    go_simp
    (first | ((with_reducible refine (PW.out _ _ (by omega)).mono ?_); rintro e w8 ⟨b8, A8, n8, c8, rfl, hb, hz8⟩; have hn8 := hN.out.below (undrew hb)) | ((with_reducible refine (ML.out _ _ _ hn8 (by assumption)).mono ?_); rintro e w9 ⟨b9, A9, n9, c9, rfl, hb, hz9⟩))
    refine hK.out _ _ (hHeld6.next hb) (fun hHeld7 => ?_)
    replace hT0 := hT0.next hb
    clear hK K
    try clear hb
    try simp only [Act.put, List.setIfInBounds_toArray, List.set_cons_zero, List.set_cons_succ]
    refine wpAnyH_ready (rs := [4]) (by kernel_rfl) (by simp) ?_
    refine AllReadyH.cons (o := ⟨none, _, _, _, _, _⟩) rfl (fun K hK => ?_) AllReadyH.nil
    obtain ⟨⟨t0z0, t0c0, t0f0⟩, ⟨t0z1, t0c1, t0f1⟩, _⟩ := hT0.2; (try simp at t0z0); (try simp at t0c0); (try simp at t0f0); (try simp at t0z1); (try simp at t0c1); (try simp at t0f1)
    go_simp
    refine hK.out _ _ (by first | exact hHeld7.alloc _ | (repeat (first | (with_reducible exact hHeld7) | (with_reducible exact (Keeps.undrewR hHeld7)) | (refine Keeps.set ?_ (by simp <;> omega) (by simp <;> omega) _) | (with_reducible refine Keeps.drew ?_)))) (fun hHeld8 => ?_)
    clear hK K
    try clear hb
    try simp only [Act.put, List.setIfInBounds_toArray, List.set_cons_zero, List.set_cons_succ]
    refine wpAnyH_done (by kernel_rfl) ?_ _
    have hHeld := hHeld8
    obtain ⟨⟨kz0, kc0, kf0⟩, ⟨kz1, kc1, kf1⟩, _⟩ := hHeld.2
    rotate_left 1
    exact AllReadyH.nil
    all_goals
      have hK2 := hHeld.add2 t0z0 t0c0 t0f0 t0c1 t0f1
      have hN2 := Lib.hid (hz9.set2 t0c0 t0c1 (.bool b9) (.slice A9 n9 c9))
      generalize hW7 : (w9.setCell ⟨w1.heap.size, 0, none⟩ (.bool b9)).setCell ⟨w1.heap.size, 1, none⟩ (.slice A9 n9 c9) = wa at hK2 hN2 ⊢
      clear hW7 hHeld hz8 hz9
      (try clear hHeld0); (try clear hHeld1); (try clear hHeld2); (try clear hHeld3); (try clear hHeld4); (try clear hHeld5); (try clear hHeld6); (try clear hHeld7); (try clear hHeld8); (try clear hHeld9); (try clear hHeld10); (try clear hHeld11); (try clear hHeld12); (try clear hHeld13); (try clear hHeld14); (try clear hHeld15); (try clear hHeld16); (try clear hHeld17); (try clear hHeld18); (try clear hHeld19); (try clear hT0); (try clear kz0); (try clear kc0); (try clear kf0); (try clear kz1); (try clear kc1); (try clear kf1); (try clear t0z0); (try clear t0c0); (try clear t0f0); (try clear t0z1); (try clear t0c1); (try clear t0f1); (try clear tz0); (try clear tc0); (try clear tf0); (try clear tz1); (try clear tc1); (try clear tf1); (try clear rz0); (try clear rc0); (try clear rf0); (try clear rz1); (try clear rc1); (try clear rf1)
      obtain ⟨⟨tz0, tc0, tf0⟩, ⟨tz1, tc1, tf1⟩, ⟨rz0, rc0, rf0⟩, ⟨rz1, rc1, rf1⟩, _⟩ := hK2.2
      go_wp2_with fail
      refine ((negZ_any _ _ _ hN2.out).mono fun _ _ h => retZ_of h).mono ?_
      rintro e wb ⟨b6, A6, n6, c6, rfl, hb, hz6⟩
      have hK3 := hK2.next hb
      clear hb tz0 tc0 tf0 tz1 tc1 tf1 rz0 rc0 rf0 rz1 rc1 rf1
      obtain ⟨⟨tz0, tc0, tf0⟩, ⟨tz1, tc1, tf1⟩, ⟨rz0, rc0, rf0⟩, ⟨rz1, rc1, rf1⟩, _⟩ := hK3.2
      go_wp2_with fail
      obtain ⟨d0, d1⟩ := set2 (W := wb) (B := w.heap.size) (u0 := .bool b6) (u1 := .slice A6 n6 c6) rc0 rc1
      refine bodyPost_ret (v := .agg #[.bool b6, .slice A6 n6 c6]) (by simp [results, Try.results14, go_sem, d0, d1]) rfl ?_
      exact ⟨b6, A6, n6, c6, rfl, (hK3.1.setCell (p := ⟨w.heap.size, 0, none⟩) (by simp) _).setCell (p := ⟨w.heap.size, 1, none⟩) (by simp) _, hz6.set2 rc0 rc1 _ _⟩
set_option maxRecDepth 100000 in
set_option maxHeartbeats 4000000 in
theorem parts_dp (b : Int) (e f sh : Nat) (he : e = 0) (hg : b < 9223372036854775808) (hsh : sh = 126) (he2 : e ≤ 2047)
    (E : ∀ W, Calls Try.prog 27 #[.int .u64 b] W fun en w' => en = .returned (.int .i64 e) ∧ w' = W) (F : ∀ W, Calls Try.prog 28 #[.int .u64 b] W fun en w' => en = .returned (.int .u64 f) ∧ w' = W)
    (S : ∀ W, Calls Try.prog 35 #[.int .u64 f] W (RetN W f)) (P52 : ∀ W, Calls Try.prog 30 #[.int .i64 52] W (RetZ W ((2 ^ 52 : Nat) : Int)))
    (AD : ∀ v v' W, NumZ W v ((f : Nat) : Int) → NumZ W v' ((2 ^ 52 : Nat) : Int) → Calls Try.prog 31 #[v, v'] W (RetZ W (((f : Nat) : Int) + ((2 ^ 52 : Nat) : Int))))
    (PW : ∀ W p, p = (sh : Int) → Calls Try.prog 30 #[.int .i64 p] W (RetZ W ((2 ^ sh : Nat) : Int)))
    (ML : ∀ v v' W, NumZ W v (((f : Nat) : Int)) → NumZ W v' ((2 ^ sh : Nat) : Int) → Calls Try.prog 36 #[v, v'] W (RetZ W ((((f : Nat) : Int)) * ((2 ^ sh : Nat) : Int)))) (w : World) :
    Calls Try.prog 14 #[.int .u64 b] w (RetZ w ((((f : Nat) : Int)) * ((2 ^ sh : Nat) : Int))) := by
  replace E := Lib.hid E
  replace F := Lib.hid F
  replace S := Lib.hid S
  replace P52 := Lib.hid P52
  replace AD := Lib.hid AD
  replace PW := Lib.hid PW
  replace ML := Lib.hid ML
  have hg1 : ¬ (9223372036854775808 : Int) ≤ b := by omega
  subst he
  generalize 2 ^ sh = ps at *
  generalize 2 ^ 52 = p52 at *
  clear hg
  go_enter Try.func14, Try.ntmps14
  go_wp2_with (go_at_call 28; refine (F.out _).mono ?_; rintro en w' ⟨rfl, rfl⟩)
  refine (S.out _).mono ?_
  rintro en w1 ⟨A1, n1, c1, rfl, hb1, hn1⟩
  have hHeld : Keeps w [(w.heap.size, 0, .bool false), (w.heap.size, 1, .slice none 0 0)] w1 := Keeps.next (by refine ⟨below_alloc w _, ?_⟩; simp [Cells, go_sem]) hb1
  have zB : w.heap.size < w1.heap.size := hHeld.2.1.1
  replace hn1 := Lib.hid (numZ_nat (hn1.below (below_alloc w1 (.cells #[.bool false, .slice A1 n1 c1] 43))))
  clear hb1
  have h1 : Keeps w [(w.heap.size, 0, .bool false), (w.heap.size, 1, .slice none 0 0)] (w1.alloc (.cells #[.bool false, .slice A1 n1 c1] 43)) := hHeld.alloc _
  have hT : Keeps w [(w1.heap.size, 0, .bool false), (w1.heap.size, 1, .slice A1 n1 c1)] (w1.alloc (.cells #[.bool false, .slice A1 n1 c1] 43)) := ⟨h1.1, ⟨by simp, by simp [go_sem], by simp [go_sem]⟩, ⟨by simp, by simp [go_sem], by simp [go_sem]⟩, trivial⟩
  clear hHeld
  go_wp2_with (go_at_call 27; refine (E.out _).mono ?_; rintro en w' ⟨rfl, rfl⟩)
  refine region_keepsB (w0 := w) (L := [(w.heap.size, 0, .bool false), (w.heap.size, 1, .slice none 0 0)]) (M := [(w1.heap.size, 0, .bool false), (w1.heap.size, 1, .slice A1 n1 c1)]) (by kernel_rfl) h1 hT (fun hHeld0 hT0 => ?_)
  refine wpAnyH_take (i := 1) (oi := ⟨some 22, _, _, _, _, _⟩) (v := ?_) rfl (by kernel_rfl) (by kernel_rfl) (by kernel_rfl) (fun _ _ _ h => h) (Or.inl ⟨by rfl, ?_⟩) (by assumption) ?_
  rotate_left
  · intro wq hSw; go_simp; (try with_reducible rfl)
  try simp only [Act.put, List.setIfInBounds_toArray, List.set_cons_zero, List.set_cons_succ]
  refine wpAnyH_ready (rs := [0, 2]) (by kernel_rfl) (by simp) ?_
  refine AllReadyH.cons (o := ⟨some 21, _, _, _, _, _⟩) rfl (fun K hK => ?_) ?_
  obtain ⟨⟨kz0, kc0, kf0⟩, ⟨kz1, kc1, kf1⟩, _⟩ := hHeld0.2
  obtain ⟨⟨t0z0, t0c0, t0f0⟩, ⟨t0z1, t0c1, t0f1⟩, _⟩ := hT0.2
  go_simp
  refine hK.out _ _ (by first | exact hHeld0 | (first | exact hHeld | (refine ⟨by go_grown, ?_⟩; simp [Cells, go_sem]; done))) (fun hHeld1 => ?_)
  clear hK K
  try clear hb
  try simp only [Act.put, List.setIfInBounds_toArray, List.set_cons_zero, List.set_cons_succ]
  refine wpAnyH_ready (rs := [2]) (by kernel_rfl) (by simp) ?_
  refine AllReadyH.cons (o := ⟨some 23, _, _, _, _, _⟩) rfl (fun K hK => ?_) AllReadyH.nil
  go_simp
  (first | ((with_reducible refine (PW.out _ _ (by omega)).mono ?_); rintro e w8 ⟨b8, A8, n8, c8, rfl, hb, hz8⟩; have hn8 := hn1.out.below (undrew hb)) | ((with_reducible refine (ML.out _ _ _ hn8 (by assumption)).mono ?_); rintro e w9 ⟨b9, A9, n9, c9, rfl, hb, hz9⟩))
  refine hK.out _ _ (hHeld1.next hb) (fun hHeld2 => ?_)
  replace hT0 := hT0.next hb
  clear hK K
  try clear hb
  try simp only [Act.put, List.setIfInBounds_toArray, List.set_cons_zero, List.set_cons_succ]
  refine wpAnyH_ready (rs := [3]) (by kernel_rfl) (by simp) ?_
  refine AllReadyH.cons (o := ⟨some 24, _, _, _, _, _⟩) rfl (fun K hK => ?_) AllReadyH.nil
  go_simp
  (first | ((with_reducible refine (PW.out _ _ (by omega)).mono ?_); rintro e w8 ⟨b8, A8, n8, c8, rfl, hb, hz8⟩; have hn8 := hn1.out.below (undrew hb)) | ((with_reducible refine (ML.out _ _ _ hn8 (by assumption)).mono ?_); rintro e w9 ⟨b9, A9, n9, c9, rfl, hb, hz9⟩))
  refine hK.out _ _ (hHeld2.next hb) (fun hHeld3 => ?_)
  replace hT0 := hT0.next hb
  clear hK K
  try clear hb
  try simp only [Act.put, List.setIfInBounds_toArray, List.set_cons_zero, List.set_cons_succ]
  refine wpAnyH_ready (rs := [4]) (by kernel_rfl) (by simp) ?_
  refine AllReadyH.cons (o := ⟨none, _, _, _, _, _⟩) rfl (fun K hK => ?_) AllReadyH.nil
  obtain ⟨⟨t0z0, t0c0, t0f0⟩, ⟨t0z1, t0c1, t0f1⟩, _⟩ := hT0.2; (try simp at t0z0); (try simp at t0c0); (try simp at t0f0); (try simp at t0z1); (try simp at t0c1); (try simp at t0f1)
  go_simp
  refine hK.out _ _ (by first | exact hHeld3.alloc _ | (repeat (first | (with_reducible exact hHeld3) | (with_reducible exact (Keeps.undrewR hHeld3)) | (refine Keeps.set ?_ (by simp <;> omega) (by simp <;> omega) _) | (with_reducible refine Keeps.drew ?_)))) (fun hHeld4 => ?_)
  clear hK K
  try clear hb
  try simp only [Act.put, List.setIfInBounds_toArray, List.set_cons_zero, List.set_cons_succ]
  refine wpAnyH_done (by kernel_rfl) ?_ _
  have hHeld := hHeld4
  obtain ⟨⟨kz0, kc0, kf0⟩, ⟨kz1, kc1, kf1⟩, _⟩ := hHeld.2
  rotate_left 1
  refine AllReadyH.cons (o := ⟨some 23, _, _, _, _, _⟩) rfl (fun K hK => ?_) ?_
  go_simp
  (first | ((with_reducible refine (PW.out _ _ (by omega)).mono ?_); rintro e w8 ⟨b8, A8, n8, c8, rfl, hb, hz8⟩; have hn8 := hn1.out.below (undrew hb)) | ((with_reducible refine (ML.out _ _ _ hn8 (by assumption)).mono ?_); rintro e w9 ⟨b9, A9, n9, c9, rfl, hb, hz9⟩))
  refine hK.out _ _ (hHeld0.next hb) (fun hHeld5 => ?_)
  replace hT0 := hT0.next hb
  clear hK K
  try clear hb
  try simp only [Act.put, List.setIfInBounds_toArray, List.set_cons_zero, List.set_cons_succ]
  refine wpAnyH_ready (rs := [0]) (by kernel_rfl) (by simp) ?_
  refine AllReadyH.cons (o := ⟨some 21, _, _, _, _, _⟩) rfl (fun K hK => ?_) AllReadyH.nil
  obtain ⟨⟨kz0, kc0, kf0⟩, ⟨kz1, kc1, kf1⟩, _⟩ := hHeld5.2
  obtain ⟨⟨t0z0, t0c0, t0f0⟩, ⟨t0z1, t0c1, t0f1⟩, _⟩ := hT0.2
  go_simp
  refine hK.out _ _ (by first | exact hHeld5 | (first | exact hHeld | (refine ⟨by go_grown, ?_⟩; simp [Cells, go_sem]; done))) (fun hHeld6 => ?_)
  clear hK K
  try clear hb
  try simp only [Act.put, List.setIfInBounds_toArray, List.set_cons_zero, List.set_cons_succ]
  refine wpAnyH_ready (rs := [3]) (by kernel_rfl) (by simp) ?_
  refine AllReadyH.cons (o := ⟨some 24, _, _, _, _, _⟩) rfl (fun K hK => ?_) AllReadyH.nil
  go_simp
  (first | ((with_reducible refine (PW.out _ _ (by omega)).mono ?_); rintro e w8 ⟨b8, A8, n8, c8, rfl, hb, hz8⟩; have hn8 := hn1.out.below (undrew hb)) | ((with_reducible refine (ML.out _ _ _ hn8 (by assumption)).mono ?_); rintro e w9 ⟨b9, A9, n9, c9, rfl, hb, hz9⟩))
  refine hK.out _ _ (hHeld6.next hb) (fun hHeld7 => ?_)
  replace hT0 := hT0.next hb
  clear hK K
  try clear hb
  try simp only [Act.put, List.setIfInBounds_toArray, List.set_cons_zero, List.set_cons_succ]
  refine wpAnyH_ready (rs := [4]) (by kernel_rfl) (by simp) ?_
  refine AllReadyH.cons (o := ⟨none, _, _, _, _, _⟩) rfl (fun K hK => ?_) AllReadyH.nil
  obtain ⟨⟨t0z0, t0c0, t0f0⟩, ⟨t0z1, t0c1, t0f1⟩, _⟩ := hT0.2; (try simp at t0z0); (try simp at t0c0); (try simp at t0f0); (try simp at t0z1); (try simp at t0c1); (try simp at t0f1)
  go_simp
  refine hK.out _ _ (by first | exact hHeld7.alloc _ | (repeat (first | (with_reducible exact hHeld7) | (with_reducible exact (Keeps.undrewR hHeld7)) | (refine Keeps.set ?_ (by simp <;> omega) (by simp <;> omega) _) | (with_reducible refine Keeps.drew ?_)))) (fun hHeld8 => ?_)
  clear hK K
  try clear hb
  try simp only [Act.put, List.setIfInBounds_toArray, List.set_cons_zero, List.set_cons_succ]
  refine wpAnyH_done (by kernel_rfl) ?_ _
  have hHeld := hHeld8
  obtain ⟨⟨kz0, kc0, kf0⟩, ⟨kz1, kc1, kf1⟩, _⟩ := hHeld.2
  rotate_left 1
  exact AllReadyH.nil
  all_goals
    have hK2 := hHeld.add2 t0z0 t0c0 t0f0 t0c1 t0f1
    have hN2 := Lib.hid (hz9.set2 t0c0 t0c1 (.bool b9) (.slice A9 n9 c9))
    generalize hW7 : (w9.setCell ⟨w1.heap.size, 0, none⟩ (.bool b9)).setCell ⟨w1.heap.size, 1, none⟩ (.slice A9 n9 c9) = wa at hK2 hN2 ⊢
    clear hW7 hHeld hz8 hz9
    (try clear hHeld0); (try clear hHeld1); (try clear hHeld2); (try clear hHeld3); (try clear hHeld4); (try clear hHeld5); (try clear hHeld6); (try clear hHeld7); (try clear hHeld8); (try clear hHeld9); (try clear hHeld10); (try clear hHeld11); (try clear hHeld12); (try clear hHeld13); (try clear hHeld14); (try clear hHeld15); (try clear hHeld16); (try clear hHeld17); (try clear hHeld18); (try clear hHeld19); (try clear hT0); (try clear kz0); (try clear kc0); (try clear kf0); (try clear kz1); (try clear kc1); (try clear kf1); (try clear t0z0); (try clear t0c0); (try clear t0f0); (try clear t0z1); (try clear t0c1); (try clear t0f1); (try clear tz0); (try clear tc0); (try clear tf0); (try clear tz1); (try clear tc1); (try clear tf1); (try clear rz0); (try clear rc0); (try clear rf0); (try clear rz1); (try clear rc1); (try clear rf1)
    obtain ⟨⟨tz0, tc0, tf0⟩, ⟨tz1, tc1, tf1⟩, ⟨rz0, rc0, rf0⟩, ⟨rz1, rc1, rf1⟩, _⟩ := hK2.2
    go_wp2_with fail
    obtain ⟨d0, d1⟩ := set2 (W := wa) (B := w.heap.size) (u0 := .bool b9) (u1 := .slice A9 n9 c9) rc0 rc1
    refine bodyPost_ret (v := .agg #[.bool b9, .slice A9 n9 c9]) (by simp [results, Try.results14, go_sem, d0, d1]) rfl ?_
    exact ⟨b9, A9, n9, c9, rfl, (hK2.1.setCell (p := ⟨w.heap.size, 0, none⟩) (by simp) _).setCell (p := ⟨w.heap.size, 1, none⟩) (by simp) _, hN2.out.set2 rc0 rc1 _ _⟩
set_option maxRecDepth 100000 in
set_option maxHeartbeats 4000000 in
theorem parts_dn (b : Int) (e f sh : Nat) (he : e = 0) (hg : 9223372036854775808 ≤ b) (hsh : sh = 126) (he2 : e ≤ 2047)
    (E : ∀ W, Calls Try.prog 27 #[.int .u64 b] W fun en w' => en = .returned (.int .i64 e) ∧ w' = W) (F : ∀ W, Calls Try.prog 28 #[.int .u64 b] W fun en w' => en = .returned (.int .u64 f) ∧ w' = W)
    (S : ∀ W, Calls Try.prog 35 #[.int .u64 f] W (RetN W f)) (P52 : ∀ W, Calls Try.prog 30 #[.int .i64 52] W (RetZ W ((2 ^ 52 : Nat) : Int)))
    (AD : ∀ v v' W, NumZ W v ((f : Nat) : Int) → NumZ W v' ((2 ^ 52 : Nat) : Int) → Calls Try.prog 31 #[v, v'] W (RetZ W (((f : Nat) : Int) + ((2 ^ 52 : Nat) : Int))))
    (PW : ∀ W p, p = (sh : Int) → Calls Try.prog 30 #[.int .i64 p] W (RetZ W ((2 ^ sh : Nat) : Int)))
    (ML : ∀ v v' W, NumZ W v (((f : Nat) : Int)) → NumZ W v' ((2 ^ sh : Nat) : Int) → Calls Try.prog 36 #[v, v'] W (RetZ W ((((f : Nat) : Int)) * ((2 ^ sh : Nat) : Int)))) (w : World) :
    Calls Try.prog 14 #[.int .u64 b] w (RetZ w (-((((f : Nat) : Int)) * ((2 ^ sh : Nat) : Int)))) := by
  replace E := Lib.hid E
  replace F := Lib.hid F
  replace S := Lib.hid S
  replace P52 := Lib.hid P52
  replace AD := Lib.hid AD
  replace PW := Lib.hid PW
  replace ML := Lib.hid ML
  have hg1 : (9223372036854775808 : Int) ≤ b := hg
  subst he
  generalize 2 ^ sh = ps at *
  generalize 2 ^ 52 = p52 at *
  clear hg
  go_enter Try.func14, Try.ntmps14
  go_wp2_with (go_at_call 28; refine (F.out _).mono ?_; rintro en w' ⟨rfl, rfl⟩)
  refine (S.out _).mono ?_
  rintro en w1 ⟨A1, n1, c1, rfl, hb1, hn1⟩
  have hHeld : Keeps w [(w.heap.size, 0, .bool false), (w.heap.size, 1, .slice none 0 0)] w1 := Keeps.next (by refine ⟨below_alloc w _, ?_⟩; simp [Cells, go_sem]) hb1
  have zB : w.heap.size < w1.heap.size := hHeld.2.1.1
  replace hn1 := Lib.hid (numZ_nat (hn1.below (below_alloc w1 (.cells #[.bool false, .slice A1 n1 c1] 43))))
  clear hb1
  have h1 : Keeps w [(w.heap.size, 0, .bool false), (w.heap.size, 1, .slice none 0 0)] (w1.alloc (.cells #[.bool false, .slice A1 n1 c1] 43)) := hHeld.alloc _
  have hT : Keeps w [(w1.heap.size, 0, .bool false), (w1.heap.size, 1, .slice A1 n1 c1)] (w1.alloc (.cells #[.bool false, .slice A1 n1 c1] 43)) := ⟨h1.1, ⟨by simp, by simp [go_sem], by simp [go_sem]⟩, ⟨by simp, by simp [go_sem], by simp [go_sem]⟩, trivial⟩
  clear hHeld
  go_wp2_with (go_at_call 27; refine (E.out _).mono ?_; rintro en w' ⟨rfl, rfl⟩)
  refine region_keepsB (w0 := w) (L := [(w.heap.size, 0, .bool false), (w.heap.size, 1, .slice none 0 0)]) (M := [(w1.heap.size, 0, .bool false), (w1.heap.size, 1, .slice A1 n1 c1)]) (by kernel_rfl) h1 hT (fun hHeld0 hT0 => ?_)
  refine wpAnyH_take (i := 1) (oi := ⟨some 22, _, _, _, _, _⟩) (v := ?_) rfl (by kernel_rfl) (by kernel_rfl) (by kernel_rfl) (fun _ _ _ h => h) (Or.inl ⟨by rfl, ?_⟩) (by assumption) ?_
  rotate_left
  · intro wq hSw; go_simp; (try with_reducible rfl)
  try simp only [Act.put, List.setIfInBounds_toArray, List.set_cons_zero, List.set_cons_succ]
  refine wpAnyH_ready (rs := [0, 2]) (by kernel_rfl) (by simp) ?_
  refine AllReadyH.cons (o := ⟨some 21, _, _, _, _, _⟩) rfl (fun K hK => ?_) ?_
  obtain ⟨⟨kz0, kc0, kf0⟩, ⟨kz1, kc1, kf1⟩, _⟩ := hHeld0.2
  obtain ⟨⟨t0z0, t0c0, t0f0⟩, ⟨t0z1, t0c1, t0f1⟩, _⟩ := hT0.2
  go_simp
  refine hK.out _ _ (by first | exact hHeld0 | (first | exact hHeld | (refine ⟨by go_grown, ?_⟩; simp [Cells, go_sem]; done))) (fun hHeld1 => ?_)
  clear hK K
  try clear hb
  try simp only [Act.put, List.setIfInBounds_toArray, List.set_cons_zero, List.set_cons_succ]
  refine wpAnyH_ready (rs := [2]) (by kernel_rfl) (by simp) ?_
  refine AllReadyH.cons (o := ⟨some 23, _, _, _, _, _⟩) rfl (fun K hK => ?_) AllReadyH.nil
  go_simp
  (first | ((with_reducible refine (PW.out _ _ (by omega)).mono ?_); rintro e w8 ⟨b8, A8, n8, c8, rfl, hb, hz8⟩; have hn8 := hn1.out.below (undrew hb)) | ((with_reducible refine (ML.out _ _ _ hn8 (by assumption)).mono ?_); rintro e w9 ⟨b9, A9, n9, c9, rfl, hb, hz9⟩))
  refine hK.out _ _ (hHeld1.next hb) (fun hHeld2 => ?_)
  replace hT0 := hT0.next hb
  clear hK K
  try clear hb
  try simp only [Act.put, List.setIfInBounds_toArray, List.set_cons_zero, List.set_cons_succ]
  refine wpAnyH_ready (rs := [3]) (by kernel_rfl) (by simp) ?_
  refine AllReadyH.cons (o := ⟨some 24, _, _, _, _, _⟩) rfl (fun K hK => ?_) AllReadyH.nil
  go_simp
  (first | ((with_reducible refine (PW.out _ _ (by omega)).mono ?_); rintro e w8 ⟨b8, A8, n8, c8, rfl, hb, hz8⟩; have hn8 := hn1.out.below (undrew hb)) | ((with_reducible refine (ML.out _ _ _ hn8 (by assumption)).mono ?_); rintro e w9 ⟨b9, A9, n9, c9, rfl, hb, hz9⟩))
  refine hK.out _ _ (hHeld2.next hb) (fun hHeld3 => ?_)
  replace hT0 := hT0.next hb
  clear hK K
  try clear hb
  try simp only [Act.put, List.setIfInBounds_toArray, List.set_cons_zero, List.set_cons_succ]
  refine wpAnyH_ready (rs := [4]) (by kernel_rfl) (by simp) ?_
  refine AllReadyH.cons (o := ⟨none, _, _, _, _, _⟩) rfl (fun K hK => ?_) AllReadyH.nil
  obtain ⟨⟨t0z0, t0c0, t0f0⟩, ⟨t0z1, t0c1, t0f1⟩, _⟩ := hT0.2; (try simp at t0z0); (try simp at t0c0); (try simp at t0f0); (try simp at t0z1); (try simp at t0c1); (try simp at t0f1)
  go_simp
  refine hK.out _ _ (by first | exact hHeld3.alloc _ | (repeat (first | (with_reducible exact hHeld3) | (with_reducible exact (Keeps.undrewR hHeld3)) | (refine Keeps.set ?_ (by simp <;> omega) (by simp <;> omega) _) | (with_reducible refine Keeps.drew ?_)))) (fun hHeld4 => ?_)
  clear hK K
  try clear hb
  try simp only [Act.put, List.setIfInBounds_toArray, List.set_cons_zero, List.set_cons_succ]
  refine wpAnyH_done (by kernel_rfl) ?_ _
  have hHeld := hHeld4
  obtain ⟨⟨kz0, kc0, kf0⟩, ⟨kz1, kc1, kf1⟩, _⟩ := hHeld.2
  rotate_left 1
  refine AllReadyH.cons (o := ⟨some 23, _, _, _, _, _⟩) rfl (fun K hK => ?_) ?_
  go_simp
  (first | ((with_reducible refine (PW.out _ _ (by omega)).mono ?_); rintro e w8 ⟨b8, A8, n8, c8, rfl, hb, hz8⟩; have hn8 := hn1.out.below (undrew hb)) | ((with_reducible refine (ML.out _ _ _ hn8 (by assumption)).mono ?_); rintro e w9 ⟨b9, A9, n9, c9, rfl, hb, hz9⟩))
  refine hK.out _ _ (hHeld0.next hb) (fun hHeld5 => ?_)
  replace hT0 := hT0.next hb
  clear hK K
  try clear hb
  try simp only [Act.put, List.setIfInBounds_toArray, List.set_cons_zero, List.set_cons_succ]
  refine wpAnyH_ready (rs := [0]) (by kernel_rfl) (by simp) ?_
  refine AllReadyH.cons (o := ⟨some 21, _, _, _, _, _⟩) rfl (fun K hK => ?_) AllReadyH.nil
  obtain ⟨⟨kz0, kc0, kf0⟩, ⟨kz1, kc1, kf1⟩, _⟩ := hHeld5.2
  obtain ⟨⟨t0z0, t0c0, t0f0⟩, ⟨t0z1, t0c1, t0f1⟩, _⟩ := hT0.2
  go_simp
  refine hK.out _ _ (by first | exact hHeld5 | (first | exact hHeld | (refine ⟨by go_grown, ?_⟩; simp [Cells, go_sem]; done))) (fun hHeld6 => ?_)
  clear hK K
  try clear hb
  try simp only [Act.put, List.setIfInBounds_toArray, List.set_cons_zero, List.set_cons_succ]
  refine wpAnyH_ready (rs := [3]) (by kernel_rfl) (by simp) ?_
  refine AllReadyH.cons (o := ⟨some 24, _, _, _, _, _⟩) rfl (fun K hK => ?_) AllReadyH.nil
  go_simp
  (first | ((with_reducible refine (PW.out _ _ (by omega)).mono ?_); rintro e w8 ⟨b8, A8, n8, c8, rfl, hb, hz8⟩; have hn8 := hn1.out.below (undrew hb)) | ((with_reducible refine (ML.out _ _ _ hn8 (by assumption)).mono ?_); rintro e w9 ⟨b9, A9, n9, c9, rfl, hb, hz9⟩))
  refine hK.out _ _ (hHeld6.next hb) (fun hHeld7 => ?_)
  replace hT0 := hT0.next hb
  clear hK K
  try clear hb
  try simp only [Act.put, List.setIfInBounds_toArray, List.set_cons_zero, List.set_cons_succ]
  refine wpAnyH_ready (rs := [4]) (by kernel_rfl) (by simp) ?_
  refine AllReadyH.cons (o := ⟨none, _, _, _, _, _⟩) rfl (fun K hK => ?_) AllReadyH.nil
  obtain ⟨⟨t0z0, t0c0, t0f0⟩, ⟨t0z1, t0c1, t0f1⟩, _⟩ := hT0.2; (try simp at t0z0); (try simp at t0c0); (try simp at t0f0); (try simp at t0z1); (try simp at t0c1); (try simp at t0f1)
  go_simp
  refine hK.out _ _ (by first | exact hHeld7.alloc _ | (repeat (first | (with_reducible exact hHeld7) | (with_reducible exact (Keeps.undrewR hHeld7)) | (refine Keeps.set ?_ (by simp <;> omega) (by simp <;> omega) _) | (with_reducible refine Keeps.drew ?_)))) (fun hHeld8 => ?_)
  clear hK K
  try clear hb
  try simp only [Act.put, List.setIfInBounds_toArray, List.set_cons_zero, List.set_cons_succ]
  refine wpAnyH_done (by kernel_rfl) ?_ _
  have hHeld := hHeld8
  obtain ⟨⟨kz0, kc0, kf0⟩, ⟨kz1, kc1, kf1⟩, _⟩ := hHeld.2
  rotate_left 1
  exact AllReadyH.nil
  all_goals
    have hK2 := hHeld.add2 t0z0 t0c0 t0f0 t0c1 t0f1
    have hN2 := Lib.hid (hz9.set2 t0c0 t0c1 (.bool b9) (.slice A9 n9 c9))
    generalize hW7 : (w9.setCell ⟨w1.heap.size, 0, none⟩ (.bool b9)).setCell ⟨w1.heap.size, 1, none⟩ (.slice A9 n9 c9) = wa at hK2 hN2 ⊢
    clear hW7 hHeld hz8 hz9
    (try clear hHeld0); (try clear hHeld1); (try clear hHeld2); (try clear hHeld3); (try clear hHeld4); (try clear hHeld5); (try clear hHeld6); (try clear hHeld7); (try clear hHeld8); (try clear hHeld9); (try clear hHeld10); (try clear hHeld11); (try clear hHeld12); (try clear hHeld13); (try clear hHeld14); (try clear hHeld15); (try clear hHeld16); (try clear hHeld17); (try clear hHeld18); (try clear hHeld19); (try clear hT0); (try clear kz0); (try clear kc0); (try clear kf0); (try clear kz1); (try clear kc1); (try clear kf1); (try clear t0z0); (try clear t0c0); (try clear t0f0); (try clear t0z1); (try clear t0c1); (try clear t0f1); (try clear tz0); (try clear tc0); (try clear tf0); (try clear tz1); (try clear tc1); (try clear tf1); (try clear rz0); (try clear rc0); (try clear rf0); (try clear rz1); (try clear rc1); (try clear rf1)
    obtain ⟨⟨tz0, tc0, tf0⟩, ⟨tz1, tc1, tf1⟩, ⟨rz0, rc0, rf0⟩, ⟨rz1, rc1, rf1⟩, _⟩ := hK2.2
    go_wp2_with fail
    refine ((negZ_any _ _ _ hN2.out).mono fun _ _ h => retZ_of h).mono ?_
    rintro e wb ⟨b6, A6, n6, c6, rfl, hb, hz6⟩
    have hK3 := hK2.next hb
    clear hb tz0 tc0 tf0 tz1 tc1 tf1 rz0 rc0 rf0 rz1 rc1 rf1
    obtain ⟨⟨tz0, tc0, tf0⟩, ⟨tz1, tc1, tf1⟩, ⟨rz0, rc0, rf0⟩, ⟨rz1, rc1, rf1⟩, _⟩ := hK3.2
    go_wp2_with fail
    obtain ⟨d0, d1⟩ := set2 (W := wb) (B := w.heap.size) (u0 := .bool b6) (u1 := .slice A6 n6 c6) rc0 rc1
    refine bodyPost_ret (v := .agg #[.bool b6, .slice A6 n6 c6]) (by simp [results, Try.results14, go_sem, d0, d1]) rfl ?_
    exact ⟨b6, A6, n6, c6, rfl, (hK3.1.setCell (p := ⟨w.heap.size, 0, none⟩) (by simp) _).setCell (p := ⟨w.heap.size, 1, none⟩) (by simp) _, hz6.set2 rc0 rc1 _ _⟩
end Go.Proofs.Ytinppckjolkhpaa
