/-
  The document's own answers for layer 4: Width, and a number of two words that is small. Conditions: those written at each fact.
-/
import Derived.Test.YtmnndbafljngiaaSrB
namespace Go.Proofs.Ytmnndbafljngiaa
open Go.RowKit

theorem NumZ.alloc2 {w W : World} {L : List (Nat × Nat × Value)} {v : Value} {z : Int} {o : Obj} (h : NumZ W v z) (_ : Keeps w L (W.alloc o)) : NumZ (W.alloc o) v z := h.below (below_alloc W o)
theorem NumZ.store2 {w W : World} {L : List (Nat × Nat × Value)} {v : Value} {z : Int} {B n c : Nat} {b : Bool} {A : Option Addr} {u0 u1 : Value} (h : NumZ W v z) (_ : Keeps w L ((W.setCell ⟨B, 0, none⟩ u0).setCell ⟨B, 1, none⟩ u1))
    (h0 : W.cell? ⟨B, 0, none⟩ = some (.bool b)) (h1 : W.cell? ⟨B, 1, none⟩ = some (.slice A n c)) : NumZ ((W.setCell ⟨B, 0, none⟩ u0).setCell ⟨B, 1, none⟩ u1) v z := h.set2 h0 h1 u0 u1
theorem Keeps.mv2 {w W : World} {L M : List (Nat × Nat × Value)} {B : Nat} {u0 u1 : Value} (h : Keeps w M W) (_ : Keeps w L ((W.setCell ⟨B, 0, none⟩ u0).setCell ⟨B, 1, none⟩ u1)) (hB : w.heap.size ≤ B) (hne : ∀ q ∈ M, q.1 ≠ B) :
    Keeps w M ((W.setCell ⟨B, 0, none⟩ u0).setCell ⟨B, 1, none⟩ u1) := (h.set (p := ⟨B, 0, none⟩) hB hne u0).set (p := ⟨B, 1, none⟩) hB hne u1
theorem Keeps.alloc2 {w W : World} {L M : List (Nat × Nat × Value)} {o : Obj} (h : Keeps w M W) (_ : Keeps w L (W.alloc o)) : Keeps w M (W.alloc o) := h.alloc o
theorem Cells.undrew : ∀ {M : List (Nat × Nat × Value)} {W : World}, Cells M W.drew → Cells M W
  | [], _, _ => trivial
  | (_, _, _) :: _, _, ⟨⟨h1, h2, h3⟩, h4⟩ => ⟨⟨h1, h2, h3⟩, Cells.undrew h4⟩
theorem Keeps.alloc2e {w W : World} {L M : List (Nat × Nat × Value)} {o : Obj} (h : Keeps w M W.drew) (_ : Keeps w L (W.alloc o).drew) : Keeps w M (W.alloc o).drew :=
  (Keeps.alloc (W := W) ⟨⟨h.1.os, h.1.tape, h.1.output, h.1.size, h.1.block⟩, h.2.undrew⟩ o).drew
theorem Keeps.add2 {w W : World} {L : List (Nat × Nat × Value)} {B : Nat} {u0 u1 a0 a1 : Value} (h : Keeps w L ((W.setCell ⟨B, 0, none⟩ u0).setCell ⟨B, 1, none⟩ u1)) (z : B < W.heap.size) (c0 : W.cell? ⟨B, 0, none⟩ = some a0) (f0 : W.frozen? ⟨B, 0, none⟩ = false)
    (c1 : W.cell? ⟨B, 1, none⟩ = some a1) (f1 : W.frozen? ⟨B, 1, none⟩ = false) : Keeps w ((B, 0, u0) :: (B, 1, u1) :: L) ((W.setCell ⟨B, 0, none⟩ u0).setCell ⟨B, 1, none⟩ u1) := by
  obtain ⟨d0, d1⟩ := Go.Proofs.Ytmnndbafljngiaa.set2 (u0 := u0) (u1 := u1) c0 c1
  exact ⟨h.1, ⟨by simpa [World.setCell] using z, d0, by simp only [World.frozen?_setCell]; exact f0⟩, ⟨by simpa [World.setCell] using z, d1, by simp only [World.frozen?_setCell]; exact f1⟩, h.2⟩
set_option maxRecDepth 100000 in
set_option maxHeartbeats 2000000 in
theorem refWidth_any (lo hi : Int) (l1 : -9223372036854775808 ≤ lo) (l2 : lo ≤ 9223372036854775807) (h1 : -9223372036854775808 ≤ hi) (h2 : hi ≤ 9223372036854775807) (w : World) : Calls Try.prog 23 #[spV lo hi] w (RetZ w (hi - lo)) := by
  have ll := i64_len lo l1 l2
  have lh := i64_len hi h1 h2
  have IL := Lib.hid (fun W => intZ_any lo l1 l2 W)
  have IH := Lib.hid (fun W => intZ_any hi h1 h2 W)
  have SU := Lib.hid (fun u u' W k k' => subZ_any hi lo (by omega) (by omega) u u' W k k')
  clear l1 l2 h1 h2 ll lh
  generalize hi - lo = z at *
  go_enter Try.func23, Try.ntmps23
  go_wp2_with fail
  refine region_keepsB (w0 := w) (L := [(w.heap.size, 0, .int .i64 lo), (w.heap.size, 1, .int .i64 hi)]) (M := [(w.heap.size + 1, 0, .bool false), (w.heap.size + 1, 1, .slice none 0 0)]) (by kernel_rfl) ⟨by go_grown, by simp [Cells, go_sem]⟩ ⟨by go_grown, by simp [Cells, go_sem]⟩ (fun hHeld0 hT0 => ?_)
  refine wpAnyH_take (i := 0) (oi := ⟨some 3, _, _, _, _, _⟩) (v := ?_) rfl (by kernel_rfl) (by kernel_rfl) (by kernel_rfl) (fun _ _ _ h => h) (Or.inl ⟨by rfl, ?_⟩) (by assumption) ?_
  rotate_left
  · intro wq hSw; go_simp; (try with_reducible rfl)
  try simp only [Act.put, List.setIfInBounds_toArray, List.set_cons_zero, List.set_cons_succ]
  refine wpAnyH_take (i := 1) (oi := ⟨some 4, _, _, _, _, _⟩) (v := ?_) rfl (by kernel_rfl) (by kernel_rfl) (by kernel_rfl) (fun _ _ _ h => h) (Or.inl ⟨by rfl, ?_⟩) (by assumption) ?_
  rotate_left
  · intro wq hSw; obtain ⟨⟨qz0, qc0, qf0⟩, ⟨qz1, qc1, qf1⟩, _⟩ := hSw.2; go_simp; (try with_reducible rfl)
  try simp only [Act.put, List.setIfInBounds_toArray, List.set_cons_zero, List.set_cons_succ]
  refine wpAnyH_take (i := 3) (oi := ⟨some 6, _, _, _, _, _⟩) (v := ?_) rfl (by kernel_rfl) (by kernel_rfl) (by kernel_rfl) (fun _ _ _ h => h) (Or.inl ⟨by rfl, ?_⟩) (by assumption) ?_
  rotate_left
  · intro wq hSw; go_simp; (try with_reducible rfl)
  try simp only [Act.put, List.setIfInBounds_toArray, List.set_cons_zero, List.set_cons_succ]
  refine wpAnyH_take (i := 4) (oi := ⟨some 7, _, _, _, _, _⟩) (v := ?_) rfl (by kernel_rfl) (by kernel_rfl) (by kernel_rfl) (fun _ _ _ h => h) (Or.inl ⟨by rfl, ?_⟩) (by assumption) ?_
  rotate_left
  · intro wq hSw; obtain ⟨⟨qz0, qc0, qf0⟩, ⟨qz1, qc1, qf1⟩, _⟩ := hSw.2; go_simp; (try with_reducible rfl)
  try simp only [Act.put, List.setIfInBounds_toArray, List.set_cons_zero, List.set_cons_succ]
  refine wpAnyH_ready (rs := [2]) (by kernel_rfl) (by simp) ?_
  refine AllReadyH.cons (o := ⟨some 5, _, _, _, _, _⟩) rfl (fun K hK => ?_) AllReadyH.nil
  go_simp
  (first | ((with_reducible refine (IH.out _).mono ?_); rintro e w5 ⟨b5, A5, n5, c5, rfl, hb, hz5⟩) | ((with_reducible refine (IL.out _).mono ?_); rintro e w4 ⟨b4, A4, n4, c4, rfl, hb, hz4⟩; have hz5' := hz5.below hb) | ((with_reducible refine (SU.out _ _ _ hz5' hz4).mono ?_); rintro e w6 ⟨b6, A6, n6, c6, rfl, hb, hz6⟩))
  refine hK.out _ _ (hHeld0.next hb) (fun hHeld1 => ?_)
  replace hT0 := hT0.next hb
  clear hK K
  try clear hb
  try simp only [Act.put, List.setIfInBounds_toArray, List.set_cons_zero, List.set_cons_succ]
  refine wpAnyH_ready (rs := [5]) (by kernel_rfl) (by simp) ?_
  refine AllReadyH.cons (o := ⟨some 8, _, _, _, _, _⟩) rfl (fun K hK => ?_) AllReadyH.nil
  go_simp
  (first | ((with_reducible refine (IH.out _).mono ?_); rintro e w5 ⟨b5, A5, n5, c5, rfl, hb, hz5⟩) | ((with_reducible refine (IL.out _).mono ?_); rintro e w4 ⟨b4, A4, n4, c4, rfl, hb, hz4⟩; have hz5' := hz5.below hb) | ((with_reducible refine (SU.out _ _ _ hz5' hz4).mono ?_); rintro e w6 ⟨b6, A6, n6, c6, rfl, hb, hz6⟩))
  refine hK.out _ _ (hHeld1.next hb) (fun hHeld2 => ?_)
  replace hT0 := hT0.next hb
  clear hK K
  try clear hb
  try simp only [Act.put, List.setIfInBounds_toArray, List.set_cons_zero, List.set_cons_succ]
  refine wpAnyH_ready (rs := [6]) (by kernel_rfl) (by simp) ?_
  refine AllReadyH.cons (o := ⟨some 9, _, _, _, _, _⟩) rfl (fun K hK => ?_) AllReadyH.nil
  go_simp
  (first | ((with_reducible refine (IH.out _).mono ?_); rintro e w5 ⟨b5, A5, n5, c5, rfl, hb, hz5⟩) | ((with_reducible refine (IL.out _).mono ?_); rintro e w4 ⟨b4, A4, n4, c4, rfl, hb, hz4⟩; have hz5' := hz5.below hb) | ((with_reducible refine (SU.out _ _ _ hz5' hz4).mono ?_); rintro e w6 ⟨b6, A6, n6, c6, rfl, hb, hz6⟩))
  refine hK.out _ _ (hHeld2.next hb) (fun hHeld3 => ?_)
  replace hT0 := hT0.next hb
  clear hK K
  try clear hb
  try simp only [Act.put, List.setIfInBounds_toArray, List.set_cons_zero, List.set_cons_succ]
  refine wpAnyH_ready (rs := [7]) (by kernel_rfl) (by simp) ?_
  refine AllReadyH.cons (o := ⟨none, _, _, _, _, _⟩) rfl (fun K hK => ?_) AllReadyH.nil
  obtain ⟨⟨t0z0, t0c0, t0f0⟩, ⟨t0z1, t0c1, t0f1⟩, _⟩ := hT0.2; (try simp at t0z0); (try simp at t0c0); (try simp at t0f0); (try simp at t0z1); (try simp at t0c1); (try simp at t0f1)
  go_simp
  refine hK.out _ _ (by first | exact hHeld3.alloc _ | (repeat (first | (with_reducible exact hHeld3) | (refine Keeps.set ?_ (by simp <;> omega) (by simp <;> omega) _)))) (fun hHeld4 => ?_)
  clear hK K
  try clear hb
  try simp only [Act.put, List.setIfInBounds_toArray, List.set_cons_zero, List.set_cons_succ]
  refine wpAnyH_done (by kernel_rfl) ?_ _
  have hHeld := hHeld4
  obtain ⟨⟨kz0, kc0, kf0⟩, ⟨kz1, kc1, kf1⟩, _⟩ := hHeld.2
  all_goals
    go_wp2_with fail
    obtain ⟨d0, d1⟩ := set2 (W := w6) (B := w.heap.size + 1) (u0 := .bool b6) (u1 := .slice A6 n6 c6) t0c0 t0c1
    refine bodyPost_ret (v := .agg #[.bool b6, .slice A6 n6 c6]) (by simp [results, Try.results23, go_sem, d0, d1]) rfl ?_
    exact ⟨b6, A6, n6, c6, rfl, hHeld.1, hz6.set2 t0c0 t0c1 _ _⟩
set_option maxRecDepth 100000 in
set_option maxHeartbeats 4000000 in
theorem refOfW_any (u : Nat) (hu : u < 18446744073709551616) (w : World) : Calls Try.prog 22 #[.agg #[.int .i64 0, .int .u64 u]] w (RetZ w (u : Int)) := by
  have lu := sizeL_length 64 u hu
  have l0 : (sizeL 0).length = 0 := by rw [sizeL_zero]; rfl
  have lp := size_pow 64
  have S0 := Lib.hid (fun W => (show Calls Try.prog 50 #[.int .u64 (IntKind.u64.wrap 0)] W (RetN W 0) from by rw [show IntKind.u64.wrap 0 = ((0 : Nat) : Int) from by decide]; exact (size_any 0 (by omega) W).mono fun _ _ (h : Made W _ _ _) => retN_of h.gave))
  have SU := Lib.hid (fun W => (show Calls Try.prog 50 #[.int .u64 u] W (RetN W u) from (size_any u (by omega) W).mono fun _ _ (h : Made W _ _ _) => retN_of h.gave))
  have P64 := Lib.hid (fun W => (show Calls Try.prog 51 #[.int .i64 64] W (RetN W (2 ^ 64)) from (power_any 64 (by omega) W).mono fun _ _ (h : Made W _ _ _) => retN_of h.gave))
  have TI := Lib.hid (fun (A A' : Option Addr) (n c n' c' : Nat) (W : World) k k' => (show Calls Try.prog 49 #[.slice A n c, .slice A' n' c'] W (RetN W 0) from by have := (times_row 0 (2 ^ 64) (by omega) (.slice A n c) (.slice A' n' c') W k k').mono fun _ _ h => retN_of h; rwa [Nat.zero_mul] at this))
  have PL := Lib.hid (fun (A A' : Option Addr) (n c n' c' : Nat) (W : World) k k' => (show Calls Try.prog 48 #[.slice A n c, .slice A' n' c'] W (RetN W u) from by have := (plusN_any 0 u (by omega) (by omega) (.slice A n c) (.slice A' n' c') W k k').mono fun _ _ (h : Made W _ _ _) => retN_of h.gave; rwa [Nat.zero_add] at this))
  have MD := Lib.hid (fun (v : Value) (W : World) (k : Num W v u) => made2_any (u : Int) false u (Int.natAbs_natCast u) (by simp) v W k)
  clear lu l0 lp hu
  generalize 2 ^ 64 = pw at *
  go_enter Try.func22, Try.ntmps22
  go_wp2_with fail
  refine region_keeps (w0 := w) (L := [(w.heap.size, 0, .int .i64 0), (w.heap.size, 1, .int .u64 u), (w.heap.size + 1, 0, .bool false), (w.heap.size + 1, 1, .slice none 0 0)]) (by kernel_rfl) ⟨by go_grown, by simp [Cells, go_sem]⟩ (fun hHeld0 => ?_)
  refine wpAnyH_take (i := 0) (oi := ⟨some 4, _, _, _, _, _⟩) (v := ?_) rfl (by kernel_rfl) (by kernel_rfl) (by kernel_rfl) (fun _ _ _ h => h) (Or.inl ⟨by rfl, ?_⟩) (by assumption) ?_
  rotate_left
  · intro wq hSw; go_simp; (try with_reducible rfl)
  try simp only [Act.put, List.setIfInBounds_toArray, List.set_cons_zero, List.set_cons_succ]
  refine wpAnyH_take (i := 1) (oi := ⟨some 5, _, _, _, _, _⟩) (v := ?_) rfl (by kernel_rfl) (by kernel_rfl) (by kernel_rfl) (fun _ _ _ h => h) (Or.inl ⟨by rfl, ?_⟩) (by assumption) ?_
  rotate_left
  · intro wq hSw; obtain ⟨⟨qz0, qc0, qf0⟩, ⟨qz1, qc1, qf1⟩, ⟨qz2, qc2, qf2⟩, ⟨qz3, qc3, qf3⟩, _⟩ := hSw.2; go_simp; (try with_reducible rfl)
  try simp only [Act.put, List.setIfInBounds_toArray, List.set_cons_zero, List.set_cons_succ]
  refine wpAnyH_take (i := 2) (oi := ⟨some 6, _, _, _, _, _⟩) (v := ?_) rfl (by kernel_rfl) (by kernel_rfl) (by kernel_rfl) (fun _ _ _ h => h) (Or.inl ⟨by rfl, ?_⟩) (by assumption) ?_
  rotate_left
  · intro wq hSw; go_simp; (try with_reducible rfl)
  try simp only [Act.put, List.setIfInBounds_toArray, List.set_cons_zero, List.set_cons_succ]
  refine wpAnyH_take (i := 6) (oi := ⟨some 10, _, _, _, _, _⟩) (v := ?_) rfl (by kernel_rfl) (by kernel_rfl) (by kernel_rfl) (fun _ _ _ h => h) (Or.inl ⟨by rfl, ?_⟩) (by assumption) ?_
  rotate_left
  · intro wq hSw; go_simp; (try with_reducible rfl)
  try simp only [Act.put, List.setIfInBounds_toArray, List.set_cons_zero, List.set_cons_succ]
  refine wpAnyH_take (i := 7) (oi := ⟨some 11, _, _, _, _, _⟩) (v := ?_) rfl (by kernel_rfl) (by kernel_rfl) (by kernel_rfl) (fun _ _ _ h => h) (Or.inl ⟨by rfl, ?_⟩) (by assumption) ?_
  rotate_left
  · intro wq hSw; obtain ⟨⟨qz0, qc0, qf0⟩, ⟨qz1, qc1, qf1⟩, ⟨qz2, qc2, qf2⟩, ⟨qz3, qc3, qf3⟩, _⟩ := hSw.2; go_simp; (try with_reducible rfl)
  try simp only [Act.put, List.setIfInBounds_toArray, List.set_cons_zero, List.set_cons_succ]
  refine wpAnyH_ready (rs := [3]) (by kernel_rfl) (by simp) ?_
  refine AllReadyH.cons (o := ⟨some 7, _, _, _, _, _⟩) rfl (fun K hK => ?_) AllReadyH.nil
  go_simp
  (first | ((with_reducible refine (S0.out _).mono ?_); rintro e w3 ⟨A3, n3, c3, rfl, hb, hn3⟩) | ((with_reducible refine (P64.out _).mono ?_); rintro e w4 ⟨A4, n4, c4, rfl, hb, hn4⟩; have hn3' := hn3.below hb) | ((with_reducible refine (TI.out _ _ _ _ _ _ _ hn3' hn4).mono ?_); rintro e w5 ⟨A5, n5, c5, rfl, hb, hn5⟩) | ((with_reducible refine (SU.out _).mono ?_); rintro e w6 ⟨A6, n6, c6, rfl, hb, hn6⟩; have hn5' := hn5.below hb) | ((with_reducible refine (PL.out _ _ _ _ _ _ _ hn5' hn6).mono ?_); rintro e w7 ⟨A7, n7, c7, rfl, hb, hn7⟩))
  refine hK.out _ _ (hHeld0.next hb) (fun hHeld1 => ?_)
  clear hK K
  try clear hb
  try simp only [Act.put, List.setIfInBounds_toArray, List.set_cons_zero, List.set_cons_succ]
  refine wpAnyH_ready (rs := [4]) (by kernel_rfl) (by simp) ?_
  refine AllReadyH.cons (o := ⟨some 8, _, _, _, _, _⟩) rfl (fun K hK => ?_) AllReadyH.nil
  go_simp
  (first | ((with_reducible refine (S0.out _).mono ?_); rintro e w3 ⟨A3, n3, c3, rfl, hb, hn3⟩) | ((with_reducible refine (P64.out _).mono ?_); rintro e w4 ⟨A4, n4, c4, rfl, hb, hn4⟩; have hn3' := hn3.below hb) | ((with_reducible refine (TI.out _ _ _ _ _ _ _ hn3' hn4).mono ?_); rintro e w5 ⟨A5, n5, c5, rfl, hb, hn5⟩) | ((with_reducible refine (SU.out _).mono ?_); rintro e w6 ⟨A6, n6, c6, rfl, hb, hn6⟩; have hn5' := hn5.below hb) | ((with_reducible refine (PL.out _ _ _ _ _ _ _ hn5' hn6).mono ?_); rintro e w7 ⟨A7, n7, c7, rfl, hb, hn7⟩))
  refine hK.out _ _ (hHeld1.next hb) (fun hHeld2 => ?_)
  clear hK K
  try clear hb
  try simp only [Act.put, List.setIfInBounds_toArray, List.set_cons_zero, List.set_cons_succ]
  refine wpAnyH_ready (rs := [5]) (by kernel_rfl) (by simp) ?_
  refine AllReadyH.cons (o := ⟨some 9, _, _, _, _, _⟩) rfl (fun K hK => ?_) AllReadyH.nil
  go_simp
  (first | ((with_reducible refine (S0.out _).mono ?_); rintro e w3 ⟨A3, n3, c3, rfl, hb, hn3⟩) | ((with_reducible refine (P64.out _).mono ?_); rintro e w4 ⟨A4, n4, c4, rfl, hb, hn4⟩; have hn3' := hn3.below hb) | ((with_reducible refine (TI.out _ _ _ _ _ _ _ hn3' hn4).mono ?_); rintro e w5 ⟨A5, n5, c5, rfl, hb, hn5⟩) | ((with_reducible refine (SU.out _).mono ?_); rintro e w6 ⟨A6, n6, c6, rfl, hb, hn6⟩; have hn5' := hn5.below hb) | ((with_reducible refine (PL.out _ _ _ _ _ _ _ hn5' hn6).mono ?_); rintro e w7 ⟨A7, n7, c7, rfl, hb, hn7⟩))
  refine hK.out _ _ (hHeld2.next hb) (fun hHeld3 => ?_)
  clear hK K
  try clear hb
  try simp only [Act.put, List.setIfInBounds_toArray, List.set_cons_zero, List.set_cons_succ]
  refine wpAnyH_ready (rs := [8]) (by kernel_rfl) (by simp) ?_
  refine AllReadyH.cons (o := ⟨some 12, _, _, _, _, _⟩) rfl (fun K hK => ?_) AllReadyH.nil
  go_simp
  (first | ((with_reducible refine (S0.out _).mono ?_); rintro e w3 ⟨A3, n3, c3, rfl, hb, hn3⟩) | ((with_reducible refine (P64.out _).mono ?_); rintro e w4 ⟨A4, n4, c4, rfl, hb, hn4⟩; have hn3' := hn3.below hb) | ((with_reducible refine (TI.out _ _ _ _ _ _ _ hn3' hn4).mono ?_); rintro e w5 ⟨A5, n5, c5, rfl, hb, hn5⟩) | ((with_reducible refine (SU.out _).mono ?_); rintro e w6 ⟨A6, n6, c6, rfl, hb, hn6⟩; have hn5' := hn5.below hb) | ((with_reducible refine (PL.out _ _ _ _ _ _ _ hn5' hn6).mono ?_); rintro e w7 ⟨A7, n7, c7, rfl, hb, hn7⟩))
  refine hK.out _ _ (hHeld3.next hb) (fun hHeld4 => ?_)
  clear hK K
  try clear hb
  try simp only [Act.put, List.setIfInBounds_toArray, List.set_cons_zero, List.set_cons_succ]
  refine wpAnyH_ready (rs := [9]) (by kernel_rfl) (by simp) ?_
  refine AllReadyH.cons (o := ⟨some 13, _, _, _, _, _⟩) rfl (fun K hK => ?_) AllReadyH.nil
  go_simp
  (first | ((with_reducible refine (S0.out _).mono ?_); rintro e w3 ⟨A3, n3, c3, rfl, hb, hn3⟩) | ((with_reducible refine (P64.out _).mono ?_); rintro e w4 ⟨A4, n4, c4, rfl, hb, hn4⟩; have hn3' := hn3.below hb) | ((with_reducible refine (TI.out _ _ _ _ _ _ _ hn3' hn4).mono ?_); rintro e w5 ⟨A5, n5, c5, rfl, hb, hn5⟩) | ((with_reducible refine (SU.out _).mono ?_); rintro e w6 ⟨A6, n6, c6, rfl, hb, hn6⟩; have hn5' := hn5.below hb) | ((with_reducible refine (PL.out _ _ _ _ _ _ _ hn5' hn6).mono ?_); rintro e w7 ⟨A7, n7, c7, rfl, hb, hn7⟩))
  refine hK.out _ _ (hHeld4.next hb) (fun hHeld5 => ?_)
  clear hK K
  try clear hb
  try simp only [Act.put, List.setIfInBounds_toArray, List.set_cons_zero, List.set_cons_succ]
  refine wpAnyH_take (i := 10) (oi := ⟨some 3, _, _, _, _, _⟩) (v := ?_) rfl (by kernel_rfl) (by kernel_rfl) (by kernel_rfl) (fun _ _ _ h => h) (Or.inl ⟨by rfl, ?_⟩) (by assumption) ?_
  rotate_left
  · intro wq hSw; go_simp; (try with_reducible rfl)
  try simp only [Act.put, List.setIfInBounds_toArray, List.set_cons_zero, List.set_cons_succ]
  refine wpAnyH_done (by kernel_rfl) ?_ _
  have hHeld := hHeld5
  obtain ⟨⟨kz0, kc0, kf0⟩, ⟨kz1, kc1, kf1⟩, ⟨kz2, kc2, kf2⟩, ⟨kz3, kc3, kf3⟩, _⟩ := hHeld.2
  all_goals
    go_wp2_with fail
    refine (MD.out _ _ hn7).mono ?_
    rintro e w8 ⟨b8, A8, n8, c8, rfl, hb, hz8⟩
    replace hHeld := hHeld.next hb
    clear hb
    obtain ⟨⟨gz0, gc0, gf0⟩, ⟨gz1, gc1, gf1⟩, ⟨gz2, gc2, gf2⟩, ⟨gz3, gc3, gf3⟩, _⟩ := hHeld.2
    go_wp2_with fail
    obtain ⟨d0, d1⟩ := set2 (W := w8) (B := w.heap.size + 1) (u0 := .bool b8) (u1 := .slice A8 n8 c8) gc2 gc3
    refine bodyPost_ret (v := .agg #[.bool b8, .slice A8 n8 c8]) (by simp [results, Try.results22, go_sem, d0, d1]) rfl ?_
    exact ⟨b8, A8, n8, c8, rfl, by first | (with_reducible exact hHeld.1) | (have hB := hHeld.1; have hz := hB.size; go_grown), hz8.set2 gc2 gc3 _ _⟩
end Go.Proofs.Ytmnndbafljngiaa
