/-
  The document's own answers for layer 9: a slope from the hinge. Conditions: those written at each fact.
-/
import Derived.Maps.RangeWalk
import Derived.Test.YtjioljgojfcckaaGreatSwT
import Derived.Test.YtjioljgojfcckaaGreatSwQ
import Derived.Test.YtjioljgojfcckaaGreatLdA
namespace Go.Proofs.YtjioljgojfcckaaGreat.P9
open Go.RowKit Go.Shelf Go.Proofs.YtjioljgojfcckaaGreat.P8

set_option maxRecDepth 100000 in
set_option maxHeartbeats 8000000 in
theorem refTo_any (b0 : Bd) (l : List Bd) (hR : ∀ b ∈ b0 :: l, BdOk b) (i : Nat) (b : Bd) (hi : (b0 :: l)[i]? = some b) (ht : b0.t < b.t) (x : Int) (hx : backB x = true) (v : Value) (w : World) (h : ReadsD w v (b0 :: l)) :
    Calls Tryz.prog 54 #[v, .int .i64 (i : Int), .int .i64 x] w (Ret w (slV (slN b0.t (mid b0) b.t x) (slD b0.t (mid b0) b.t x))) := by
  have hb0 := hR b0 (List.mem_cons_self ..)
  have hb := hR b (List.mem_of_getElem? hi)
  obtain ⟨h1, _, _⟩ := band_ok hb
  obtain ⟨h2, h3, h4⟩ := band_ok hb0
  have hm := mid_in hb0
  have hmb : backB (mid b0) = true := by rw [backB_iff] at *; omega
  have hs := slope_raw hmb hx h2 h1 ht
  have LO := Lib.hid (fun W => refLowest_any (x - mid b0) (b.t - b0.t) hs W)
  have HG := Lib.hid (fun W (hb' : Below w.heap.size w W) => (show Calls Tryz.prog 32 #[v] W (Ret W (.int .i64 (mid b0))) from by
    obtain ⟨t, lo, hi'⟩ := b0
    exact refHinge_any t lo hi' l hb0 v W (h.below hb')))
  have e1 : IntKind.i64.wrap (x - mid b0) = x - mid b0 := by rw [IntKind.wrap_i64]; rw [backB_iff] at *; omega
  have e2 : IntKind.i64.wrap (b.t - b0.t) = b.t - b0.t := by rw [IntKind.wrap_i64]; rw [timeB_iff] at *; omega
  obtain ⟨A, c, rfl, hc, hk⟩ := h
  obtain ⟨bb, off, rfl, hbw, hp0, _⟩ := hk 0 _ rfl
  obtain ⟨_, _, e3, _, hp1, _⟩ := hk i _ hi
  cases e3
  simp only [Nat.zero_mul, Nat.add_zero] at hp0
  have HP := Lib.hid (And.intro hp0 hp1)
  have hil := (List.getElem?_eq_some_iff.1 hi).1
  have i1 : (i : Int) < ((b0 :: l).length : Int) := by omega
  have i2 : (0 : Int) ≤ (i : Int) := by omega
  have i3 : (0 : Int) < ((b0 :: l).length : Int) := by simp only [List.length_cons]; omega
  have i4 : 0 < (b0 :: l).length := by simp
  unfold slN slD
  obtain ⟨t, lo, hi2⟩ := b
  simp only at *
  generalize mid b0 = m at *
  obtain ⟨t0, lo0, hi0⟩ := b0
  simp only at *
  generalize ((⟨t0, lo0, hi0⟩ : Bd) :: l).length = len at *
  generalize lowN (x - m) (t - t0) = p at *
  generalize lowD (x - m) (t - t0) = q at *
  clear hb0 hb h1 h2 h3 h4 hm hmb hs hk hp0 hp1 hi ht hx hR hc
  go_enter Tryz.func54, Tryz.ntmps54
  go_wp2_with fail
  refine region_keepsB (w0 := w) (L := []) (M := [(w.heap.size, 0, .int .i64 0), (w.heap.size, 1, .int .i64 0)]) (by kernel_rfl) ⟨below_alloc w _, trivial⟩ (by refine ⟨below_alloc w _, ?_⟩; simp [Cells, go_sem]) (fun hHeld0 hT0 => ?_)
  refine wpAnyH_take (i := 0) (oi := ⟨some 7, _, _, _, _, _⟩) (v := ?_) rfl (by kernel_rfl) (by kernel_rfl) (by kernel_rfl) (fun _ _ _ h => h) (Or.inl ⟨by rfl, ?_⟩) (by assumption) ?_
  rotate_left
  · intro wq hSw; go_simp; (try with_reducible rfl)
  try go_frame
  refine wpAnyH_take (i := 1) (oi := ⟨some 8, _, _, _, _, _⟩) (v := ?_) rfl (by kernel_rfl) (by kernel_rfl) (by kernel_rfl) (fun _ _ _ h => h) (Or.inl ⟨by rfl, ?_⟩) (by assumption) ?_
  rotate_left
  · intro wq hSw; go_simp; (try with_reducible rfl)
  try go_frame
  refine wpAnyH_take (i := 4) (oi := ⟨some 11, _, _, _, _, _⟩) (v := ?_) rfl (by kernel_rfl) (by kernel_rfl) (by kernel_rfl) (fun _ _ _ h => h) (Or.inl ⟨by rfl, ?_⟩) (by assumption) ?_
  rotate_left
  · intro wq hSw; go_simp; (try with_reducible rfl)
  try go_frame
  refine wpAnyH_take (i := 5) (oi := ⟨some 12, _, _, _, _, _⟩) (v := ?_) rfl (by kernel_rfl) (by kernel_rfl) (by kernel_rfl) (fun _ _ _ h => h) (Or.inl ⟨by rfl, ?_⟩) (by assumption) ?_
  rotate_left
  · intro wq hSw; go_simp; (try with_reducible rfl)
  try go_frame
  refine wpAnyH_take (i := 6) (oi := ⟨some 13, _, _, _, _, _⟩) (v := ?_) rfl (by kernel_rfl) (by kernel_rfl) (by kernel_rfl) (fun _ _ _ h => h) (Or.inl ⟨by rfl, ?_⟩) (by assumption) ?_
  rotate_left
  · intro wq hSw; go_simp; (try with_reducible rfl)
  try go_frame
  refine wpAnyH_take (i := 7) (oi := ⟨some 14, _, _, _, _, _⟩) (v := ?_) rfl (by kernel_rfl) (by kernel_rfl) (by kernel_rfl) (fun _ _ _ h => h) (Or.inl ⟨by rfl, ?_⟩) (by assumption) ?_
  rotate_left
  · intro wq hSw; go_simp; (try with_reducible rfl)
  try go_frame
  refine wpAnyH_take (i := 8) (oi := ⟨some 15, _, _, _, _, _⟩) (v := ?_) rfl (by kernel_rfl) (by kernel_rfl) (by kernel_rfl) (fun _ _ _ h => h) (Or.inl ⟨by rfl, ?_⟩) (by assumption) ?_
  rotate_left
  · intro wq hSw; obtain _ := hSw.2; have hp4 := (hSw.1.cell (p := ⟨bb, off, none⟩) hbw).trans HP.out.1; have hp5 := (hSw.1.cell (p := ⟨bb, off + i * 3, none⟩) hbw).trans HP.out.2; go_simp; (try with_reducible rfl)
  try go_frame
  refine wpAnyH_take (i := 9) (oi := ⟨some 16, _, _, _, _, _⟩) (v := ?_) rfl (by kernel_rfl) (by kernel_rfl) (by kernel_rfl) (fun _ _ _ h => h) (Or.inl ⟨by rfl, ?_⟩) (by assumption) ?_
  rotate_left
  · intro wq hSw; go_simp; (try with_reducible rfl)
  try go_frame
  refine wpAnyH_take (i := 10) (oi := ⟨some 17, _, _, _, _, _⟩) (v := ?_) rfl (by kernel_rfl) (by kernel_rfl) (by kernel_rfl) (fun _ _ _ h => h) (Or.inl ⟨by rfl, ?_⟩) (by assumption) ?_
  rotate_left
  · intro wq hSw; go_simp; (try with_reducible rfl)
  try go_frame
  refine wpAnyH_take (i := 11) (oi := ⟨some 18, _, _, _, _, _⟩) (v := ?_) rfl (by kernel_rfl) (by kernel_rfl) (by kernel_rfl) (fun _ _ _ h => h) (Or.inl ⟨by rfl, ?_⟩) (by assumption) ?_
  rotate_left
  · intro wq hSw; go_simp; (try with_reducible rfl)
  try go_frame
  refine wpAnyH_take (i := 12) (oi := ⟨some 19, _, _, _, _, _⟩) (v := ?_) rfl (by kernel_rfl) (by kernel_rfl) (by kernel_rfl) (fun _ _ _ h => h) (Or.inl ⟨by rfl, ?_⟩) (by assumption) ?_
  rotate_left
  · intro wq hSw; obtain _ := hSw.2; have hp4 := (hSw.1.cell (p := ⟨bb, off, none⟩) hbw).trans HP.out.1; have hp5 := (hSw.1.cell (p := ⟨bb, off + i * 3, none⟩) hbw).trans HP.out.2; go_simp; (try with_reducible rfl)
  try go_frame
  refine wpAnyH_take (i := 13) (oi := ⟨some 20, _, _, _, _, _⟩) (v := ?_) rfl (by kernel_rfl) (by kernel_rfl) (by kernel_rfl) (fun _ _ _ h => h) (Or.inl ⟨by rfl, ?_⟩) (by assumption) ?_
  rotate_left
  · intro wq hSw; go_simp; (try with_reducible rfl)
  try go_frame
  refine wpAnyH_ready (rs := [2]) (by kernel_rfl) (by simp) ?_
  refine AllReadyH.cons (o := ⟨some 9, _, _, _, _, _⟩) rfl (fun K hK => ?_) AllReadyH.nil
  go_simp
  ((with_reducible refine Calls.mono (HG.out _ (bel9 (L := []) (by assumption))) ?_); rintro e w5 ⟨rfl, hb⟩)
  refine hK.out _ _ (hHeld0.next hb) (fun hHeld1 => ?_)
  replace hT0 := hT0.next hb
  clear hK K
  try clear hb
  try go_frame
  refine wpAnyH_take (i := 3) (oi := ⟨some 10, _, _, _, _, _⟩) (v := ?_) rfl (by kernel_rfl) (by kernel_rfl) (by kernel_rfl) (fun _ _ _ h => h) (Or.inl ⟨by rfl, ?_⟩) (by assumption) ?_
  rotate_left
  · intro wq hSw; go_simp; (try with_reducible rfl)
  try go_frame
  refine wpAnyH_take (i := 14) (oi := ⟨some 21, _, _, _, _, _⟩) (v := ?_) rfl (by kernel_rfl) (by kernel_rfl) (by kernel_rfl) (fun _ _ _ h => h) (Or.inl ⟨by rfl, ?_⟩) (by assumption) ?_
  rotate_left
  · intro wq hSw; go_simp; (try with_reducible rfl)
  try go_frame
  refine wpAnyH_ready (rs := [15]) (by kernel_rfl) (by simp) ?_
  refine AllReadyH.cons (o := ⟨some 22, _, _, _, _, _⟩) rfl (fun K hK => ?_) AllReadyH.nil
  go_simp
  ((try rw [e1]); (try rw [e2]); (with_reducible refine Calls.mono (LO.out _) ?_); rintro e w6 ⟨rfl, hb⟩)
  refine hK.out _ _ (hHeld1.next hb) (fun hHeld2 => ?_)
  replace hT0 := hT0.next hb
  clear hK K
  try clear hb
  try go_frame
  refine wpAnyH_ready (rs := [16]) (by kernel_rfl) (by simp) ?_
  refine AllReadyH.cons (o := ⟨none, _, _, _, _, _⟩) rfl (fun K hK => ?_) AllReadyH.nil
  obtain ⟨⟨t0z0, t0c0, t0f0⟩, ⟨t0z1, t0c1, t0f1⟩, _⟩ := hT0.2; (try simp at t0z0); (try simp at t0c0); (try simp at t0f0); (try simp at t0z1); (try simp at t0c1); (try simp at t0f1)
  go_simp
  refine hK.out _ _ (by first | exact hHeld2.alloc _ | (repeat (first | (with_reducible exact hHeld2) | (with_reducible exact (Keeps.undrewR hHeld2)) | (refine Keeps.set ?_ (by simp <;> omega) (by simp <;> omega) _) | (with_reducible refine Keeps.drew ?_)))) (fun hHeld3 => ?_)
  clear hK K
  try clear hb
  try go_frame
  refine wpAnyH_done (by kernel_rfl) ?_ _
  have hHeld := hHeld3
  all_goals
    obtain ⟨d0, d1⟩ := set2 (W := w6) (B := w.heap.size) (u0 := .int .i64 p) (u1 := .int .i64 q) t0c0 t0c1
    go_wp2_with fail
    refine bodyPost_ret (v := slV p q) (by simp [results, Tryz.results54, go_sem, d0, d1]) rfl ?_
    exact ⟨rfl, hHeld.1⟩
end Go.Proofs.YtjioljgojfcckaaGreat.P9
