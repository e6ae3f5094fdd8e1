/-
  The document's own answers for layer 5: the line that is c over D at 0. Conditions: the numbers are of 64 bits, c is a number of two words.
-/
import Derived.Maps.RangeWalk
import Derived.Test.YtmdhgiaaofdjiaaGreatLdC
import Derived.Test.YtmdhgiaaofdjiaaGreatRefQ
namespace Go.Proofs.YtmdhgiaaofdjiaaGreat
open Go.RowKit

theorem Keeps.bel {w W : World} {L : List (Nat × Nat × Value)} (h : Keeps w L W) : Below w.heap.size w W := h.1
set_option maxRecDepth 100000 in
set_option maxHeartbeats 16000000 in
theorem refRaised_any (z n d x0 x1 x2 x3 : Int) (bb : Bool) (hz : Fits z) (hd1 : 1 ≤ d) (hd2 : d ≤ 281474976710656) (H : backB (z / d) = false ∧ x0 = 0 ∧ x1 = 0 ∧ x2 = 0 ∧ x3 = 0 ∧ bb = false ∨ backB (z / d) = true ∧ x0 = z / d ∧ x1 = z % d ∧ x2 = n ∧ x3 = d ∧ bb = true)
    (b1 : Bool) (A1 : Option Addr) (n1 c1 : Nat) (w : World) (hN : NumZ w (.agg #[.bool b1, .slice A1 n1 c1]) z) :
    Calls Tryz.prog 64 #[.agg #[.bool b1, .slice A1 n1 c1], slV n d] w (Ret w (.tuple #[lnV x0 x1 x2 x3, .bool bb])) := by
  have lz : (sizeL z.natAbs).length ≤ 130 := sizeL_length 130 _ (by unfold Fits at hz; omega)
  have id : I64 d := by unfold I64; omega
  have l3 := i64_len d id
  have ID := Lib.hid (fun W => intZ_any d id.1 id.2 W)
  have DV := Lib.hid (fun u u' W k k' => divD_any z d hd1 (by omega) (by omega) u u' W k k')
  have sq : (sizeL (z / d).natAbs).length ≤ 4000 := Nat.le_trans (size_mono (abs_div_le hd1)) (by omega)
  have m0 := Int.emod_nonneg z (show d ≠ 0 by omega)
  have m1 := Int.emod_lt_of_pos z (show 0 < d by omega)
  have VA := Lib.hid (fun v W k => valueZ_any (z / d) sq v W k)
  have VR := fun v W k => valueZ_any (z % d) (Nat.le_trans (sizeL_length 64 _ (by omega)) (by omega)) v W k
  rw [show valueV (z % d) = z % d by unfold valueV; rw [if_pos (by omega)], show valueB (z % d) = true by unfold valueB; simp; omega] at VR
  replace VR := Lib.hid VR
  obtain ⟨B0, hB0⟩ : ∃ B0, B0 = backB (z / d) := ⟨_, rfl⟩
  have cs : valueB (z / d) = false ∧ B0 = false ∨ valueB (z / d) = true ∧ valueV (z / d) = z / d := by
    rw [hB0]
    unfold valueB valueV
    by_cases g : -9223372036854775808 ≤ z / d ∧ z / d < 9223372036854775808
    · exact Or.inr ⟨by simpa using g, by rw [if_pos g]⟩
    · refine Or.inl ⟨by simpa using g, ?_⟩
      rw [← Bool.not_eq_true, backB_iff]
      omega
  have BK := fun W => refBack_any (z / d) W
  rw [← hB0] at H BK
  clear hB0 lz id l3 sq m0 m1 hz hd1 hd2
  have HN := Lib.hid hN
  clear hN
  generalize valueV (z / d) = vq at *
  generalize valueB (z / d) = vb at *
  generalize z / d = q at *
  generalize z % d = m at *
  go_enter Tryz.func64, Tryz.ntmps64
  go_upto_region 1 with (fail)
  have hHs : Keeps w [(w.heap.size, 0, .bool b1), (w.heap.size, 1, .slice A1 n1 c1), (w.heap.size + 1, 0, .int .i64 n), (w.heap.size + 1, 1, .int .i64 d), (w.heap.size + 2, 0, .int .i64 0), (w.heap.size + 2, 1, .int .i64 0), (w.heap.size + 2, 2, .int .i64 0), (w.heap.size + 2, 3, .int .i64 0)] (((w.alloc (.cells #[.bool b1, .slice A1 n1 c1] 97)).alloc (.cells #[.int .i64 n, .int .i64 d] 45)).alloc (.cells #[.int .i64 0, .int .i64 0, .int .i64 0, .int .i64 0] 23)) := ⟨((below_alloc w _).alloc (by simp) _).alloc (by simp; omega) _, by simp [Cells, go_sem]⟩
  generalize hGi : ((w.alloc (.cells #[.bool b1, .slice A1 n1 c1] 97)).alloc (.cells #[.int .i64 n, .int .i64 d] 45)).alloc (.cells #[.int .i64 0, .int .i64 0, .int .i64 0, .int .i64 0] 23) = wi at hHs ⊢
  clear hGi
  go_cut [6, 7] (fun s6 s7 wx => ∃ (g : Nat) (b : Bool) (A : Option Addr) (k c : Nat) (g' : Nat) (b' : Bool) (A' : Option Addr) (k' c' : Nat), s6 = .pointer (some ⟨g, 0, none⟩) ∧ s7 = .pointer (some ⟨g', 0, none⟩) ∧ Hid (NumZ wx (.agg #[.bool b, .slice A k c]) q) ∧ Hid (NumZ wx (.agg #[.bool b', .slice A' k' c']) m) ∧ Keeps w [(g, 0, .bool b), (g, 1, .slice A k c), (g', 0, .bool b'), (g', 1, .slice A' k' c'), (w.heap.size, 0, .bool b1), (w.heap.size, 1, .slice A1 n1 c1), (w.heap.size + 1, 0, .int .i64 n), (w.heap.size + 1, 1, .int .i64 d), (w.heap.size + 2, 0, .int .i64 0), (w.heap.size + 2, 1, .int .i64 0), (w.heap.size + 2, 2, .int .i64 0), (w.heap.size + 2, 3, .int .i64 0)] wx)
  case first =>
    refine region_keeps (w0 := w) (L := [(w.heap.size, 0, .bool b1), (w.heap.size, 1, .slice A1 n1 c1), (w.heap.size + 1, 0, .int .i64 n), (w.heap.size + 1, 1, .int .i64 d), (w.heap.size + 2, 0, .int .i64 0), (w.heap.size + 2, 1, .int .i64 0), (w.heap.size + 2, 2, .int .i64 0), (w.heap.size + 2, 3, .int .i64 0)]) (by kernel_rfl) hHs (fun hHeld0 => ?_)
    refine wpAnyH_take (i := 0) (oi := ⟨some 13, _, _, _, _, _⟩) (v := ?_) rfl (by kernel_rfl) (by kernel_rfl) (by kernel_rfl) (fun _ _ _ h => h) (Or.inl ⟨by rfl, ?_⟩) (by assumption) ?_
    rotate_left
    · intro wq hSw; obtain ⟨⟨qz0, qc0, qf0⟩, ⟨qz1, qc1, qf1⟩, ⟨qz2, qc2, qf2⟩, ⟨qz3, qc3, qf3⟩, ⟨qz4, qc4, qf4⟩, ⟨qz5, qc5, qf5⟩, ⟨qz6, qc6, qf6⟩, ⟨qz7, qc7, qf7⟩, _⟩ := hSw.2; go_simp; (try with_reducible rfl)
    try go_frame
    refine wpAnyH_take (i := 1) (oi := ⟨some 14, _, _, _, _, _⟩) (v := ?_) rfl (by kernel_rfl) (by kernel_rfl) (by kernel_rfl) (fun _ _ _ h => h) (Or.inl ⟨by rfl, ?_⟩) (by assumption) ?_
    rotate_left
    · intro wq hSw; go_simp; (try with_reducible rfl)
    try go_frame
    refine wpAnyH_take (i := 2) (oi := ⟨some 15, _, _, _, _, _⟩) (v := ?_) rfl (by kernel_rfl) (by kernel_rfl) (by kernel_rfl) (fun _ _ _ h => h) (Or.inl ⟨by rfl, ?_⟩) (by assumption) ?_
    rotate_left
    · intro wq hSw; obtain ⟨⟨qz0, qc0, qf0⟩, ⟨qz1, qc1, qf1⟩, ⟨qz2, qc2, qf2⟩, ⟨qz3, qc3, qf3⟩, ⟨qz4, qc4, qf4⟩, ⟨qz5, qc5, qf5⟩, ⟨qz6, qc6, qf6⟩, ⟨qz7, qc7, qf7⟩, _⟩ := hSw.2; go_simp; (try with_reducible rfl)
    try go_frame
    refine wpAnyH_ready (rs := [3, 8, 9]) (by kernel_rfl) (by simp) ?_
    refine AllReadyH.cons (o := ⟨some 16, _, _, _, _, _⟩) rfl (fun K hK => ?_) ?_
    go_simp
    (first | ((with_reducible refine (ID.out _).mono ?_); rintro e wd ⟨bd, Ad, nd, cd, rfl, hb, zd⟩) | ((with_reducible refine (DV.out _ _ _ (HN.out.below (by first | exact hHeld0.bel | exact hHeld1.bel | exact hHeld2.bel | exact hHeld3.bel | exact hHeld4.bel | exact hHeld5.bel | exact hHeld6.bel | exact hHeld7.bel | exact hHeld8.bel | exact hHeld9.bel | exact hHeld10.bel | exact hHeld11.bel | exact hHeld12.bel | exact hHeld13.bel | exact hHeld14.bel | exact hHeld15.bel | exact hHeld16.bel | exact hHeld17.bel | exact hHeld18.bel | exact hHeld19.bel | exact hHeld20.bel | exact hHeld21.bel | exact hHeld22.bel | exact hHeld23.bel | exact hHeld24.bel | exact hHeld25.bel | exact hHeld26.bel | exact hHeld27.bel | exact hHeld28.bel | exact hHeld29.bel | exact hHeld30.bel | exact hHeld31.bel | exact hHeld32.bel | exact hHeld33.bel | exact hHeld34.bel | exact hHeld35.bel | exact hHeld36.bel | exact hHeld37.bel | exact hHeld38.bel | exact hHeld39.bel | exact hHeld40.bel | exact hHeld41.bel | exact hHeld42.bel | exact hHeld43.bel | exact hHeld44.bel | exact hHeld45.bel | exact hHeld46.bel | exact hHeld47.bel | exact hHeld48.bel | exact hHeld49.bel | exact hHeld50.bel | exact hHeld51.bel | exact hHeld52.bel | exact hHeld53.bel | exact hHeld54.bel | exact hHeld55.bel | exact hHeld56.bel | exact hHeld57.bel | exact hHeld58.bel | exact hHeld59.bel)) zd).mono ?_); rintro e wq ⟨bq, Aq, nq, cq, br, Ar, nr, cr, rfl, hb, zq, zr⟩))
    refine hK.out _ _ (hHeld0.next hb) (fun hHeld1 => ?_)
    clear hK K
    try clear hb
    try go_frame
    refine wpAnyH_ready (rs := [4, 8, 9]) (by kernel_rfl) (by simp) ?_
    refine AllReadyH.cons (o := ⟨some 17, _, _, _, _, _⟩) rfl (fun K hK => ?_) ?_
    go_simp
    (first | ((with_reducible refine (ID.out _).mono ?_); rintro e wd ⟨bd, Ad, nd, cd, rfl, hb, zd⟩) | ((with_reducible refine (DV.out _ _ _ (HN.out.below (by first | exact hHeld0.bel | exact hHeld1.bel | exact hHeld2.bel | exact hHeld3.bel | exact hHeld4.bel | exact hHeld5.bel | exact hHeld6.bel | exact hHeld7.bel | exact hHeld8.bel | exact hHeld9.bel | exact hHeld10.bel | exact hHeld11.bel | exact hHeld12.bel | exact hHeld13.bel | exact hHeld14.bel | exact hHeld15.bel | exact hHeld16.bel | exact hHeld17.bel | exact hHeld18.bel | exact hHeld19.bel | exact hHeld20.bel | exact hHeld21.bel | exact hHeld22.bel | exact hHeld23.bel | exact hHeld24.bel | exact hHeld25.bel | exact hHeld26.bel | exact hHeld27.bel | exact hHeld28.bel | exact hHeld29.bel | exact hHeld30.bel | exact hHeld31.bel | exact hHeld32.bel | exact hHeld33.bel | exact hHeld34.bel | exact hHeld35.bel | exact hHeld36.bel | exact hHeld37.bel | exact hHeld38.bel | exact hHeld39.bel | exact hHeld40.bel | exact hHeld41.bel | exact hHeld42.bel | exact hHeld43.bel | exact hHeld44.bel | exact hHeld45.bel | exact hHeld46.bel | exact hHeld47.bel | exact hHeld48.bel | exact hHeld49.bel | exact hHeld50.bel | exact hHeld51.bel | exact hHeld52.bel | exact hHeld53.bel | exact hHeld54.bel | exact hHeld55.bel | exact hHeld56.bel | exact hHeld57.bel | exact hHeld58.bel | exact hHeld59.bel)) zd).mono ?_); rintro e wq ⟨bq, Aq, nq, cq, br, Ar, nr, cr, rfl, hb, zq, zr⟩))
    refine hK.out _ _ (hHeld1.next hb) (fun hHeld2 => ?_)
    (try replace zd := zd.below hb)
    clear hK K
    try clear hb
    try go_frame
    refine wpAnyH_take (i := 5) (oi := ⟨some 12, _, _, _, _, _⟩) (v := ?_) rfl (by kernel_rfl) (by kernel_rfl) (by kernel_rfl) (fun _ _ _ h => h) (Or.inl ⟨by rfl, ?_⟩) (by assumption) ?_
    rotate_left
    · intro wq hSw; go_simp; (try with_reducible rfl)
    try go_frame
    refine wpAnyH_take (i := 6) (oi := ⟨some 18, _, _, _, _, _⟩) (v := ?_) rfl (by kernel_rfl) (by kernel_rfl) (by kernel_rfl) (fun _ _ _ h => h) (Or.inl ⟨by rfl, ?_⟩) (by assumption) ?_
    rotate_left
    · intro wq hSw; go_simp; (try with_reducible rfl)
    try go_frame
    refine wpAnyH_take (i := 7) (oi := ⟨some 19, _, _, _, _, _⟩) (v := ?_) rfl (by kernel_rfl) (by kernel_rfl) (by kernel_rfl) (fun _ _ _ h => h) (Or.inl ⟨by rfl, ?_⟩) (by assumption) ?_
    rotate_left
    · intro wq hSw; go_simp; (try with_reducible rfl)
    try go_frame
    refine wpAnyH_ready (rs := [8, 9]) (by kernel_rfl) (by simp) ?_
    refine AllReadyH.cons (o := ⟨some 6, _, _, _, _, _⟩) rfl (fun K hK => ?_) ?_
    have lo6 := hHeld2.1.size
    obtain ⟨⟨a6_z0, a6_c0, a6_f0⟩, ⟨a6_z1, a6_c1, a6_f1⟩, ⟨a6_z2, a6_c2, a6_f2⟩, ⟨a6_z3, a6_c3, a6_f3⟩, ⟨a6_z4, a6_c4, a6_f4⟩, ⟨a6_z5, a6_c5, a6_f5⟩, ⟨a6_z6, a6_c6, a6_f6⟩, ⟨a6_z7, a6_c7, a6_f7⟩, _⟩ := hHeld2.2
    (try simp at lo6); (try simp at a6_z0); (try simp at a6_z1); (try simp at a6_z2); (try simp at a6_z3); (try simp at a6_z4); (try simp at a6_z5); (try simp at a6_z6); (try simp at a6_z7)
    go_simp
    refine hK.out _ _ (by first | exact hHeld2.alloc _ | exact (hHeld2.alloc _).drew) (fun hHeld3 => ?_)
    (try replace zq := zq.alloc2 hHeld3)
    (try replace zr := zr.alloc2 hHeld3)
    first | have hS6 := newK2 hHeld3 | have hS6 := newK2d hHeld3
    clear hK K
    try clear hb
    try go_frame
    generalize hGWA1 : World.alloc wq (.cells #[.bool false, .slice none 0 0] 97) = WA1 at *
    clear hGWA1
    refine wpAnyH_ready (rs := [9]) (by kernel_rfl) (by simp) ?_
    refine AllReadyH.cons (o := ⟨some 7, _, _, _, _, _⟩) rfl (fun K hK => ?_) AllReadyH.nil
    have hne6_7 := hS6.2.1.1
    have lo7 := hHeld3.1.size
    obtain ⟨⟨a7_z0, a7_c0, a7_f0⟩, ⟨a7_z1, a7_c1, a7_f1⟩, ⟨a7_z2, a7_c2, a7_f2⟩, ⟨a7_z3, a7_c3, a7_f3⟩, ⟨a7_z4, a7_c4, a7_f4⟩, ⟨a7_z5, a7_c5, a7_f5⟩, ⟨a7_z6, a7_c6, a7_f6⟩, ⟨a7_z7, a7_c7, a7_f7⟩, _⟩ := hHeld3.2
    (try simp at lo7); (try simp at hne6_7); (try simp at a7_z0); (try simp at a7_z1); (try simp at a7_z2); (try simp at a7_z3); (try simp at a7_z4); (try simp at a7_z5); (try simp at a7_z6); (try simp at a7_z7)
    go_simp
    refine hK.out _ _ (by first | exact hHeld3.alloc _ | exact (hHeld3.alloc _).drew) (fun hHeld4 => ?_)
    first | replace hS6 := hS6.alloc2e hHeld4 | replace hS6 := hS6.alloc2 hHeld4
    (try replace zq := zq.alloc2 hHeld4)
    (try replace zr := zr.alloc2 hHeld4)
    first | have hS7 := newK2 hHeld4 | have hS7 := newK2d hHeld4
    clear hK K
    try clear hb
    try go_frame
    generalize hGWA2 : World.alloc WA1 (.cells #[.bool false, .slice none 0 0] 97) = WA2 at *
    clear hGWA2
    refine wpAnyH_ready (rs := [10]) (by kernel_rfl) (by simp) ?_
    refine AllReadyH.cons (o := ⟨none, _, _, _, _, _⟩) rfl (fun K hK => ?_) AllReadyH.nil
    obtain ⟨⟨s6z0, s6c0, s6f0⟩, ⟨s6z1, s6c1, s6f1⟩, _⟩ := hS6.2
    go_simp
    refine hK.out _ _ (by (repeat (first | (with_reducible exact hHeld4) | (refine Keeps.set ?_ (by simp <;> omega) (by simp <;> omega) _)))) (fun hHeld5 => ?_)
    replace hS7 := hS7.mv2 hHeld5 (by first | omega | (simp <;> omega)) (by simp <;> omega)
    (try replace zq := zq.store2 hHeld5 s6c0 s6c1)
    (try replace zr := zr.store2 hHeld5 s6c0 s6c1)
    replace hS6 := hHeld5.add2 s6z0 s6c0 s6f0 s6c1 s6f1
    clear s6z0 s6c0 s6f0 s6z1 s6c1 s6f1
    clear hK K
    try clear hb
    try go_frame
    generalize hGWA3 : World.setCell (World.setCell WA2 ⟨wq.heap.size, 0, none⟩ (.bool bq)) ⟨wq.heap.size, 1, none⟩ (.slice Aq nq cq) = WA3 at *
    clear hGWA3
    refine wpAnyH_ready (rs := [11]) (by kernel_rfl) (by simp) ?_
    refine AllReadyH.cons (o := ⟨none, _, _, _, _, _⟩) rfl (fun K hK => ?_) AllReadyH.nil
    obtain ⟨⟨s7z0, s7c0, s7f0⟩, ⟨s7z1, s7c1, s7f1⟩, _⟩ := hS7.2
    go_simp
    refine hK.out _ _ (by (repeat (first | (with_reducible exact hHeld5) | (refine Keeps.set ?_ (by simp <;> omega) (by simp <;> omega) _)))) (fun hHeld6 => ?_)
    replace hS6 := hS6.mv2 hHeld6 (by first | omega | (simp <;> omega)) (by simp <;> omega)
    (try replace zq := zq.store2 hHeld6 s7c0 s7c1)
    (try replace zr := zr.store2 hHeld6 s7c0 s7c1)
    replace hS7 := hHeld6.add2 s7z0 s7c0 s7f0 s7c1 s7f1
    clear s7z0 s7c0 s7f0 s7z1 s7c1 s7f1
    clear hK K
    try clear hb
    try go_frame
    generalize hGWA4 : World.setCell (World.setCell WA3 ⟨WA1.heap.size, 0, none⟩ (.bool br)) ⟨WA1.heap.size, 1, none⟩ (.slice Ar nr cr) = WA4 at *
    clear hGWA4
    refine wpAnyH_done (by kernel_rfl) ?_ _
    have hHeld := hHeld6
    rotate_left 1
    refine AllReadyH.cons (o := ⟨some 7, _, _, _, _, _⟩) rfl (fun K hK => ?_) ?_
    have lo7 := hHeld2.1.size
    obtain ⟨⟨a7_z0, a7_c0, a7_f0⟩, ⟨a7_z1, a7_c1, a7_f1⟩, ⟨a7_z2, a7_c2, a7_f2⟩, ⟨a7_z3, a7_c3, a7_f3⟩, ⟨a7_z4, a7_c4, a7_f4⟩, ⟨a7_z5, a7_c5, a7_f5⟩, ⟨a7_z6, a7_c6, a7_f6⟩, ⟨a7_z7, a7_c7, a7_f7⟩, _⟩ := hHeld2.2
    (try simp at lo7); (try simp at a7_z0); (try simp at a7_z1); (try simp at a7_z2); (try simp at a7_z3); (try simp at a7_z4); (try simp at a7_z5); (try simp at a7_z6); (try simp at a7_z7)
    go_simp
    refine hK.out _ _ (by first | exact hHeld2.alloc _ | exact (hHeld2.alloc _).drew) (fun hHeld7 => ?_)
    (try replace zq := zq.alloc2 hHeld7)
    (try replace zr := zr.alloc2 hHeld7)
    first | have hS7 := newK2 hHeld7 | have hS7 := newK2d hHeld7
    clear hK K
    try clear hb
    try go_frame
    generalize hGWA5 : World.alloc wq (.cells #[.bool false, .slice none 0 0] 97) = WA5 at *
    clear hGWA5
    refine wpAnyH_ready (rs := [8]) (by kernel_rfl) (by simp) ?_
    refine AllReadyH.cons (o := ⟨some 6, _, _, _, _, _⟩) rfl (fun K hK => ?_) AllReadyH.nil
    have hne7_6 := hS7.2.1.1
    have lo6 := hHeld7.1.size
    obtain ⟨⟨a6_z0, a6_c0, a6_f0⟩, ⟨a6_z1, a6_c1, a6_f1⟩, ⟨a6_z2, a6_c2, a6_f2⟩, ⟨a6_z3, a6_c3, a6_f3⟩, ⟨a6_z4, a6_c4, a6_f4⟩, ⟨a6_z5, a6_c5, a6_f5⟩, ⟨a6_z6, a6_c6, a6_f6⟩, ⟨a6_z7, a6_c7, a6_f7⟩, _⟩ := hHeld7.2
    (try simp at lo6); (try simp at hne7_6); (try simp at a6_z0); (try simp at a6_z1); (try simp at a6_z2); (try simp at a6_z3); (try simp at a6_z4); (try simp at a6_z5); (try simp at a6_z6); (try simp at a6_z7)
    go_simp
    refine hK.out _ _ (by first | exact hHeld7.alloc _ | exact (hHeld7.alloc _).drew) (fun hHeld8 => ?_)
    first | replace hS7 := hS7.alloc2e hHeld8 | replace hS7 := hS7.alloc2 hHeld8
    (try replace zq := zq.alloc2 hHeld8)
    (try replace zr := zr.alloc2 hHeld8)
    first | have hS6 := newK2 hHeld8 | have hS6 := newK2d hHeld8
    clear hK K
    try clear hb
    try go_frame
    generalize hGWA6 : World.alloc WA5 (.cells #[.bool false, .slice none 0 0] 97) = WA6 at *
    clear hGWA6
    refine wpAnyH_ready (rs := [10]) (by kernel_rfl) (by simp) ?_
    refine AllReadyH.cons (o := ⟨none, _, _, _, _, _⟩) rfl (fun K hK => ?_) AllReadyH.nil
    obtain ⟨⟨s6z0, s6c0, s6f0⟩, ⟨s6z1, s6c1, s6f1⟩, _⟩ := hS6.2
    go_simp
    refine hK.out _ _ (by (repeat (first | (with_reducible exact hHeld8) | (refine Keeps.set ?_ (by simp <;> omega) (by simp <;> omega) _)))) (fun hHeld9 => ?_)
    replace hS7 := hS7.mv2 hHeld9 (by first | omega | (simp <;> omega)) (by simp <;> omega)
    (try replace zq := zq.store2 hHeld9 s6c0 s6c1)
    (try replace zr := zr.store2 hHeld9 s6c0 s6c1)
    replace hS6 := hHeld9.add2 s6z0 s6c0 s6f0 s6c1 s6f1
    clear s6z0 s6c0 s6f0 s6z1 s6c1 s6f1
    clear hK K
    try clear hb
    try go_frame
    generalize hGWA7 : World.setCell (World.setCell WA6 ⟨WA5.heap.size, 0, none⟩ (.bool bq)) ⟨WA5.heap.size, 1, none⟩ (.slice Aq nq cq) = WA7 at *
    clear hGWA7
    refine wpAnyH_ready (rs := [11]) (by kernel_rfl) (by simp) ?_
    refine AllReadyH.cons (o := ⟨none, _, _, _, _, _⟩) rfl (fun K hK => ?_) AllReadyH.nil
    obtain ⟨⟨s7z0, s7c0, s7f0⟩, ⟨s7z1, s7c1, s7f1⟩, _⟩ := hS7.2
    go_simp
    refine hK.out _ _ (by (repeat (first | (with_reducible exact hHeld9) | (refine Keeps.set ?_ (by simp <;> omega) (by simp <;> omega) _)))) (fun hHeld10 => ?_)
    replace hS6 := hS6.mv2 hHeld10 (by first | omega | (simp <;> omega)) (by simp <;> omega)
    (try replace zq := zq.store2 hHeld10 s7c0 s7c1)
    (try replace zr := zr.store2 hHeld10 s7c0 s7c1)
    replace hS7 := hHeld10.add2 s7z0 s7c0 s7f0 s7c1 s7f1
    clear s7z0 s7c0 s7f0 s7z1 s7c1 s7f1
    clear hK K
    try clear hb
    try go_frame
    generalize hGWA8 : World.setCell (World.setCell WA7 ⟨wq.heap.size, 0, none⟩ (.bool br)) ⟨wq.heap.size, 1, none⟩ (.slice Ar nr cr) = WA8 at *
    clear hGWA8
    refine wpAnyH_done (by kernel_rfl) ?_ _
    have hHeld := hHeld10
    rotate_left 1
    exact AllReadyH.nil
    refine AllReadyH.cons (o := ⟨some 6, _, _, _, _, _⟩) rfl (fun K hK => ?_) ?_
    have lo6 := hHeld1.1.size
    obtain ⟨⟨a6_z0, a6_c0, a6_f0⟩, ⟨a6_z1, a6_c1, a6_f1⟩, ⟨a6_z2, a6_c2, a6_f2⟩, ⟨a6_z3, a6_c3, a6_f3⟩, ⟨a6_z4, a6_c4, a6_f4⟩, ⟨a6_z5, a6_c5, a6_f5⟩, ⟨a6_z6, a6_c6, a6_f6⟩, ⟨a6_z7, a6_c7, a6_f7⟩, _⟩ := hHeld1.2
    (try simp at lo6); (try simp at a6_z0); (try simp at a6_z1); (try simp at a6_z2); (try simp at a6_z3); (try simp at a6_z4); (try simp at a6_z5); (try simp at a6_z6); (try simp at a6_z7)
    go_simp
    refine hK.out _ _ (by first | exact hHeld1.alloc _ | exact (hHeld1.alloc _).drew) (fun hHeld11 => ?_)
    (try replace zd := zd.alloc2 hHeld11)
    first | have hS6 := newK2 hHeld11 | have hS6 := newK2d hHeld11
    clear hK K
    try clear hb
    try go_frame
    generalize hGWA9 : World.alloc wd (.cells #[.bool false, .slice none 0 0] 97) = WA9 at *
    clear hGWA9
    refine wpAnyH_ready (rs := [4, 9]) (by kernel_rfl) (by simp) ?_
    refine AllReadyH.cons (o := ⟨some 17, _, _, _, _, _⟩) rfl (fun K hK => ?_) ?_
    go_simp
    (first | ((with_reducible refine (ID.out _).mono ?_); rintro e wd ⟨bd, Ad, nd, cd, rfl, hb, zd⟩) | ((with_reducible refine (DV.out _ _ _ (HN.out.below (by first | exact hHeld0.bel | exact hHeld1.bel | exact hHeld2.bel | exact hHeld3.bel | exact hHeld4.bel | exact hHeld5.bel | exact hHeld6.bel | exact hHeld7.bel | exact hHeld8.bel | exact hHeld9.bel | exact hHeld10.bel | exact hHeld11.bel | exact hHeld12.bel | exact hHeld13.bel | exact hHeld14.bel | exact hHeld15.bel | exact hHeld16.bel | exact hHeld17.bel | exact hHeld18.bel | exact hHeld19.bel | exact hHeld20.bel | exact hHeld21.bel | exact hHeld22.bel | exact hHeld23.bel | exact hHeld24.bel | exact hHeld25.bel | exact hHeld26.bel | exact hHeld27.bel | exact hHeld28.bel | exact hHeld29.bel | exact hHeld30.bel | exact hHeld31.bel | exact hHeld32.bel | exact hHeld33.bel | exact hHeld34.bel | exact hHeld35.bel | exact hHeld36.bel | exact hHeld37.bel | exact hHeld38.bel | exact hHeld39.bel | exact hHeld40.bel | exact hHeld41.bel | exact hHeld42.bel | exact hHeld43.bel | exact hHeld44.bel | exact hHeld45.bel | exact hHeld46.bel | exact hHeld47.bel | exact hHeld48.bel | exact hHeld49.bel | exact hHeld50.bel | exact hHeld51.bel | exact hHeld52.bel | exact hHeld53.bel | exact hHeld54.bel | exact hHeld55.bel | exact hHeld56.bel | exact hHeld57.bel | exact hHeld58.bel | exact hHeld59.bel)) zd).mono ?_); rintro e wq ⟨bq, Aq, nq, cq, br, Ar, nr, cr, rfl, hb, zq, zr⟩))
    refine hK.out _ _ (hHeld11.next hb) (fun hHeld12 => ?_)
    replace hS6 := hS6.next hb
    (try replace zd := zd.below hb)
    clear hK K
    try clear hb
    try go_frame
    refine wpAnyH_take (i := 5) (oi := ⟨some 12, _, _, _, _, _⟩) (v := ?_) rfl (by kernel_rfl) (by kernel_rfl) (by kernel_rfl) (fun _ _ _ h => h) (Or.inl ⟨by rfl, ?_⟩) (by assumption) ?_
    rotate_left
    · intro wq hSw; go_simp; (try with_reducible rfl)
    try go_frame
    refine wpAnyH_take (i := 6) (oi := ⟨some 18, _, _, _, _, _⟩) (v := ?_) rfl (by kernel_rfl) (by kernel_rfl) (by kernel_rfl) (fun _ _ _ h => h) (Or.inl ⟨by rfl, ?_⟩) (by assumption) ?_
    rotate_left
    · intro wq hSw; go_simp; (try with_reducible rfl)
    try go_frame
    refine wpAnyH_take (i := 7) (oi := ⟨some 19, _, _, _, _, _⟩) (v := ?_) rfl (by kernel_rfl) (by kernel_rfl) (by kernel_rfl) (fun _ _ _ h => h) (Or.inl ⟨by rfl, ?_⟩) (by assumption) ?_
    rotate_left
    · intro wq hSw; go_simp; (try with_reducible rfl)
    try go_frame
    refine wpAnyH_ready (rs := [9]) (by kernel_rfl) (by simp) ?_
    refine AllReadyH.cons (o := ⟨some 7, _, _, _, _, _⟩) rfl (fun K hK => ?_) AllReadyH.nil
    have hne6_7 := hS6.2.1.1
    have lo7 := hHeld12.1.size
    obtain ⟨⟨a7_z0, a7_c0, a7_f0⟩, ⟨a7_z1, a7_c1, a7_f1⟩, ⟨a7_z2, a7_c2, a7_f2⟩, ⟨a7_z3, a7_c3, a7_f3⟩, ⟨a7_z4, a7_c4, a7_f4⟩, ⟨a7_z5, a7_c5, a7_f5⟩, ⟨a7_z6, a7_c6, a7_f6⟩, ⟨a7_z7, a7_c7, a7_f7⟩, _⟩ := hHeld12.2
    (try simp at lo7); (try simp at hne6_7); (try simp at a7_z0); (try simp at a7_z1); (try simp at a7_z2); (try simp at a7_z3); (try simp at a7_z4); (try simp at a7_z5); (try simp at a7_z6); (try simp at a7_z7)
    go_simp
    refine hK.out _ _ (by first | exact hHeld12.alloc _ | exact (hHeld12.alloc _).drew) (fun hHeld13 => ?_)
    first | replace hS6 := hS6.alloc2e hHeld13 | replace hS6 := hS6.alloc2 hHeld13
    (try replace zq := zq.alloc2 hHeld13)
    (try replace zr := zr.alloc2 hHeld13)
    first | have hS7 := newK2 hHeld13 | have hS7 := newK2d hHeld13
    clear hK K
    try clear hb
    try go_frame
    generalize hGWA10 : World.alloc wq (.cells #[.bool false, .slice none 0 0] 97) = WA10 at *
    clear hGWA10
    refine wpAnyH_ready (rs := [10]) (by kernel_rfl) (by simp) ?_
    refine AllReadyH.cons (o := ⟨none, _, _, _, _, _⟩) rfl (fun K hK => ?_) AllReadyH.nil
    obtain ⟨⟨s6z0, s6c0, s6f0⟩, ⟨s6z1, s6c1, s6f1⟩, _⟩ := hS6.2
    go_simp
    refine hK.out _ _ (by (repeat (first | (with_reducible exact hHeld13) | (refine Keeps.set ?_ (by simp <;> omega) (by simp <;> omega) _)))) (fun hHeld14 => ?_)
    replace hS7 := hS7.mv2 hHeld14 (by first | omega | (simp <;> omega)) (by simp <;> omega)
    (try replace zq := zq.store2 hHeld14 s6c0 s6c1)
    (try replace zr := zr.store2 hHeld14 s6c0 s6c1)
    replace hS6 := hHeld14.add2 s6z0 s6c0 s6f0 s6c1 s6f1
    clear s6z0 s6c0 s6f0 s6z1 s6c1 s6f1
    clear hK K
    try clear hb
    try go_frame
    generalize hGWA11 : World.setCell (World.setCell WA10 ⟨wd.heap.size, 0, none⟩ (.bool bq)) ⟨wd.heap.size, 1, none⟩ (.slice Aq nq cq) = WA11 at *
    clear hGWA11
    refine wpAnyH_ready (rs := [11]) (by kernel_rfl) (by simp) ?_
    refine AllReadyH.cons (o := ⟨none, _, _, _, _, _⟩) rfl (fun K hK => ?_) AllReadyH.nil
    obtain ⟨⟨s7z0, s7c0, s7f0⟩, ⟨s7z1, s7c1, s7f1⟩, _⟩ := hS7.2
    go_simp
    refine hK.out _ _ (by (repeat (first | (with_reducible exact hHeld14) | (refine Keeps.set ?_ (by simp <;> omega) (by simp <;> omega) _)))) (fun hHeld15 => ?_)
    replace hS6 := hS6.mv2 hHeld15 (by first | omega | (simp <;> omega)) (by simp <;> omega)
    (try replace zq := zq.store2 hHeld15 s7c0 s7c1)
    (try replace zr := zr.store2 hHeld15 s7c0 s7c1)
    replace hS7 := hHeld15.add2 s7z0 s7c0 s7f0 s7c1 s7f1
    clear s7z0 s7c0 s7f0 s7z1 s7c1 s7f1
    clear hK K
    try clear hb
    try go_frame
    generalize hGWA12 : World.setCell (World.setCell WA11 ⟨wq.heap.size, 0, none⟩ (.bool br)) ⟨wq.heap.size, 1, none⟩ (.slice Ar nr cr) = WA12 at *
    clear hGWA12
    refine wpAnyH_done (by kernel_rfl) ?_ _
    have hHeld := hHeld15
    rotate_left 1
    refine AllReadyH.cons (o := ⟨some 7, _, _, _, _, _⟩) rfl (fun K hK => ?_) ?_
    have hne6_7 := hS6.2.1.1
    have lo7 := hHeld11.1.size
    obtain ⟨⟨a7_z0, a7_c0, a7_f0⟩, ⟨a7_z1, a7_c1, a7_f1⟩, ⟨a7_z2, a7_c2, a7_f2⟩, ⟨a7_z3, a7_c3, a7_f3⟩, ⟨a7_z4, a7_c4, a7_f4⟩, ⟨a7_z5, a7_c5, a7_f5⟩, ⟨a7_z6, a7_c6, a7_f6⟩, ⟨a7_z7, a7_c7, a7_f7⟩, _⟩ := hHeld11.2
    (try simp at lo7); (try simp at hne6_7); (try simp at a7_z0); (try simp at a7_z1); (try simp at a7_z2); (try simp at a7_z3); (try simp at a7_z4); (try simp at a7_z5); (try simp at a7_z6); (try simp at a7_z7)
    go_simp
    refine hK.out _ _ (by first | exact hHeld11.alloc _ | exact (hHeld11.alloc _).drew) (fun hHeld16 => ?_)
    first | replace hS6 := hS6.alloc2e hHeld16 | replace hS6 := hS6.alloc2 hHeld16
    (try replace zd := zd.alloc2 hHeld16)
    first | have hS7 := newK2 hHeld16 | have hS7 := newK2d hHeld16
    clear hK K
    try clear hb
    try go_frame
    generalize hGWA13 : World.alloc WA9 (.cells #[.bool false, .slice none 0 0] 97) = WA13 at *
    clear hGWA13
    refine wpAnyH_ready (rs := [4]) (by kernel_rfl) (by simp) ?_
    refine AllReadyH.cons (o := ⟨some 17, _, _, _, _, _⟩) rfl (fun K hK => ?_) AllReadyH.nil
    go_simp
    (first | ((with_reducible refine (ID.out _).mono ?_); rintro e wd ⟨bd, Ad, nd, cd, rfl, hb, zd⟩) | ((with_reducible refine (DV.out _ _ _ (HN.out.below (by first | exact hHeld0.bel | exact hHeld1.bel | exact hHeld2.bel | exact hHeld3.bel | exact hHeld4.bel | exact hHeld5.bel | exact hHeld6.bel | exact hHeld7.bel | exact hHeld8.bel | exact hHeld9.bel | exact hHeld10.bel | exact hHeld11.bel | exact hHeld12.bel | exact hHeld13.bel | exact hHeld14.bel | exact hHeld15.bel | exact hHeld16.bel | exact hHeld17.bel | exact hHeld18.bel | exact hHeld19.bel | exact hHeld20.bel | exact hHeld21.bel | exact hHeld22.bel | exact hHeld23.bel | exact hHeld24.bel | exact hHeld25.bel | exact hHeld26.bel | exact hHeld27.bel | exact hHeld28.bel | exact hHeld29.bel | exact hHeld30.bel | exact hHeld31.bel | exact hHeld32.bel | exact hHeld33.bel | exact hHeld34.bel | exact hHeld35.bel | exact hHeld36.bel | exact hHeld37.bel | exact hHeld38.bel | exact hHeld39.bel | exact hHeld40.bel | exact hHeld41.bel | exact hHeld42.bel | exact hHeld43.bel | exact hHeld44.bel | exact hHeld45.bel | exact hHeld46.bel | exact hHeld47.bel | exact hHeld48.bel | exact hHeld49.bel | exact hHeld50.bel | exact hHeld51.bel | exact hHeld52.bel | exact hHeld53.bel | exact hHeld54.bel | exact hHeld55.bel | exact hHeld56.bel | exact hHeld57.bel | exact hHeld58.bel | exact hHeld59.bel)) zd).mono ?_); rintro e wq ⟨bq, Aq, nq, cq, br, Ar, nr, cr, rfl, hb, zq, zr⟩))
    refine hK.out _ _ (hHeld16.next hb) (fun hHeld17 => ?_)
    replace hS6 := hS6.next hb
    replace hS7 := hS7.next hb
    (try replace zd := zd.below hb)
    clear hK K
    try clear hb
    try go_frame
    refine wpAnyH_take (i := 5) (oi := ⟨some 12, _, _, _, _, _⟩) (v := ?_) rfl (by kernel_rfl) (by kernel_rfl) (by kernel_rfl) (fun _ _ _ h => h) (Or.inl ⟨by rfl, ?_⟩) (by assumption) ?_
    rotate_left
    · intro wq hSw; go_simp; (try with_reducible rfl)
    try go_frame
    refine wpAnyH_take (i := 6) (oi := ⟨some 18, _, _, _, _, _⟩) (v := ?_) rfl (by kernel_rfl) (by kernel_rfl) (by kernel_rfl) (fun _ _ _ h => h) (Or.inl ⟨by rfl, ?_⟩) (by assumption) ?_
    rotate_left
    · intro wq hSw; go_simp; (try with_reducible rfl)
    try go_frame
    refine wpAnyH_take (i := 7) (oi := ⟨some 19, _, _, _, _, _⟩) (v := ?_) rfl (by kernel_rfl) (by kernel_rfl) (by kernel_rfl) (fun _ _ _ h => h) (Or.inl ⟨by rfl, ?_⟩) (by assumption) ?_
    rotate_left
    · intro wq hSw; go_simp; (try with_reducible rfl)
    try go_frame
    refine wpAnyH_ready (rs := [10]) (by kernel_rfl) (by simp) ?_
    refine AllReadyH.cons (o := ⟨none, _, _, _, _, _⟩) rfl (fun K hK => ?_) AllReadyH.nil
    obtain ⟨⟨s6z0, s6c0, s6f0⟩, ⟨s6z1, s6c1, s6f1⟩, _⟩ := hS6.2
    go_simp
    refine hK.out _ _ (by (repeat (first | (with_reducible exact hHeld17) | (refine Keeps.set ?_ (by simp <;> omega) (by simp <;> omega) _)))) (fun hHeld18 => ?_)
    replace hS7 := hS7.mv2 hHeld18 (by first | omega | (simp <;> omega)) (by simp <;> omega)
    (try replace zq := zq.store2 hHeld18 s6c0 s6c1)
    (try replace zr := zr.store2 hHeld18 s6c0 s6c1)
    replace hS6 := hHeld18.add2 s6z0 s6c0 s6f0 s6c1 s6f1
    clear s6z0 s6c0 s6f0 s6z1 s6c1 s6f1
    clear hK K
    try clear hb
    try go_frame
    generalize hGWA14 : World.setCell (World.setCell wq ⟨wd.heap.size, 0, none⟩ (.bool bq)) ⟨wd.heap.size, 1, none⟩ (.slice Aq nq cq) = WA14 at *
    clear hGWA14
    refine wpAnyH_ready (rs := [11]) (by kernel_rfl) (by simp) ?_
    refine AllReadyH.cons (o := ⟨none, _, _, _, _, _⟩) rfl (fun K hK => ?_) AllReadyH.nil
    obtain ⟨⟨s7z0, s7c0, s7f0⟩, ⟨s7z1, s7c1, s7f1⟩, _⟩ := hS7.2
    go_simp
    refine hK.out _ _ (by (repeat (first | (with_reducible exact hHeld18) | (refine Keeps.set ?_ (by simp <;> omega) (by simp <;> omega) _)))) (fun hHeld19 => ?_)
    replace hS6 := hS6.mv2 hHeld19 (by first | omega | (simp <;> omega)) (by simp <;> omega)
    (try replace zq := zq.store2 hHeld19 s7c0 s7c1)
    (try replace zr := zr.store2 hHeld19 s7c0 s7c1)
    replace hS7 := hHeld19.add2 s7z0 s7c0 s7f0 s7c1 s7f1
    clear s7z0 s7c0 s7f0 s7z1 s7c1 s7f1
    clear hK K
    try clear hb
    try go_frame
    generalize hGWA15 : World.setCell (World.setCell WA14 ⟨WA9.heap.size, 0, none⟩ (.bool br)) ⟨WA9.heap.size, 1, none⟩ (.slice Ar nr cr) = WA15 at *
    clear hGWA15
    refine wpAnyH_done (by kernel_rfl) ?_ _
    have hHeld := hHeld19
    rotate_left 1
    exact AllReadyH.nil
    refine AllReadyH.cons (o := ⟨some 7, _, _, _, _, _⟩) rfl (fun K hK => ?_) ?_
    have lo7 := hHeld1.1.size
    obtain ⟨⟨a7_z0, a7_c0, a7_f0⟩, ⟨a7_z1, a7_c1, a7_f1⟩, ⟨a7_z2, a7_c2, a7_f2⟩, ⟨a7_z3, a7_c3, a7_f3⟩, ⟨a7_z4, a7_c4, a7_f4⟩, ⟨a7_z5, a7_c5, a7_f5⟩, ⟨a7_z6, a7_c6, a7_f6⟩, ⟨a7_z7, a7_c7, a7_f7⟩, _⟩ := hHeld1.2
    (try simp at lo7); (try simp at a7_z0); (try simp at a7_z1); (try simp at a7_z2); (try simp at a7_z3); (try simp at a7_z4); (try simp at a7_z5); (try simp at a7_z6); (try simp at a7_z7)
    go_simp
    refine hK.out _ _ (by first | exact hHeld1.alloc _ | exact (hHeld1.alloc _).drew) (fun hHeld20 => ?_)
    (try replace zd := zd.alloc2 hHeld20)
    first | have hS7 := newK2 hHeld20 | have hS7 := newK2d hHeld20
    clear hK K
    try clear hb
    try go_frame
    generalize hGWA16 : World.alloc wd (.cells #[.bool false, .slice none 0 0] 97) = WA16 at *
    clear hGWA16
    refine wpAnyH_ready (rs := [4, 8]) (by kernel_rfl) (by simp) ?_
    refine AllReadyH.cons (o := ⟨some 17, _, _, _, _, _⟩) rfl (fun K hK => ?_) ?_
    go_simp
    (first | ((with_reducible refine (ID.out _).mono ?_); rintro e wd ⟨bd, Ad, nd, cd, rfl, hb, zd⟩) | ((with_reducible refine (DV.out _ _ _ (HN.out.below (by first | exact hHeld0.bel | exact hHeld1.bel | exact hHeld2.bel | exact hHeld3.bel | exact hHeld4.bel | exact hHeld5.bel | exact hHeld6.bel | exact hHeld7.bel | exact hHeld8.bel | exact hHeld9.bel | exact hHeld10.bel | exact hHeld11.bel | exact hHeld12.bel | exact hHeld13.bel | exact hHeld14.bel | exact hHeld15.bel | exact hHeld16.bel | exact hHeld17.bel | exact hHeld18.bel | exact hHeld19.bel | exact hHeld20.bel | exact hHeld21.bel | exact hHeld22.bel | exact hHeld23.bel | exact hHeld24.bel | exact hHeld25.bel | exact hHeld26.bel | exact hHeld27.bel | exact hHeld28.bel | exact hHeld29.bel | exact hHeld30.bel | exact hHeld31.bel | exact hHeld32.bel | exact hHeld33.bel | exact hHeld34.bel | exact hHeld35.bel | exact hHeld36.bel | exact hHeld37.bel | exact hHeld38.bel | exact hHeld39.bel | exact hHeld40.bel | exact hHeld41.bel | exact hHeld42.bel | exact hHeld43.bel | exact hHeld44.bel | exact hHeld45.bel | exact hHeld46.bel | exact hHeld47.bel | exact hHeld48.bel | exact hHeld49.bel | exact hHeld50.bel | exact hHeld51.bel | exact hHeld52.bel | exact hHeld53.bel | exact hHeld54.bel | exact hHeld55.bel | exact hHeld56.bel | exact hHeld57.bel | exact hHeld58.bel | exact hHeld59.bel)) zd).mono ?_); rintro e wq ⟨bq, Aq, nq, cq, br, Ar, nr, cr, rfl, hb, zq, zr⟩))
    refine hK.out _ _ (hHeld20.next hb) (fun hHeld21 => ?_)
    replace hS7 := hS7.next hb
    (try replace zd := zd.below hb)
    clear hK K
    try clear hb
    try go_frame
    refine wpAnyH_take (i := 5) (oi := ⟨some 12, _, _, _, _, _⟩) (v := ?_) rfl (by kernel_rfl) (by kernel_rfl) (by kernel_rfl) (fun _ _ _ h => h) (Or.inl ⟨by rfl, ?_⟩) (by assumption) ?_
    rotate_left
    · intro wq hSw; go_simp; (try with_reducible rfl)
    try go_frame
    refine wpAnyH_take (i := 6) (oi := ⟨some 18, _, _, _, _, _⟩) (v := ?_) rfl (by kernel_rfl) (by kernel_rfl) (by kernel_rfl) (fun _ _ _ h => h) (Or.inl ⟨by rfl, ?_⟩) (by assumption) ?_
    rotate_left
    · intro wq hSw; go_simp; (try with_reducible rfl)
    try go_frame
    refine wpAnyH_take (i := 7) (oi := ⟨some 19, _, _, _, _, _⟩) (v := ?_) rfl (by kernel_rfl) (by kernel_rfl) (by kernel_rfl) (fun _ _ _ h => h) (Or.inl ⟨by rfl, ?_⟩) (by assumption) ?_
    rotate_left
    · intro wq hSw; go_simp; (try with_reducible rfl)
    try go_frame
    refine wpAnyH_ready (rs := [8]) (by kernel_rfl) (by simp) ?_
    refine AllReadyH.cons (o := ⟨some 6, _, _, _, _, _⟩) rfl (fun K hK => ?_) AllReadyH.nil
    have hne7_6 := hS7.2.1.1
    have lo6 := hHeld21.1.size
    obtain ⟨⟨a6_z0, a6_c0, a6_f0⟩, ⟨a6_z1, a6_c1, a6_f1⟩, ⟨a6_z2, a6_c2, a6_f2⟩, ⟨a6_z3, a6_c3, a6_f3⟩, ⟨a6_z4, a6_c4, a6_f4⟩, ⟨a6_z5, a6_c5, a6_f5⟩, ⟨a6_z6, a6_c6, a6_f6⟩, ⟨a6_z7, a6_c7, a6_f7⟩, _⟩ := hHeld21.2
    (try simp at lo6); (try simp at hne7_6); (try simp at a6_z0); (try simp at a6_z1); (try simp at a6_z2); (try simp at a6_z3); (try simp at a6_z4); (try simp at a6_z5); (try simp at a6_z6); (try simp at a6_z7)
    go_simp
    refine hK.out _ _ (by first | exact hHeld21.alloc _ | exact (hHeld21.alloc _).drew) (fun hHeld22 => ?_)
    first | replace hS7 := hS7.alloc2e hHeld22 | replace hS7 := hS7.alloc2 hHeld22
    (try replace zq := zq.alloc2 hHeld22)
    (try replace zr := zr.alloc2 hHeld22)
    first | have hS6 := newK2 hHeld22 | have hS6 := newK2d hHeld22
    clear hK K
    try clear hb
    try go_frame
    generalize hGWA17 : World.alloc wq (.cells #[.bool false, .slice none 0 0] 97) = WA17 at *
    clear hGWA17
    refine wpAnyH_ready (rs := [10]) (by kernel_rfl) (by simp) ?_
    refine AllReadyH.cons (o := ⟨none, _, _, _, _, _⟩) rfl (fun K hK => ?_) AllReadyH.nil
    obtain ⟨⟨s6z0, s6c0, s6f0⟩, ⟨s6z1, s6c1, s6f1⟩, _⟩ := hS6.2
    go_simp
    refine hK.out _ _ (by (repeat (first | (with_reducible exact hHeld22) | (refine Keeps.set ?_ (by simp <;> omega) (by simp <;> omega) _)))) (fun hHeld23 => ?_)
    replace hS7 := hS7.mv2 hHeld23 (by first | omega | (simp <;> omega)) (by simp <;> omega)
    (try replace zq := zq.store2 hHeld23 s6c0 s6c1)
    (try replace zr := zr.store2 hHeld23 s6c0 s6c1)
    replace hS6 := hHeld23.add2 s6z0 s6c0 s6f0 s6c1 s6f1
    clear s6z0 s6c0 s6f0 s6z1 s6c1 s6f1
    clear hK K
    try clear hb
    try go_frame
    generalize hGWA18 : World.setCell (World.setCell WA17 ⟨wq.heap.size, 0, none⟩ (.bool bq)) ⟨wq.heap.size, 1, none⟩ (.slice Aq nq cq) = WA18 at *
    clear hGWA18
    refine wpAnyH_ready (rs := [11]) (by kernel_rfl) (by simp) ?_
    refine AllReadyH.cons (o := ⟨none, _, _, _, _, _⟩) rfl (fun K hK => ?_) AllReadyH.nil
    obtain ⟨⟨s7z0, s7c0, s7f0⟩, ⟨s7z1, s7c1, s7f1⟩, _⟩ := hS7.2
    go_simp
    refine hK.out _ _ (by (repeat (first | (with_reducible exact hHeld23) | (refine Keeps.set ?_ (by simp <;> omega) (by simp <;> omega) _)))) (fun hHeld24 => ?_)
    replace hS6 := hS6.mv2 hHeld24 (by first | omega | (simp <;> omega)) (by simp <;> omega)
    (try replace zq := zq.store2 hHeld24 s7c0 s7c1)
    (try replace zr := zr.store2 hHeld24 s7c0 s7c1)
    replace hS7 := hHeld24.add2 s7z0 s7c0 s7f0 s7c1 s7f1
    clear s7z0 s7c0 s7f0 s7z1 s7c1 s7f1
    clear hK K
    try clear hb
    try go_frame
    generalize hGWA19 : World.setCell (World.setCell WA18 ⟨wd.heap.size, 0, none⟩ (.bool br)) ⟨wd.heap.size, 1, none⟩ (.slice Ar nr cr) = WA19 at *
    clear hGWA19
    refine wpAnyH_done (by kernel_rfl) ?_ _
    have hHeld := hHeld24
    rotate_left 1
    refine AllReadyH.cons (o := ⟨some 6, _, _, _, _, _⟩) rfl (fun K hK => ?_) ?_
    have hne7_6 := hS7.2.1.1
    have lo6 := hHeld20.1.size
    obtain ⟨⟨a6_z0, a6_c0, a6_f0⟩, ⟨a6_z1, a6_c1, a6_f1⟩, ⟨a6_z2, a6_c2, a6_f2⟩, ⟨a6_z3, a6_c3, a6_f3⟩, ⟨a6_z4, a6_c4, a6_f4⟩, ⟨a6_z5, a6_c5, a6_f5⟩, ⟨a6_z6, a6_c6, a6_f6⟩, ⟨a6_z7, a6_c7, a6_f7⟩, _⟩ := hHeld20.2
    (try simp at lo6); (try simp at hne7_6); (try simp at a6_z0); (try simp at a6_z1); (try simp at a6_z2); (try simp at a6_z3); (try simp at a6_z4); (try simp at a6_z5); (try simp at a6_z6); (try simp at a6_z7)
    go_simp
    refine hK.out _ _ (by first | exact hHeld20.alloc _ | exact (hHeld20.alloc _).drew) (fun hHeld25 => ?_)
    first | replace hS7 := hS7.alloc2e hHeld25 | replace hS7 := hS7.alloc2 hHeld25
    (try replace zd := zd.alloc2 hHeld25)
    first | have hS6 := newK2 hHeld25 | have hS6 := newK2d hHeld25
    clear hK K
    try clear hb
    try go_frame
    generalize hGWA20 : World.alloc WA16 (.cells #[.bool false, .slice none 0 0] 97) = WA20 at *
    clear hGWA20
    refine wpAnyH_ready (rs := [4]) (by kernel_rfl) (by simp) ?_
    refine AllReadyH.cons (o := ⟨some 17, _, _, _, _, _⟩) rfl (fun K hK => ?_) AllReadyH.nil
    go_simp
    (first | ((with_reducible refine (ID.out _).mono ?_); rintro e wd ⟨bd, Ad, nd, cd, rfl, hb, zd⟩) | ((with_reducible refine (DV.out _ _ _ (HN.out.below (by first | exact hHeld0.bel | exact hHeld1.bel | exact hHeld2.bel | exact hHeld3.bel | exact hHeld4.bel | exact hHeld5.bel | exact hHeld6.bel | exact hHeld7.bel | exact hHeld8.bel | exact hHeld9.bel | exact hHeld10.bel | exact hHeld11.bel | exact hHeld12.bel | exact hHeld13.bel | exact hHeld14.bel | exact hHeld15.bel | exact hHeld16.bel | exact hHeld17.bel | exact hHeld18.bel | exact hHeld19.bel | exact hHeld20.bel | exact hHeld21.bel | exact hHeld22.bel | exact hHeld23.bel | exact hHeld24.bel | exact hHeld25.bel | exact hHeld26.bel | exact hHeld27.bel | exact hHeld28.bel | exact hHeld29.bel | exact hHeld30.bel | exact hHeld31.bel | exact hHeld32.bel | exact hHeld33.bel | exact hHeld34.bel | exact hHeld35.bel | exact hHeld36.bel | exact hHeld37.bel | exact hHeld38.bel | exact hHeld39.bel | exact hHeld40.bel | exact hHeld41.bel | exact hHeld42.bel | exact hHeld43.bel | exact hHeld44.bel | exact hHeld45.bel | exact hHeld46.bel | exact hHeld47.bel | exact hHeld48.bel | exact hHeld49.bel | exact hHeld50.bel | exact hHeld51.bel | exact hHeld52.bel | exact hHeld53.bel | exact hHeld54.bel | exact hHeld55.bel | exact hHeld56.bel | exact hHeld57.bel | exact hHeld58.bel | exact hHeld59.bel)) zd).mono ?_); rintro e wq ⟨bq, Aq, nq, cq, br, Ar, nr, cr, rfl, hb, zq, zr⟩))
    refine hK.out _ _ (hHeld25.next hb) (fun hHeld26 => ?_)
    replace hS7 := hS7.next hb
    replace hS6 := hS6.next hb
    (try replace zd := zd.below hb)
    clear hK K
    try clear hb
    try go_frame
    refine wpAnyH_take (i := 5) (oi := ⟨some 12, _, _, _, _, _⟩) (v := ?_) rfl (by kernel_rfl) (by kernel_rfl) (by kernel_rfl) (fun _ _ _ h => h) (Or.inl ⟨by rfl, ?_⟩) (by assumption) ?_
    rotate_left
    · intro wq hSw; go_simp; (try with_reducible rfl)
    try go_frame
    refine wpAnyH_take (i := 6) (oi := ⟨some 18, _, _, _, _, _⟩) (v := ?_) rfl (by kernel_rfl) (by kernel_rfl) (by kernel_rfl) (fun _ _ _ h => h) (Or.inl ⟨by rfl, ?_⟩) (by assumption) ?_
    rotate_left
    · intro wq hSw; go_simp; (try with_reducible rfl)
    try go_frame
    refine wpAnyH_take (i := 7) (oi := ⟨some 19, _, _, _, _, _⟩) (v := ?_) rfl (by kernel_rfl) (by kernel_rfl) (by kernel_rfl) (fun _ _ _ h => h) (Or.inl ⟨by rfl, ?_⟩) (by assumption) ?_
    rotate_left
    · intro wq hSw; go_simp; (try with_reducible rfl)
    try go_frame
    refine wpAnyH_ready (rs := [10]) (by kernel_rfl) (by simp) ?_
    refine AllReadyH.cons (o := ⟨none, _, _, _, _, _⟩) rfl (fun K hK => ?_) AllReadyH.nil
    obtain ⟨⟨s6z0, s6c0, s6f0⟩, ⟨s6z1, s6c1, s6f1⟩, _⟩ := hS6.2
    go_simp
    refine hK.out _ _ (by (repeat (first | (with_reducible exact hHeld26) | (refine Keeps.set ?_ (by simp <;> omega) (by simp <;> omega) _)))) (fun hHeld27 => ?_)
    replace hS7 := hS7.mv2 hHeld27 (by first | omega | (simp <;> omega)) (by simp <;> omega)
    (try replace zq := zq.store2 hHeld27 s6c0 s6c1)
    (try replace zr := zr.store2 hHeld27 s6c0 s6c1)
    replace hS6 := hHeld27.add2 s6z0 s6c0 s6f0 s6c1 s6f1
    clear s6z0 s6c0 s6f0 s6z1 s6c1 s6f1
    clear hK K
    try clear hb
    try go_frame
    generalize hGWA21 : World.setCell (World.setCell wq ⟨WA16.heap.size, 0, none⟩ (.bool bq)) ⟨WA16.heap.size, 1, none⟩ (.slice Aq nq cq) = WA21 at *
    clear hGWA21
    refine wpAnyH_ready (rs := [11]) (by kernel_rfl) (by simp) ?_
    refine AllReadyH.cons (o := ⟨none, _, _, _, _, _⟩) rfl (fun K hK => ?_) AllReadyH.nil
    obtain ⟨⟨s7z0, s7c0, s7f0⟩, ⟨s7z1, s7c1, s7f1⟩, _⟩ := hS7.2
    go_simp
    refine hK.out _ _ (by (repeat (first | (with_reducible exact hHeld27) | (refine Keeps.set ?_ (by simp <;> omega) (by simp <;> omega) _)))) (fun hHeld28 => ?_)
    replace hS6 := hS6.mv2 hHeld28 (by first | omega | (simp <;> omega)) (by simp <;> omega)
    (try replace zq := zq.store2 hHeld28 s7c0 s7c1)
    (try replace zr := zr.store2 hHeld28 s7c0 s7c1)
    replace hS7 := hHeld28.add2 s7z0 s7c0 s7f0 s7c1 s7f1
    clear s7z0 s7c0 s7f0 s7z1 s7c1 s7f1
    clear hK K
    try clear hb
    try go_frame
    generalize hGWA22 : World.setCell (World.setCell WA21 ⟨wd.heap.size, 0, none⟩ (.bool br)) ⟨wd.heap.size, 1, none⟩ (.slice Ar nr cr) = WA22 at *
    clear hGWA22
    refine wpAnyH_done (by kernel_rfl) ?_ _
    have hHeld := hHeld28
    rotate_left 1
    exact AllReadyH.nil
    exact AllReadyH.nil
    refine AllReadyH.cons (o := ⟨some 6, _, _, _, _, _⟩) rfl (fun K hK => ?_) ?_
    have lo6 := hHeld0.1.size
    obtain ⟨⟨a6_z0, a6_c0, a6_f0⟩, ⟨a6_z1, a6_c1, a6_f1⟩, ⟨a6_z2, a6_c2, a6_f2⟩, ⟨a6_z3, a6_c3, a6_f3⟩, ⟨a6_z4, a6_c4, a6_f4⟩, ⟨a6_z5, a6_c5, a6_f5⟩, ⟨a6_z6, a6_c6, a6_f6⟩, ⟨a6_z7, a6_c7, a6_f7⟩, _⟩ := hHeld0.2
    (try simp at lo6); (try simp at a6_z0); (try simp at a6_z1); (try simp at a6_z2); (try simp at a6_z3); (try simp at a6_z4); (try simp at a6_z5); (try simp at a6_z6); (try simp at a6_z7)
    go_simp
    refine hK.out _ _ (by first | exact hHeld0.alloc _ | exact (hHeld0.alloc _).drew) (fun hHeld29 => ?_)
    first | have hS6 := newK2 hHeld29 | have hS6 := newK2d hHeld29
    clear hK K
    try clear hb
    try go_frame
    generalize hGWA23 : World.alloc wi (.cells #[.bool false, .slice none 0 0] 97) = WA23 at *
    clear hGWA23
    refine wpAnyH_ready (rs := [3, 9]) (by kernel_rfl) (by simp) ?_
    refine AllReadyH.cons (o := ⟨some 16, _, _, _, _, _⟩) rfl (fun K hK => ?_) ?_
    go_simp
    (first | ((with_reducible refine (ID.out _).mono ?_); rintro e wd ⟨bd, Ad, nd, cd, rfl, hb, zd⟩) | ((with_reducible refine (DV.out _ _ _ (HN.out.below (by first | exact hHeld0.bel | exact hHeld1.bel | exact hHeld2.bel | exact hHeld3.bel | exact hHeld4.bel | exact hHeld5.bel | exact hHeld6.bel | exact hHeld7.bel | exact hHeld8.bel | exact hHeld9.bel | exact hHeld10.bel | exact hHeld11.bel | exact hHeld12.bel | exact hHeld13.bel | exact hHeld14.bel | exact hHeld15.bel | exact hHeld16.bel | exact hHeld17.bel | exact hHeld18.bel | exact hHeld19.bel | exact hHeld20.bel | exact hHeld21.bel | exact hHeld22.bel | exact hHeld23.bel | exact hHeld24.bel | exact hHeld25.bel | exact hHeld26.bel | exact hHeld27.bel | exact hHeld28.bel | exact hHeld29.bel | exact hHeld30.bel | exact hHeld31.bel | exact hHeld32.bel | exact hHeld33.bel | exact hHeld34.bel | exact hHeld35.bel | exact hHeld36.bel | exact hHeld37.bel | exact hHeld38.bel | exact hHeld39.bel | exact hHeld40.bel | exact hHeld41.bel | exact hHeld42.bel | exact hHeld43.bel | exact hHeld44.bel | exact hHeld45.bel | exact hHeld46.bel | exact hHeld47.bel | exact hHeld48.bel | exact hHeld49.bel | exact hHeld50.bel | exact hHeld51.bel | exact hHeld52.bel | exact hHeld53.bel | exact hHeld54.bel | exact hHeld55.bel | exact hHeld56.bel | exact hHeld57.bel | exact hHeld58.bel | exact hHeld59.bel)) zd).mono ?_); rintro e wq ⟨bq, Aq, nq, cq, br, Ar, nr, cr, rfl, hb, zq, zr⟩))
    refine hK.out _ _ (hHeld29.next hb) (fun hHeld30 => ?_)
    replace hS6 := hS6.next hb
    clear hK K
    try clear hb
    try go_frame
    refine wpAnyH_ready (rs := [4, 9]) (by kernel_rfl) (by simp) ?_
    refine AllReadyH.cons (o := ⟨some 17, _, _, _, _, _⟩) rfl (fun K hK => ?_) ?_
    go_simp
    (first | ((with_reducible refine (ID.out _).mono ?_); rintro e wd ⟨bd, Ad, nd, cd, rfl, hb, zd⟩) | ((with_reducible refine (DV.out _ _ _ (HN.out.below (by first | exact hHeld0.bel | exact hHeld1.bel | exact hHeld2.bel | exact hHeld3.bel | exact hHeld4.bel | exact hHeld5.bel | exact hHeld6.bel | exact hHeld7.bel | exact hHeld8.bel | exact hHeld9.bel | exact hHeld10.bel | exact hHeld11.bel | exact hHeld12.bel | exact hHeld13.bel | exact hHeld14.bel | exact hHeld15.bel | exact hHeld16.bel | exact hHeld17.bel | exact hHeld18.bel | exact hHeld19.bel | exact hHeld20.bel | exact hHeld21.bel | exact hHeld22.bel | exact hHeld23.bel | exact hHeld24.bel | exact hHeld25.bel | exact hHeld26.bel | exact hHeld27.bel | exact hHeld28.bel | exact hHeld29.bel | exact hHeld30.bel | exact hHeld31.bel | exact hHeld32.bel | exact hHeld33.bel | exact hHeld34.bel | exact hHeld35.bel | exact hHeld36.bel | exact hHeld37.bel | exact hHeld38.bel | exact hHeld39.bel | exact hHeld40.bel | exact hHeld41.bel | exact hHeld42.bel | exact hHeld43.bel | exact hHeld44.bel | exact hHeld45.bel | exact hHeld46.bel | exact hHeld47.bel | exact hHeld48.bel | exact hHeld49.bel | exact hHeld50.bel | exact hHeld51.bel | exact hHeld52.bel | exact hHeld53.bel | exact hHeld54.bel | exact hHeld55.bel | exact hHeld56.bel | exact hHeld57.bel | exact hHeld58.bel | exact hHeld59.bel)) zd).mono ?_); rintro e wq ⟨bq, Aq, nq, cq, br, Ar, nr, cr, rfl, hb, zq, zr⟩))
    refine hK.out _ _ (hHeld30.next hb) (fun hHeld31 => ?_)
    replace hS6 := hS6.next hb
    (try replace zd := zd.below hb)
    clear hK K
    try clear hb
    try go_frame
    refine wpAnyH_take (i := 5) (oi := ⟨some 12, _, _, _, _, _⟩) (v := ?_) rfl (by kernel_rfl) (by kernel_rfl) (by kernel_rfl) (fun _ _ _ h => h) (Or.inl ⟨by rfl, ?_⟩) (by assumption) ?_
    rotate_left
    · intro wq hSw; go_simp; (try with_reducible rfl)
    try go_frame
    refine wpAnyH_take (i := 6) (oi := ⟨some 18, _, _, _, _, _⟩) (v := ?_) rfl (by kernel_rfl) (by kernel_rfl) (by kernel_rfl) (fun _ _ _ h => h) (Or.inl ⟨by rfl, ?_⟩) (by assumption) ?_
    rotate_left
    · intro wq hSw; go_simp; (try with_reducible rfl)
    try go_frame
    refine wpAnyH_take (i := 7) (oi := ⟨some 19, _, _, _, _, _⟩) (v := ?_) rfl (by kernel_rfl) (by kernel_rfl) (by kernel_rfl) (fun _ _ _ h => h) (Or.inl ⟨by rfl, ?_⟩) (by assumption) ?_
    rotate_left
    · intro wq hSw; go_simp; (try with_reducible rfl)
    try go_frame
    refine wpAnyH_ready (rs := [9]) (by kernel_rfl) (by simp) ?_
    refine AllReadyH.cons (o := ⟨some 7, _, _, _, _, _⟩) rfl (fun K hK => ?_) AllReadyH.nil
    have hne6_7 := hS6.2.1.1
    have lo7 := hHeld31.1.size
    obtain ⟨⟨a7_z0, a7_c0, a7_f0⟩, ⟨a7_z1, a7_c1, a7_f1⟩, ⟨a7_z2, a7_c2, a7_f2⟩, ⟨a7_z3, a7_c3, a7_f3⟩, ⟨a7_z4, a7_c4, a7_f4⟩, ⟨a7_z5, a7_c5, a7_f5⟩, ⟨a7_z6, a7_c6, a7_f6⟩, ⟨a7_z7, a7_c7, a7_f7⟩, _⟩ := hHeld31.2
    (try simp at lo7); (try simp at hne6_7); (try simp at a7_z0); (try simp at a7_z1); (try simp at a7_z2); (try simp at a7_z3); (try simp at a7_z4); (try simp at a7_z5); (try simp at a7_z6); (try simp at a7_z7)
    go_simp
    refine hK.out _ _ (by first | exact hHeld31.alloc _ | exact (hHeld31.alloc _).drew) (fun hHeld32 => ?_)
    first | replace hS6 := hS6.alloc2e hHeld32 | replace hS6 := hS6.alloc2 hHeld32
    (try replace zq := zq.alloc2 hHeld32)
    (try replace zr := zr.alloc2 hHeld32)
    first | have hS7 := newK2 hHeld32 | have hS7 := newK2d hHeld32
    clear hK K
    try clear hb
    try go_frame
    generalize hGWA24 : World.alloc wq (.cells #[.bool false, .slice none 0 0] 97) = WA24 at *
    clear hGWA24
    refine wpAnyH_ready (rs := [10]) (by kernel_rfl) (by simp) ?_
    refine AllReadyH.cons (o := ⟨none, _, _, _, _, _⟩) rfl (fun K hK => ?_) AllReadyH.nil
    obtain ⟨⟨s6z0, s6c0, s6f0⟩, ⟨s6z1, s6c1, s6f1⟩, _⟩ := hS6.2
    go_simp
    refine hK.out _ _ (by (repeat (first | (with_reducible exact hHeld32) | (refine Keeps.set ?_ (by simp <;> omega) (by simp <;> omega) _)))) (fun hHeld33 => ?_)
    replace hS7 := hS7.mv2 hHeld33 (by first | omega | (simp <;> omega)) (by simp <;> omega)
    (try replace zq := zq.store2 hHeld33 s6c0 s6c1)
    (try replace zr := zr.store2 hHeld33 s6c0 s6c1)
    replace hS6 := hHeld33.add2 s6z0 s6c0 s6f0 s6c1 s6f1
    clear s6z0 s6c0 s6f0 s6z1 s6c1 s6f1
    clear hK K
    try clear hb
    try go_frame
    generalize hGWA25 : World.setCell (World.setCell WA24 ⟨wi.heap.size, 0, none⟩ (.bool bq)) ⟨wi.heap.size, 1, none⟩ (.slice Aq nq cq) = WA25 at *
    clear hGWA25
    refine wpAnyH_ready (rs := [11]) (by kernel_rfl) (by simp) ?_
    refine AllReadyH.cons (o := ⟨none, _, _, _, _, _⟩) rfl (fun K hK => ?_) AllReadyH.nil
    obtain ⟨⟨s7z0, s7c0, s7f0⟩, ⟨s7z1, s7c1, s7f1⟩, _⟩ := hS7.2
    go_simp
    refine hK.out _ _ (by (repeat (first | (with_reducible exact hHeld33) | (refine Keeps.set ?_ (by simp <;> omega) (by simp <;> omega) _)))) (fun hHeld34 => ?_)
    replace hS6 := hS6.mv2 hHeld34 (by first | omega | (simp <;> omega)) (by simp <;> omega)
    (try replace zq := zq.store2 hHeld34 s7c0 s7c1)
    (try replace zr := zr.store2 hHeld34 s7c0 s7c1)
    replace hS7 := hHeld34.add2 s7z0 s7c0 s7f0 s7c1 s7f1
    clear s7z0 s7c0 s7f0 s7z1 s7c1 s7f1
    clear hK K
    try clear hb
    try go_frame
    generalize hGWA26 : World.setCell (World.setCell WA25 ⟨wq.heap.size, 0, none⟩ (.bool br)) ⟨wq.heap.size, 1, none⟩ (.slice Ar nr cr) = WA26 at *
    clear hGWA26
    refine wpAnyH_done (by kernel_rfl) ?_ _
    have hHeld := hHeld34
    rotate_left 1
    refine AllReadyH.cons (o := ⟨some 7, _, _, _, _, _⟩) rfl (fun K hK => ?_) ?_
    have hne6_7 := hS6.2.1.1
    have lo7 := hHeld30.1.size
    obtain ⟨⟨a7_z0, a7_c0, a7_f0⟩, ⟨a7_z1, a7_c1, a7_f1⟩, ⟨a7_z2, a7_c2, a7_f2⟩, ⟨a7_z3, a7_c3, a7_f3⟩, ⟨a7_z4, a7_c4, a7_f4⟩, ⟨a7_z5, a7_c5, a7_f5⟩, ⟨a7_z6, a7_c6, a7_f6⟩, ⟨a7_z7, a7_c7, a7_f7⟩, _⟩ := hHeld30.2
    (try simp at lo7); (try simp at hne6_7); (try simp at a7_z0); (try simp at a7_z1); (try simp at a7_z2); (try simp at a7_z3); (try simp at a7_z4); (try simp at a7_z5); (try simp at a7_z6); (try simp at a7_z7)
    go_simp
    refine hK.out _ _ (by first | exact hHeld30.alloc _ | exact (hHeld30.alloc _).drew) (fun hHeld35 => ?_)
    first | replace hS6 := hS6.alloc2e hHeld35 | replace hS6 := hS6.alloc2 hHeld35
    (try replace zd := zd.alloc2 hHeld35)
    first | have hS7 := newK2 hHeld35 | have hS7 := newK2d hHeld35
    clear hK K
    try clear hb
    try go_frame
    generalize hGWA27 : World.alloc wd (.cells #[.bool false, .slice none 0 0] 97) = WA27 at *
    clear hGWA27
    refine wpAnyH_ready (rs := [4]) (by kernel_rfl) (by simp) ?_
    refine AllReadyH.cons (o := ⟨some 17, _, _, _, _, _⟩) rfl (fun K hK => ?_) AllReadyH.nil
    go_simp
    (first | ((with_reducible refine (ID.out _).mono ?_); rintro e wd ⟨bd, Ad, nd, cd, rfl, hb, zd⟩) | ((with_reducible refine (DV.out _ _ _ (HN.out.below (by first | exact hHeld0.bel | exact hHeld1.bel | exact hHeld2.bel | exact hHeld3.bel | exact hHeld4.bel | exact hHeld5.bel | exact hHeld6.bel | exact hHeld7.bel | exact hHeld8.bel | exact hHeld9.bel | exact hHeld10.bel | exact hHeld11.bel | exact hHeld12.bel | exact hHeld13.bel | exact hHeld14.bel | exact hHeld15.bel | exact hHeld16.bel | exact hHeld17.bel | exact hHeld18.bel | exact hHeld19.bel | exact hHeld20.bel | exact hHeld21.bel | exact hHeld22.bel | exact hHeld23.bel | exact hHeld24.bel | exact hHeld25.bel | exact hHeld26.bel | exact hHeld27.bel | exact hHeld28.bel | exact hHeld29.bel | exact hHeld30.bel | exact hHeld31.bel | exact hHeld32.bel | exact hHeld33.bel | exact hHeld34.bel | exact hHeld35.bel | exact hHeld36.bel | exact hHeld37.bel | exact hHeld38.bel | exact hHeld39.bel | exact hHeld40.bel | exact hHeld41.bel | exact hHeld42.bel | exact hHeld43.bel | exact hHeld44.bel | exact hHeld45.bel | exact hHeld46.bel | exact hHeld47.bel | exact hHeld48.bel | exact hHeld49.bel | exact hHeld50.bel | exact hHeld51.bel | exact hHeld52.bel | exact hHeld53.bel | exact hHeld54.bel | exact hHeld55.bel | exact hHeld56.bel | exact hHeld57.bel | exact hHeld58.bel | exact hHeld59.bel)) zd).mono ?_); rintro e wq ⟨bq, Aq, nq, cq, br, Ar, nr, cr, rfl, hb, zq, zr⟩))
    refine hK.out _ _ (hHeld35.next hb) (fun hHeld36 => ?_)
    replace hS6 := hS6.next hb
    replace hS7 := hS7.next hb
    (try replace zd := zd.below hb)
    clear hK K
    try clear hb
    try go_frame
    refine wpAnyH_take (i := 5) (oi := ⟨some 12, _, _, _, _, _⟩) (v := ?_) rfl (by kernel_rfl) (by kernel_rfl) (by kernel_rfl) (fun _ _ _ h => h) (Or.inl ⟨by rfl, ?_⟩) (by assumption) ?_
    rotate_left
    · intro wq hSw; go_simp; (try with_reducible rfl)
    try go_frame
    refine wpAnyH_take (i := 6) (oi := ⟨some 18, _, _, _, _, _⟩) (v := ?_) rfl (by kernel_rfl) (by kernel_rfl) (by kernel_rfl) (fun _ _ _ h => h) (Or.inl ⟨by rfl, ?_⟩) (by assumption) ?_
    rotate_left
    · intro wq hSw; go_simp; (try with_reducible rfl)
    try go_frame
    refine wpAnyH_take (i := 7) (oi := ⟨some 19, _, _, _, _, _⟩) (v := ?_) rfl (by kernel_rfl) (by kernel_rfl) (by kernel_rfl) (fun _ _ _ h => h) (Or.inl ⟨by rfl, ?_⟩) (by assumption) ?_
    rotate_left
    · intro wq hSw; go_simp; (try with_reducible rfl)
    try go_frame
    refine wpAnyH_ready (rs := [10]) (by kernel_rfl) (by simp) ?_
    refine AllReadyH.cons (o := ⟨none, _, _, _, _, _⟩) rfl (fun K hK => ?_) AllReadyH.nil
    obtain ⟨⟨s6z0, s6c0, s6f0⟩, ⟨s6z1, s6c1, s6f1⟩, _⟩ := hS6.2
    go_simp
    refine hK.out _ _ (by (repeat (first | (with_reducible exact hHeld36) | (refine Keeps.set ?_ (by simp <;> omega) (by simp <;> omega) _)))) (fun hHeld37 => ?_)
    replace hS7 := hS7.mv2 hHeld37 (by first | omega | (simp <;> omega)) (by simp <;> omega)
    (try replace zq := zq.store2 hHeld37 s6c0 s6c1)
    (try replace zr := zr.store2 hHeld37 s6c0 s6c1)
    replace hS6 := hHeld37.add2 s6z0 s6c0 s6f0 s6c1 s6f1
    clear s6z0 s6c0 s6f0 s6z1 s6c1 s6f1
    clear hK K
    try clear hb
    try go_frame
    generalize hGWA28 : World.setCell (World.setCell wq ⟨wi.heap.size, 0, none⟩ (.bool bq)) ⟨wi.heap.size, 1, none⟩ (.slice Aq nq cq) = WA28 at *
    clear hGWA28
    refine wpAnyH_ready (rs := [11]) (by kernel_rfl) (by simp) ?_
    refine AllReadyH.cons (o := ⟨none, _, _, _, _, _⟩) rfl (fun K hK => ?_) AllReadyH.nil
    obtain ⟨⟨s7z0, s7c0, s7f0⟩, ⟨s7z1, s7c1, s7f1⟩, _⟩ := hS7.2
    go_simp
    refine hK.out _ _ (by (repeat (first | (with_reducible exact hHeld37) | (refine Keeps.set ?_ (by simp <;> omega) (by simp <;> omega) _)))) (fun hHeld38 => ?_)
    replace hS6 := hS6.mv2 hHeld38 (by first | omega | (simp <;> omega)) (by simp <;> omega)
    (try replace zq := zq.store2 hHeld38 s7c0 s7c1)
    (try replace zr := zr.store2 hHeld38 s7c0 s7c1)
    replace hS7 := hHeld38.add2 s7z0 s7c0 s7f0 s7c1 s7f1
    clear s7z0 s7c0 s7f0 s7z1 s7c1 s7f1
    clear hK K
    try clear hb
    try go_frame
    generalize hGWA29 : World.setCell (World.setCell WA28 ⟨wd.heap.size, 0, none⟩ (.bool br)) ⟨wd.heap.size, 1, none⟩ (.slice Ar nr cr) = WA29 at *
    clear hGWA29
    refine wpAnyH_done (by kernel_rfl) ?_ _
    have hHeld := hHeld38
    rotate_left 1
    exact AllReadyH.nil
    refine AllReadyH.cons (o := ⟨some 7, _, _, _, _, _⟩) rfl (fun K hK => ?_) ?_
    have hne6_7 := hS6.2.1.1
    have lo7 := hHeld29.1.size
    obtain ⟨⟨a7_z0, a7_c0, a7_f0⟩, ⟨a7_z1, a7_c1, a7_f1⟩, ⟨a7_z2, a7_c2, a7_f2⟩, ⟨a7_z3, a7_c3, a7_f3⟩, ⟨a7_z4, a7_c4, a7_f4⟩, ⟨a7_z5, a7_c5, a7_f5⟩, ⟨a7_z6, a7_c6, a7_f6⟩, ⟨a7_z7, a7_c7, a7_f7⟩, _⟩ := hHeld29.2
    (try simp at lo7); (try simp at hne6_7); (try simp at a7_z0); (try simp at a7_z1); (try simp at a7_z2); (try simp at a7_z3); (try simp at a7_z4); (try simp at a7_z5); (try simp at a7_z6); (try simp at a7_z7)
    go_simp
    refine hK.out _ _ (by first | exact hHeld29.alloc _ | exact (hHeld29.alloc _).drew) (fun hHeld39 => ?_)
    first | replace hS6 := hS6.alloc2e hHeld39 | replace hS6 := hS6.alloc2 hHeld39
    first | have hS7 := newK2 hHeld39 | have hS7 := newK2d hHeld39
    clear hK K
    try clear hb
    try go_frame
    generalize hGWA30 : World.alloc WA23 (.cells #[.bool false, .slice none 0 0] 97) = WA30 at *
    clear hGWA30
    refine wpAnyH_ready (rs := [3]) (by kernel_rfl) (by simp) ?_
    refine AllReadyH.cons (o := ⟨some 16, _, _, _, _, _⟩) rfl (fun K hK => ?_) AllReadyH.nil
    go_simp
    (first | ((with_reducible refine (ID.out _).mono ?_); rintro e wd ⟨bd, Ad, nd, cd, rfl, hb, zd⟩) | ((with_reducible refine (DV.out _ _ _ (HN.out.below (by first | exact hHeld0.bel | exact hHeld1.bel | exact hHeld2.bel | exact hHeld3.bel | exact hHeld4.bel | exact hHeld5.bel | exact hHeld6.bel | exact hHeld7.bel | exact hHeld8.bel | exact hHeld9.bel | exact hHeld10.bel | exact hHeld11.bel | exact hHeld12.bel | exact hHeld13.bel | exact hHeld14.bel | exact hHeld15.bel | exact hHeld16.bel | exact hHeld17.bel | exact hHeld18.bel | exact hHeld19.bel | exact hHeld20.bel | exact hHeld21.bel | exact hHeld22.bel | exact hHeld23.bel | exact hHeld24.bel | exact hHeld25.bel | exact hHeld26.bel | exact hHeld27.bel | exact hHeld28.bel | exact hHeld29.bel | exact hHeld30.bel | exact hHeld31.bel | exact hHeld32.bel | exact hHeld33.bel | exact hHeld34.bel | exact hHeld35.bel | exact hHeld36.bel | exact hHeld37.bel | exact hHeld38.bel | exact hHeld39.bel | exact hHeld40.bel | exact hHeld41.bel | exact hHeld42.bel | exact hHeld43.bel | exact hHeld44.bel | exact hHeld45.bel | exact hHeld46.bel | exact hHeld47.bel | exact hHeld48.bel | exact hHeld49.bel | exact hHeld50.bel | exact hHeld51.bel | exact hHeld52.bel | exact hHeld53.bel | exact hHeld54.bel | exact hHeld55.bel | exact hHeld56.bel | exact hHeld57.bel | exact hHeld58.bel | exact hHeld59.bel)) zd).mono ?_); rintro e wq ⟨bq, Aq, nq, cq, br, Ar, nr, cr, rfl, hb, zq, zr⟩))
    refine hK.out _ _ (hHeld39.next hb) (fun hHeld40 => ?_)
    replace hS6 := hS6.next hb
    replace hS7 := hS7.next hb
    clear hK K
    try clear hb
    try go_frame
    refine wpAnyH_ready (rs := [4]) (by kernel_rfl) (by simp) ?_
    refine AllReadyH.cons (o := ⟨some 17, _, _, _, _, _⟩) rfl (fun K hK => ?_) AllReadyH.nil
    go_simp
    (first | ((with_reducible refine (ID.out _).mono ?_); rintro e wd ⟨bd, Ad, nd, cd, rfl, hb, zd⟩) | ((with_reducible refine (DV.out _ _ _ (HN.out.below (by first | exact hHeld0.bel | exact hHeld1.bel | exact hHeld2.bel | exact hHeld3.bel | exact hHeld4.bel | exact hHeld5.bel | exact hHeld6.bel | exact hHeld7.bel | exact hHeld8.bel | exact hHeld9.bel | exact hHeld10.bel | exact hHeld11.bel | exact hHeld12.bel | exact hHeld13.bel | exact hHeld14.bel | exact hHeld15.bel | exact hHeld16.bel | exact hHeld17.bel | exact hHeld18.bel | exact hHeld19.bel | exact hHeld20.bel | exact hHeld21.bel | exact hHeld22.bel | exact hHeld23.bel | exact hHeld24.bel | exact hHeld25.bel | exact hHeld26.bel | exact hHeld27.bel | exact hHeld28.bel | exact hHeld29.bel | exact hHeld30.bel | exact hHeld31.bel | exact hHeld32.bel | exact hHeld33.bel | exact hHeld34.bel | exact hHeld35.bel | exact hHeld36.bel | exact hHeld37.bel | exact hHeld38.bel | exact hHeld39.bel | exact hHeld40.bel | exact hHeld41.bel | exact hHeld42.bel | exact hHeld43.bel | exact hHeld44.bel | exact hHeld45.bel | exact hHeld46.bel | exact hHeld47.bel | exact hHeld48.bel | exact hHeld49.bel | exact hHeld50.bel | exact hHeld51.bel | exact hHeld52.bel | exact hHeld53.bel | exact hHeld54.bel | exact hHeld55.bel | exact hHeld56.bel | exact hHeld57.bel | exact hHeld58.bel | exact hHeld59.bel)) zd).mono ?_); rintro e wq ⟨bq, Aq, nq, cq, br, Ar, nr, cr, rfl, hb, zq, zr⟩))
    refine hK.out _ _ (hHeld40.next hb) (fun hHeld41 => ?_)
    replace hS6 := hS6.next hb
    replace hS7 := hS7.next hb
    (try replace zd := zd.below hb)
    clear hK K
    try clear hb
    try go_frame
    refine wpAnyH_take (i := 5) (oi := ⟨some 12, _, _, _, _, _⟩) (v := ?_) rfl (by kernel_rfl) (by kernel_rfl) (by kernel_rfl) (fun _ _ _ h => h) (Or.inl ⟨by rfl, ?_⟩) (by assumption) ?_
    rotate_left
    · intro wq hSw; go_simp; (try with_reducible rfl)
    try go_frame
    refine wpAnyH_take (i := 6) (oi := ⟨some 18, _, _, _, _, _⟩) (v := ?_) rfl (by kernel_rfl) (by kernel_rfl) (by kernel_rfl) (fun _ _ _ h => h) (Or.inl ⟨by rfl, ?_⟩) (by assumption) ?_
    rotate_left
    · intro wq hSw; go_simp; (try with_reducible rfl)
    try go_frame
    refine wpAnyH_take (i := 7) (oi := ⟨some 19, _, _, _, _, _⟩) (v := ?_) rfl (by kernel_rfl) (by kernel_rfl) (by kernel_rfl) (fun _ _ _ h => h) (Or.inl ⟨by rfl, ?_⟩) (by assumption) ?_
    rotate_left
    · intro wq hSw; go_simp; (try with_reducible rfl)
    try go_frame
    refine wpAnyH_ready (rs := [10]) (by kernel_rfl) (by simp) ?_
    refine AllReadyH.cons (o := ⟨none, _, _, _, _, _⟩) rfl (fun K hK => ?_) AllReadyH.nil
    obtain ⟨⟨s6z0, s6c0, s6f0⟩, ⟨s6z1, s6c1, s6f1⟩, _⟩ := hS6.2
    go_simp
    refine hK.out _ _ (by (repeat (first | (with_reducible exact hHeld41) | (refine Keeps.set ?_ (by simp <;> omega) (by simp <;> omega) _)))) (fun hHeld42 => ?_)
    replace hS7 := hS7.mv2 hHeld42 (by first | omega | (simp <;> omega)) (by simp <;> omega)
    (try replace zq := zq.store2 hHeld42 s6c0 s6c1)
    (try replace zr := zr.store2 hHeld42 s6c0 s6c1)
    replace hS6 := hHeld42.add2 s6z0 s6c0 s6f0 s6c1 s6f1
    clear s6z0 s6c0 s6f0 s6z1 s6c1 s6f1
    clear hK K
    try clear hb
    try go_frame
    generalize hGWA31 : World.setCell (World.setCell wq ⟨wi.heap.size, 0, none⟩ (.bool bq)) ⟨wi.heap.size, 1, none⟩ (.slice Aq nq cq) = WA31 at *
    clear hGWA31
    refine wpAnyH_ready (rs := [11]) (by kernel_rfl) (by simp) ?_
    refine AllReadyH.cons (o := ⟨none, _, _, _, _, _⟩) rfl (fun K hK => ?_) AllReadyH.nil
    obtain ⟨⟨s7z0, s7c0, s7f0⟩, ⟨s7z1, s7c1, s7f1⟩, _⟩ := hS7.2
    go_simp
    refine hK.out _ _ (by (repeat (first | (with_reducible exact hHeld42) | (refine Keeps.set ?_ (by simp <;> omega) (by simp <;> omega) _)))) (fun hHeld43 => ?_)
    replace hS6 := hS6.mv2 hHeld43 (by first | omega | (simp <;> omega)) (by simp <;> omega)
    (try replace zq := zq.store2 hHeld43 s7c0 s7c1)
    (try replace zr := zr.store2 hHeld43 s7c0 s7c1)
    replace hS7 := hHeld43.add2 s7z0 s7c0 s7f0 s7c1 s7f1
    clear s7z0 s7c0 s7f0 s7z1 s7c1 s7f1
    clear hK K
    try clear hb
    try go_frame
    generalize hGWA32 : World.setCell (World.setCell WA31 ⟨WA23.heap.size, 0, none⟩ (.bool br)) ⟨WA23.heap.size, 1, none⟩ (.slice Ar nr cr) = WA32 at *
    clear hGWA32
    refine wpAnyH_done (by kernel_rfl) ?_ _
    have hHeld := hHeld43
    rotate_left 1
    exact AllReadyH.nil
    refine AllReadyH.cons (o := ⟨some 7, _, _, _, _, _⟩) rfl (fun K hK => ?_) ?_
    have lo7 := hHeld0.1.size
    obtain ⟨⟨a7_z0, a7_c0, a7_f0⟩, ⟨a7_z1, a7_c1, a7_f1⟩, ⟨a7_z2, a7_c2, a7_f2⟩, ⟨a7_z3, a7_c3, a7_f3⟩, ⟨a7_z4, a7_c4, a7_f4⟩, ⟨a7_z5, a7_c5, a7_f5⟩, ⟨a7_z6, a7_c6, a7_f6⟩, ⟨a7_z7, a7_c7, a7_f7⟩, _⟩ := hHeld0.2
    (try simp at lo7); (try simp at a7_z0); (try simp at a7_z1); (try simp at a7_z2); (try simp at a7_z3); (try simp at a7_z4); (try simp at a7_z5); (try simp at a7_z6); (try simp at a7_z7)
    go_simp
    refine hK.out _ _ (by first | exact hHeld0.alloc _ | exact (hHeld0.alloc _).drew) (fun hHeld44 => ?_)
    first | have hS7 := newK2 hHeld44 | have hS7 := newK2d hHeld44
    clear hK K
    try clear hb
    try go_frame
    generalize hGWA33 : World.alloc wi (.cells #[.bool false, .slice none 0 0] 97) = WA33 at *
    clear hGWA33
    refine wpAnyH_ready (rs := [3, 8]) (by kernel_rfl) (by simp) ?_
    refine AllReadyH.cons (o := ⟨some 16, _, _, _, _, _⟩) rfl (fun K hK => ?_) ?_
    go_simp
    (first | ((with_reducible refine (ID.out _).mono ?_); rintro e wd ⟨bd, Ad, nd, cd, rfl, hb, zd⟩) | ((with_reducible refine (DV.out _ _ _ (HN.out.below (by first | exact hHeld0.bel | exact hHeld1.bel | exact hHeld2.bel | exact hHeld3.bel | exact hHeld4.bel | exact hHeld5.bel | exact hHeld6.bel | exact hHeld7.bel | exact hHeld8.bel | exact hHeld9.bel | exact hHeld10.bel | exact hHeld11.bel | exact hHeld12.bel | exact hHeld13.bel | exact hHeld14.bel | exact hHeld15.bel | exact hHeld16.bel | exact hHeld17.bel | exact hHeld18.bel | exact hHeld19.bel | exact hHeld20.bel | exact hHeld21.bel | exact hHeld22.bel | exact hHeld23.bel | exact hHeld24.bel | exact hHeld25.bel | exact hHeld26.bel | exact hHeld27.bel | exact hHeld28.bel | exact hHeld29.bel | exact hHeld30.bel | exact hHeld31.bel | exact hHeld32.bel | exact hHeld33.bel | exact hHeld34.bel | exact hHeld35.bel | exact hHeld36.bel | exact hHeld37.bel | exact hHeld38.bel | exact hHeld39.bel | exact hHeld40.bel | exact hHeld41.bel | exact hHeld42.bel | exact hHeld43.bel | exact hHeld44.bel | exact hHeld45.bel | exact hHeld46.bel | exact hHeld47.bel | exact hHeld48.bel | exact hHeld49.bel | exact hHeld50.bel | exact hHeld51.bel | exact hHeld52.bel | exact hHeld53.bel | exact hHeld54.bel | exact hHeld55.bel | exact hHeld56.bel | exact hHeld57.bel | exact hHeld58.bel | exact hHeld59.bel)) zd).mono ?_); rintro e wq ⟨bq, Aq, nq, cq, br, Ar, nr, cr, rfl, hb, zq, zr⟩))
    refine hK.out _ _ (hHeld44.next hb) (fun hHeld45 => ?_)
    replace hS7 := hS7.next hb
    clear hK K
    try clear hb
    try go_frame
    refine wpAnyH_ready (rs := [4, 8]) (by kernel_rfl) (by simp) ?_
    refine AllReadyH.cons (o := ⟨some 17, _, _, _, _, _⟩) rfl (fun K hK => ?_) ?_
    go_simp
    (first | ((with_reducible refine (ID.out _).mono ?_); rintro e wd ⟨bd, Ad, nd, cd, rfl, hb, zd⟩) | ((with_reducible refine (DV.out _ _ _ (HN.out.below (by first | exact hHeld0.bel | exact hHeld1.bel | exact hHeld2.bel | exact hHeld3.bel | exact hHeld4.bel | exact hHeld5.bel | exact hHeld6.bel | exact hHeld7.bel | exact hHeld8.bel | exact hHeld9.bel | exact hHeld10.bel | exact hHeld11.bel | exact hHeld12.bel | exact hHeld13.bel | exact hHeld14.bel | exact hHeld15.bel | exact hHeld16.bel | exact hHeld17.bel | exact hHeld18.bel | exact hHeld19.bel | exact hHeld20.bel | exact hHeld21.bel | exact hHeld22.bel | exact hHeld23.bel | exact hHeld24.bel | exact hHeld25.bel | exact hHeld26.bel | exact hHeld27.bel | exact hHeld28.bel | exact hHeld29.bel | exact hHeld30.bel | exact hHeld31.bel | exact hHeld32.bel | exact hHeld33.bel | exact hHeld34.bel | exact hHeld35.bel | exact hHeld36.bel | exact hHeld37.bel | exact hHeld38.bel | exact hHeld39.bel | exact hHeld40.bel | exact hHeld41.bel | exact hHeld42.bel | exact hHeld43.bel | exact hHeld44.bel | exact hHeld45.bel | exact hHeld46.bel | exact hHeld47.bel | exact hHeld48.bel | exact hHeld49.bel | exact hHeld50.bel | exact hHeld51.bel | exact hHeld52.bel | exact hHeld53.bel | exact hHeld54.bel | exact hHeld55.bel | exact hHeld56.bel | exact hHeld57.bel | exact hHeld58.bel | exact hHeld59.bel)) zd).mono ?_); rintro e wq ⟨bq, Aq, nq, cq, br, Ar, nr, cr, rfl, hb, zq, zr⟩))
    refine hK.out _ _ (hHeld45.next hb) (fun hHeld46 => ?_)
    replace hS7 := hS7.next hb
    (try replace zd := zd.below hb)
    clear hK K
    try clear hb
    try go_frame
    refine wpAnyH_take (i := 5) (oi := ⟨some 12, _, _, _, _, _⟩) (v := ?_) rfl (by kernel_rfl) (by kernel_rfl) (by kernel_rfl) (fun _ _ _ h => h) (Or.inl ⟨by rfl, ?_⟩) (by assumption) ?_
    rotate_left
    · intro wq hSw; go_simp; (try with_reducible rfl)
    try go_frame
    refine wpAnyH_take (i := 6) (oi := ⟨some 18, _, _, _, _, _⟩) (v := ?_) rfl (by kernel_rfl) (by kernel_rfl) (by kernel_rfl) (fun _ _ _ h => h) (Or.inl ⟨by rfl, ?_⟩) (by assumption) ?_
    rotate_left
    · intro wq hSw; go_simp; (try with_reducible rfl)
    try go_frame
    refine wpAnyH_take (i := 7) (oi := ⟨some 19, _, _, _, _, _⟩) (v := ?_) rfl (by kernel_rfl) (by kernel_rfl) (by kernel_rfl) (fun _ _ _ h => h) (Or.inl ⟨by rfl, ?_⟩) (by assumption) ?_
    rotate_left
    · intro wq hSw; go_simp; (try with_reducible rfl)
    try go_frame
    refine wpAnyH_ready (rs := [8]) (by kernel_rfl) (by simp) ?_
    refine AllReadyH.cons (o := ⟨some 6, _, _, _, _, _⟩) rfl (fun K hK => ?_) AllReadyH.nil
    have hne7_6 := hS7.2.1.1
    have lo6 := hHeld46.1.size
    obtain ⟨⟨a6_z0, a6_c0, a6_f0⟩, ⟨a6_z1, a6_c1, a6_f1⟩, ⟨a6_z2, a6_c2, a6_f2⟩, ⟨a6_z3, a6_c3, a6_f3⟩, ⟨a6_z4, a6_c4, a6_f4⟩, ⟨a6_z5, a6_c5, a6_f5⟩, ⟨a6_z6, a6_c6, a6_f6⟩, ⟨a6_z7, a6_c7, a6_f7⟩, _⟩ := hHeld46.2
    (try simp at lo6); (try simp at hne7_6); (try simp at a6_z0); (try simp at a6_z1); (try simp at a6_z2); (try simp at a6_z3); (try simp at a6_z4); (try simp at a6_z5); (try simp at a6_z6); (try simp at a6_z7)
    go_simp
    refine hK.out _ _ (by first | exact hHeld46.alloc _ | exact (hHeld46.alloc _).drew) (fun hHeld47 => ?_)
    first | replace hS7 := hS7.alloc2e hHeld47 | replace hS7 := hS7.alloc2 hHeld47
    (try replace zq := zq.alloc2 hHeld47)
    (try replace zr := zr.alloc2 hHeld47)
    first | have hS6 := newK2 hHeld47 | have hS6 := newK2d hHeld47
    clear hK K
    try clear hb
    try go_frame
    generalize hGWA34 : World.alloc wq (.cells #[.bool false, .slice none 0 0] 97) = WA34 at *
    clear hGWA34
    refine wpAnyH_ready (rs := [10]) (by kernel_rfl) (by simp) ?_
    refine AllReadyH.cons (o := ⟨none, _, _, _, _, _⟩) rfl (fun K hK => ?_) AllReadyH.nil
    obtain ⟨⟨s6z0, s6c0, s6f0⟩, ⟨s6z1, s6c1, s6f1⟩, _⟩ := hS6.2
    go_simp
    refine hK.out _ _ (by (repeat (first | (with_reducible exact hHeld47) | (refine Keeps.set ?_ (by simp <;> omega) (by simp <;> omega) _)))) (fun hHeld48 => ?_)
    replace hS7 := hS7.mv2 hHeld48 (by first | omega | (simp <;> omega)) (by simp <;> omega)
    (try replace zq := zq.store2 hHeld48 s6c0 s6c1)
    (try replace zr := zr.store2 hHeld48 s6c0 s6c1)
    replace hS6 := hHeld48.add2 s6z0 s6c0 s6f0 s6c1 s6f1
    clear s6z0 s6c0 s6f0 s6z1 s6c1 s6f1
    clear hK K
    try clear hb
    try go_frame
    generalize hGWA35 : World.setCell (World.setCell WA34 ⟨wq.heap.size, 0, none⟩ (.bool bq)) ⟨wq.heap.size, 1, none⟩ (.slice Aq nq cq) = WA35 at *
    clear hGWA35
    refine wpAnyH_ready (rs := [11]) (by kernel_rfl) (by simp) ?_
    refine AllReadyH.cons (o := ⟨none, _, _, _, _, _⟩) rfl (fun K hK => ?_) AllReadyH.nil
    obtain ⟨⟨s7z0, s7c0, s7f0⟩, ⟨s7z1, s7c1, s7f1⟩, _⟩ := hS7.2
    go_simp
    refine hK.out _ _ (by (repeat (first | (with_reducible exact hHeld48) | (refine Keeps.set ?_ (by simp <;> omega) (by simp <;> omega) _)))) (fun hHeld49 => ?_)
    replace hS6 := hS6.mv2 hHeld49 (by first | omega | (simp <;> omega)) (by simp <;> omega)
    (try replace zq := zq.store2 hHeld49 s7c0 s7c1)
    (try replace zr := zr.store2 hHeld49 s7c0 s7c1)
    replace hS7 := hHeld49.add2 s7z0 s7c0 s7f0 s7c1 s7f1
    clear s7z0 s7c0 s7f0 s7z1 s7c1 s7f1
    clear hK K
    try clear hb
    try go_frame
    generalize hGWA36 : World.setCell (World.setCell WA35 ⟨wi.heap.size, 0, none⟩ (.bool br)) ⟨wi.heap.size, 1, none⟩ (.slice Ar nr cr) = WA36 at *
    clear hGWA36
    refine wpAnyH_done (by kernel_rfl) ?_ _
    have hHeld := hHeld49
    rotate_left 1
    refine AllReadyH.cons (o := ⟨some 6, _, _, _, _, _⟩) rfl (fun K hK => ?_) ?_
    have hne7_6 := hS7.2.1.1
    have lo6 := hHeld45.1.size
    obtain ⟨⟨a6_z0, a6_c0, a6_f0⟩, ⟨a6_z1, a6_c1, a6_f1⟩, ⟨a6_z2, a6_c2, a6_f2⟩, ⟨a6_z3, a6_c3, a6_f3⟩, ⟨a6_z4, a6_c4, a6_f4⟩, ⟨a6_z5, a6_c5, a6_f5⟩, ⟨a6_z6, a6_c6, a6_f6⟩, ⟨a6_z7, a6_c7, a6_f7⟩, _⟩ := hHeld45.2
    (try simp at lo6); (try simp at hne7_6); (try simp at a6_z0); (try simp at a6_z1); (try simp at a6_z2); (try simp at a6_z3); (try simp at a6_z4); (try simp at a6_z5); (try simp at a6_z6); (try simp at a6_z7)
    go_simp
    refine hK.out _ _ (by first | exact hHeld45.alloc _ | exact (hHeld45.alloc _).drew) (fun hHeld50 => ?_)
    first | replace hS7 := hS7.alloc2e hHeld50 | replace hS7 := hS7.alloc2 hHeld50
    (try replace zd := zd.alloc2 hHeld50)
    first | have hS6 := newK2 hHeld50 | have hS6 := newK2d hHeld50
    clear hK K
    try clear hb
    try go_frame
    generalize hGWA37 : World.alloc wd (.cells #[.bool false, .slice none 0 0] 97) = WA37 at *
    clear hGWA37
    refine wpAnyH_ready (rs := [4]) (by kernel_rfl) (by simp) ?_
    refine AllReadyH.cons (o := ⟨some 17, _, _, _, _, _⟩) rfl (fun K hK => ?_) AllReadyH.nil
    go_simp
    (first | ((with_reducible refine (ID.out _).mono ?_); rintro e wd ⟨bd, Ad, nd, cd, rfl, hb, zd⟩) | ((with_reducible refine (DV.out _ _ _ (HN.out.below (by first | exact hHeld0.bel | exact hHeld1.bel | exact hHeld2.bel | exact hHeld3.bel | exact hHeld4.bel | exact hHeld5.bel | exact hHeld6.bel | exact hHeld7.bel | exact hHeld8.bel | exact hHeld9.bel | exact hHeld10.bel | exact hHeld11.bel | exact hHeld12.bel | exact hHeld13.bel | exact hHeld14.bel | exact hHeld15.bel | exact hHeld16.bel | exact hHeld17.bel | exact hHeld18.bel | exact hHeld19.bel | exact hHeld20.bel | exact hHeld21.bel | exact hHeld22.bel | exact hHeld23.bel | exact hHeld24.bel | exact hHeld25.bel | exact hHeld26.bel | exact hHeld27.bel | exact hHeld28.bel | exact hHeld29.bel | exact hHeld30.bel | exact hHeld31.bel | exact hHeld32.bel | exact hHeld33.bel | exact hHeld34.bel | exact hHeld35.bel | exact hHeld36.bel | exact hHeld37.bel | exact hHeld38.bel | exact hHeld39.bel | exact hHeld40.bel | exact hHeld41.bel | exact hHeld42.bel | exact hHeld43.bel | exact hHeld44.bel | exact hHeld45.bel | exact hHeld46.bel | exact hHeld47.bel | exact hHeld48.bel | exact hHeld49.bel | exact hHeld50.bel | exact hHeld51.bel | exact hHeld52.bel | exact hHeld53.bel | exact hHeld54.bel | exact hHeld55.bel | exact hHeld56.bel | exact hHeld57.bel | exact hHeld58.bel | exact hHeld59.bel)) zd).mono ?_); rintro e wq ⟨bq, Aq, nq, cq, br, Ar, nr, cr, rfl, hb, zq, zr⟩))
    refine hK.out _ _ (hHeld50.next hb) (fun hHeld51 => ?_)
    replace hS7 := hS7.next hb
    replace hS6 := hS6.next hb
    (try replace zd := zd.below hb)
    clear hK K
    try clear hb
    try go_frame
    refine wpAnyH_take (i := 5) (oi := ⟨some 12, _, _, _, _, _⟩) (v := ?_) rfl (by kernel_rfl) (by kernel_rfl) (by kernel_rfl) (fun _ _ _ h => h) (Or.inl ⟨by rfl, ?_⟩) (by assumption) ?_
    rotate_left
    · intro wq hSw; go_simp; (try with_reducible rfl)
    try go_frame
    refine wpAnyH_take (i := 6) (oi := ⟨some 18, _, _, _, _, _⟩) (v := ?_) rfl (by kernel_rfl) (by kernel_rfl) (by kernel_rfl) (fun _ _ _ h => h) (Or.inl ⟨by rfl, ?_⟩) (by assumption) ?_
    rotate_left
    · intro wq hSw; go_simp; (try with_reducible rfl)
    try go_frame
    refine wpAnyH_take (i := 7) (oi := ⟨some 19, _, _, _, _, _⟩) (v := ?_) rfl (by kernel_rfl) (by kernel_rfl) (by kernel_rfl) (fun _ _ _ h => h) (Or.inl ⟨by rfl, ?_⟩) (by assumption) ?_
    rotate_left
    · intro wq hSw; go_simp; (try with_reducible rfl)
    try go_frame
    refine wpAnyH_ready (rs := [10]) (by kernel_rfl) (by simp) ?_
    refine AllReadyH.cons (o := ⟨none, _, _, _, _, _⟩) rfl (fun K hK => ?_) AllReadyH.nil
    obtain ⟨⟨s6z0, s6c0, s6f0⟩, ⟨s6z1, s6c1, s6f1⟩, _⟩ := hS6.2
    go_simp
    refine hK.out _ _ (by (repeat (first | (with_reducible exact hHeld51) | (refine Keeps.set ?_ (by simp <;> omega) (by simp <;> omega) _)))) (fun hHeld52 => ?_)
    replace hS7 := hS7.mv2 hHeld52 (by first | omega | (simp <;> omega)) (by simp <;> omega)
    (try replace zq := zq.store2 hHeld52 s6c0 s6c1)
    (try replace zr := zr.store2 hHeld52 s6c0 s6c1)
    replace hS6 := hHeld52.add2 s6z0 s6c0 s6f0 s6c1 s6f1
    clear s6z0 s6c0 s6f0 s6z1 s6c1 s6f1
    clear hK K
    try clear hb
    try go_frame
    generalize hGWA38 : World.setCell (World.setCell wq ⟨wd.heap.size, 0, none⟩ (.bool bq)) ⟨wd.heap.size, 1, none⟩ (.slice Aq nq cq) = WA38 at *
    clear hGWA38
    refine wpAnyH_ready (rs := [11]) (by kernel_rfl) (by simp) ?_
    refine AllReadyH.cons (o := ⟨none, _, _, _, _, _⟩) rfl (fun K hK => ?_) AllReadyH.nil
    obtain ⟨⟨s7z0, s7c0, s7f0⟩, ⟨s7z1, s7c1, s7f1⟩, _⟩ := hS7.2
    go_simp
    refine hK.out _ _ (by (repeat (first | (with_reducible exact hHeld52) | (refine Keeps.set ?_ (by simp <;> omega) (by simp <;> omega) _)))) (fun hHeld53 => ?_)
    replace hS6 := hS6.mv2 hHeld53 (by first | omega | (simp <;> omega)) (by simp <;> omega)
    (try replace zq := zq.store2 hHeld53 s7c0 s7c1)
    (try replace zr := zr.store2 hHeld53 s7c0 s7c1)
    replace hS7 := hHeld53.add2 s7z0 s7c0 s7f0 s7c1 s7f1
    clear s7z0 s7c0 s7f0 s7z1 s7c1 s7f1
    clear hK K
    try clear hb
    try go_frame
    generalize hGWA39 : World.setCell (World.setCell WA38 ⟨wi.heap.size, 0, none⟩ (.bool br)) ⟨wi.heap.size, 1, none⟩ (.slice Ar nr cr) = WA39 at *
    clear hGWA39
    refine wpAnyH_done (by kernel_rfl) ?_ _
    have hHeld := hHeld53
    rotate_left 1
    exact AllReadyH.nil
    refine AllReadyH.cons (o := ⟨some 6, _, _, _, _, _⟩) rfl (fun K hK => ?_) ?_
    have hne7_6 := hS7.2.1.1
    have lo6 := hHeld44.1.size
    obtain ⟨⟨a6_z0, a6_c0, a6_f0⟩, ⟨a6_z1, a6_c1, a6_f1⟩, ⟨a6_z2, a6_c2, a6_f2⟩, ⟨a6_z3, a6_c3, a6_f3⟩, ⟨a6_z4, a6_c4, a6_f4⟩, ⟨a6_z5, a6_c5, a6_f5⟩, ⟨a6_z6, a6_c6, a6_f6⟩, ⟨a6_z7, a6_c7, a6_f7⟩, _⟩ := hHeld44.2
    (try simp at lo6); (try simp at hne7_6); (try simp at a6_z0); (try simp at a6_z1); (try simp at a6_z2); (try simp at a6_z3); (try simp at a6_z4); (try simp at a6_z5); (try simp at a6_z6); (try simp at a6_z7)
    go_simp
    refine hK.out _ _ (by first | exact hHeld44.alloc _ | exact (hHeld44.alloc _).drew) (fun hHeld54 => ?_)
    first | replace hS7 := hS7.alloc2e hHeld54 | replace hS7 := hS7.alloc2 hHeld54
    first | have hS6 := newK2 hHeld54 | have hS6 := newK2d hHeld54
    clear hK K
    try clear hb
    try go_frame
    generalize hGWA40 : World.alloc WA33 (.cells #[.bool false, .slice none 0 0] 97) = WA40 at *
    clear hGWA40
    refine wpAnyH_ready (rs := [3]) (by kernel_rfl) (by simp) ?_
    refine AllReadyH.cons (o := ⟨some 16, _, _, _, _, _⟩) rfl (fun K hK => ?_) AllReadyH.nil
    go_simp
    (first | ((with_reducible refine (ID.out _).mono ?_); rintro e wd ⟨bd, Ad, nd, cd, rfl, hb, zd⟩) | ((with_reducible refine (DV.out _ _ _ (HN.out.below (by first | exact hHeld0.bel | exact hHeld1.bel | exact hHeld2.bel | exact hHeld3.bel | exact hHeld4.bel | exact hHeld5.bel | exact hHeld6.bel | exact hHeld7.bel | exact hHeld8.bel | exact hHeld9.bel | exact hHeld10.bel | exact hHeld11.bel | exact hHeld12.bel | exact hHeld13.bel | exact hHeld14.bel | exact hHeld15.bel | exact hHeld16.bel | exact hHeld17.bel | exact hHeld18.bel | exact hHeld19.bel | exact hHeld20.bel | exact hHeld21.bel | exact hHeld22.bel | exact hHeld23.bel | exact hHeld24.bel | exact hHeld25.bel | exact hHeld26.bel | exact hHeld27.bel | exact hHeld28.bel | exact hHeld29.bel | exact hHeld30.bel | exact hHeld31.bel | exact hHeld32.bel | exact hHeld33.bel | exact hHeld34.bel | exact hHeld35.bel | exact hHeld36.bel | exact hHeld37.bel | exact hHeld38.bel | exact hHeld39.bel | exact hHeld40.bel | exact hHeld41.bel | exact hHeld42.bel | exact hHeld43.bel | exact hHeld44.bel | exact hHeld45.bel | exact hHeld46.bel | exact hHeld47.bel | exact hHeld48.bel | exact hHeld49.bel | exact hHeld50.bel | exact hHeld51.bel | exact hHeld52.bel | exact hHeld53.bel | exact hHeld54.bel | exact hHeld55.bel | exact hHeld56.bel | exact hHeld57.bel | exact hHeld58.bel | exact hHeld59.bel)) zd).mono ?_); rintro e wq ⟨bq, Aq, nq, cq, br, Ar, nr, cr, rfl, hb, zq, zr⟩))
    refine hK.out _ _ (hHeld54.next hb) (fun hHeld55 => ?_)
    replace hS7 := hS7.next hb
    replace hS6 := hS6.next hb
    clear hK K
    try clear hb
    try go_frame
    refine wpAnyH_ready (rs := [4]) (by kernel_rfl) (by simp) ?_
    refine AllReadyH.cons (o := ⟨some 17, _, _, _, _, _⟩) rfl (fun K hK => ?_) AllReadyH.nil
    go_simp
    (first | ((with_reducible refine (ID.out _).mono ?_); rintro e wd ⟨bd, Ad, nd, cd, rfl, hb, zd⟩) | ((with_reducible refine (DV.out _ _ _ (HN.out.below (by first | exact hHeld0.bel | exact hHeld1.bel | exact hHeld2.bel | exact hHeld3.bel | exact hHeld4.bel | exact hHeld5.bel | exact hHeld6.bel | exact hHeld7.bel | exact hHeld8.bel | exact hHeld9.bel | exact hHeld10.bel | exact hHeld11.bel | exact hHeld12.bel | exact hHeld13.bel | exact hHeld14.bel | exact hHeld15.bel | exact hHeld16.bel | exact hHeld17.bel | exact hHeld18.bel | exact hHeld19.bel | exact hHeld20.bel | exact hHeld21.bel | exact hHeld22.bel | exact hHeld23.bel | exact hHeld24.bel | exact hHeld25.bel | exact hHeld26.bel | exact hHeld27.bel | exact hHeld28.bel | exact hHeld29.bel | exact hHeld30.bel | exact hHeld31.bel | exact hHeld32.bel | exact hHeld33.bel | exact hHeld34.bel | exact hHeld35.bel | exact hHeld36.bel | exact hHeld37.bel | exact hHeld38.bel | exact hHeld39.bel | exact hHeld40.bel | exact hHeld41.bel | exact hHeld42.bel | exact hHeld43.bel | exact hHeld44.bel | exact hHeld45.bel | exact hHeld46.bel | exact hHeld47.bel | exact hHeld48.bel | exact hHeld49.bel | exact hHeld50.bel | exact hHeld51.bel | exact hHeld52.bel | exact hHeld53.bel | exact hHeld54.bel | exact hHeld55.bel | exact hHeld56.bel | exact hHeld57.bel | exact hHeld58.bel | exact hHeld59.bel)) zd).mono ?_); rintro e wq ⟨bq, Aq, nq, cq, br, Ar, nr, cr, rfl, hb, zq, zr⟩))
    refine hK.out _ _ (hHeld55.next hb) (fun hHeld56 => ?_)
    replace hS7 := hS7.next hb
    replace hS6 := hS6.next hb
    (try replace zd := zd.below hb)
    clear hK K
    try clear hb
    try go_frame
    refine wpAnyH_take (i := 5) (oi := ⟨some 12, _, _, _, _, _⟩) (v := ?_) rfl (by kernel_rfl) (by kernel_rfl) (by kernel_rfl) (fun _ _ _ h => h) (Or.inl ⟨by rfl, ?_⟩) (by assumption) ?_
    rotate_left
    · intro wq hSw; go_simp; (try with_reducible rfl)
    try go_frame
    refine wpAnyH_take (i := 6) (oi := ⟨some 18, _, _, _, _, _⟩) (v := ?_) rfl (by kernel_rfl) (by kernel_rfl) (by kernel_rfl) (fun _ _ _ h => h) (Or.inl ⟨by rfl, ?_⟩) (by assumption) ?_
    rotate_left
    · intro wq hSw; go_simp; (try with_reducible rfl)
    try go_frame
    refine wpAnyH_take (i := 7) (oi := ⟨some 19, _, _, _, _, _⟩) (v := ?_) rfl (by kernel_rfl) (by kernel_rfl) (by kernel_rfl) (fun _ _ _ h => h) (Or.inl ⟨by rfl, ?_⟩) (by assumption) ?_
    rotate_left
    · intro wq hSw; go_simp; (try with_reducible rfl)
    try go_frame
    refine wpAnyH_ready (rs := [10]) (by kernel_rfl) (by simp) ?_
    refine AllReadyH.cons (o := ⟨none, _, _, _, _, _⟩) rfl (fun K hK => ?_) AllReadyH.nil
    obtain ⟨⟨s6z0, s6c0, s6f0⟩, ⟨s6z1, s6c1, s6f1⟩, _⟩ := hS6.2
    go_simp
    refine hK.out _ _ (by (repeat (first | (with_reducible exact hHeld56) | (refine Keeps.set ?_ (by simp <;> omega) (by simp <;> omega) _)))) (fun hHeld57 => ?_)
    replace hS7 := hS7.mv2 hHeld57 (by first | omega | (simp <;> omega)) (by simp <;> omega)
    (try replace zq := zq.store2 hHeld57 s6c0 s6c1)
    (try replace zr := zr.store2 hHeld57 s6c0 s6c1)
    replace hS6 := hHeld57.add2 s6z0 s6c0 s6f0 s6c1 s6f1
    clear s6z0 s6c0 s6f0 s6z1 s6c1 s6f1
    clear hK K
    try clear hb
    try go_frame
    generalize hGWA41 : World.setCell (World.setCell wq ⟨WA33.heap.size, 0, none⟩ (.bool bq)) ⟨WA33.heap.size, 1, none⟩ (.slice Aq nq cq) = WA41 at *
    clear hGWA41
    refine wpAnyH_ready (rs := [11]) (by kernel_rfl) (by simp) ?_
    refine AllReadyH.cons (o := ⟨none, _, _, _, _, _⟩) rfl (fun K hK => ?_) AllReadyH.nil
    obtain ⟨⟨s7z0, s7c0, s7f0⟩, ⟨s7z1, s7c1, s7f1⟩, _⟩ := hS7.2
    go_simp
    refine hK.out _ _ (by (repeat (first | (with_reducible exact hHeld57) | (refine Keeps.set ?_ (by simp <;> omega) (by simp <;> omega) _)))) (fun hHeld58 => ?_)
    replace hS6 := hS6.mv2 hHeld58 (by first | omega | (simp <;> omega)) (by simp <;> omega)
    (try replace zq := zq.store2 hHeld58 s7c0 s7c1)
    (try replace zr := zr.store2 hHeld58 s7c0 s7c1)
    replace hS7 := hHeld58.add2 s7z0 s7c0 s7f0 s7c1 s7f1
    clear s7z0 s7c0 s7f0 s7z1 s7c1 s7f1
    clear hK K
    try clear hb
    try go_frame
    generalize hGWA42 : World.setCell (World.setCell WA41 ⟨wi.heap.size, 0, none⟩ (.bool br)) ⟨wi.heap.size, 1, none⟩ (.slice Ar nr cr) = WA42 at *
    clear hGWA42
    refine wpAnyH_done (by kernel_rfl) ?_ _
    have hHeld := hHeld58
    rotate_left 1
    exact AllReadyH.nil
    exact AllReadyH.nil
    all_goals
      go_wp2_with fail
      go_meet
      case rel => exact ⟨_, _, _, _, _, _, _, _, _, _, rfl, rfl, Lib.hid zq, Lib.hid zr, hS6.1, hS6.2.1, hS6.2.2.1, hS7.2.1, hS7.2.2.1, hS6.2.2.2⟩
  case rest =>
    obtain ⟨g, b, A, k, c, g', b', A', k', c', rfl, rfl, HZ, HR, hHeld⟩ := hcut
    obtain ⟨⟨kz0, kc0, kf0⟩, ⟨kz1, kc1, kf1⟩, ⟨kz2, kc2, kf2⟩, ⟨kz3, kc3, kf3⟩, ⟨kz4, kc4, kf4⟩, ⟨kz5, kc5, kf5⟩, ⟨kz6, kc6, kf6⟩, ⟨kz7, kc7, kf7⟩, ⟨kz8, kc8, kf8⟩, ⟨kz9, kc9, kf9⟩, ⟨kz10, kc10, kf10⟩, ⟨kz11, kc11, kf11⟩, _⟩ := hHeld.2
    have VB := Lib.hid (VA.out _ wc HZ.out)
    clear VA HZ
    rcases cs with ⟨rfl, rfl⟩ | ⟨rfl, rfl⟩
    · clear BK VR HR
      rcases H with ⟨_, rfl, rfl, rfl, rfl, rfl⟩ | ⟨h, _⟩
      · skip
        go_wp2_with fail
        refine VB.out.mono ?_
        skip
        rintro e w2 ⟨rfl, hb⟩
        replace hHeld := Keeps.next (hHeld) hb
        clear hb kz0 kc0 kf0 kz1 kc1 kf1 kz2 kc2 kf2 kz3 kc3 kf3 kz4 kc4 kf4 kz5 kc5 kf5 kz6 kc6 kf6 kz7 kc7 kf7 kz8 kc8 kf8 kz9 kc9 kf9 kz10 kc10 kf10 kz11 kc11 kf11
        obtain ⟨⟨kz0, kc0, kf0⟩, ⟨kz1, kc1, kf1⟩, ⟨kz2, kc2, kf2⟩, ⟨kz3, kc3, kf3⟩, ⟨kz4, kc4, kf4⟩, ⟨kz5, kc5, kf5⟩, ⟨kz6, kc6, kf6⟩, ⟨kz7, kc7, kf7⟩, ⟨kz8, kc8, kf8⟩, ⟨kz9, kc9, kf9⟩, ⟨kz10, kc10, kf10⟩, ⟨kz11, kc11, kf11⟩, _⟩ := hHeld.2
        go_wp2_with fail
        obtain ⟨d0, d1, d2, d3⟩ := set4 (W := w2) (B := w.heap.size + 2) (u0 := .int .i64 0) (u1 := .int .i64 0) (u2 := .int .i64 0) (u3 := .int .i64 0) kc8 kc9 kc10 kc11
        refine bodyPost_ret (v := .tuple #[lnV 0 0 0 0, .bool false]) (by simp [results, Tryz.results64, go_sem, d0, d1, d2, d3]) rfl ?_
        exact ⟨rfl, by first | (with_reducible exact hHeld.1) | (have hB := hHeld.1; have hz := hB.size; go_grown)⟩
      · cases h
    · rcases H with ⟨rfl, rfl, rfl, rfl, rfl, rfl⟩ | ⟨rfl, rfl, rfl, rfl, rfl, rfl⟩
      · replace BK := Lib.hid BK
        clear VR HR
        go_wp2_with fail
        refine VB.out.mono ?_
        skip
        rintro e w2 ⟨rfl, hb⟩
        replace hHeld := Keeps.next (hHeld) hb
        clear hb kz0 kc0 kf0 kz1 kc1 kf1 kz2 kc2 kf2 kz3 kc3 kf3 kz4 kc4 kf4 kz5 kc5 kf5 kz6 kc6 kf6 kz7 kc7 kf7 kz8 kc8 kf8 kz9 kc9 kf9 kz10 kc10 kf10 kz11 kc11 kf11
        obtain ⟨⟨kz0, kc0, kf0⟩, ⟨kz1, kc1, kf1⟩, ⟨kz2, kc2, kf2⟩, ⟨kz3, kc3, kf3⟩, ⟨kz4, kc4, kf4⟩, ⟨kz5, kc5, kf5⟩, ⟨kz6, kc6, kf6⟩, ⟨kz7, kc7, kf7⟩, ⟨kz8, kc8, kf8⟩, ⟨kz9, kc9, kf9⟩, ⟨kz10, kc10, kf10⟩, ⟨kz11, kc11, kf11⟩, _⟩ := hHeld.2
        go_wp2_with fail
        refine (BK.out _).mono ?_
        rintro e w3 ⟨rfl, hb⟩
        replace hHeld := Keeps.next (hHeld) hb
        clear hb kz0 kc0 kf0 kz1 kc1 kf1 kz2 kc2 kf2 kz3 kc3 kf3 kz4 kc4 kf4 kz5 kc5 kf5 kz6 kc6 kf6 kz7 kc7 kf7 kz8 kc8 kf8 kz9 kc9 kf9 kz10 kc10 kf10 kz11 kc11 kf11
        obtain ⟨⟨kz0, kc0, kf0⟩, ⟨kz1, kc1, kf1⟩, ⟨kz2, kc2, kf2⟩, ⟨kz3, kc3, kf3⟩, ⟨kz4, kc4, kf4⟩, ⟨kz5, kc5, kf5⟩, ⟨kz6, kc6, kf6⟩, ⟨kz7, kc7, kf7⟩, ⟨kz8, kc8, kf8⟩, ⟨kz9, kc9, kf9⟩, ⟨kz10, kc10, kf10⟩, ⟨kz11, kc11, kf11⟩, _⟩ := hHeld.2
        go_wp2_with fail
        obtain ⟨d0, d1, d2, d3⟩ := set4 (W := w3) (B := w.heap.size + 2) (u0 := .int .i64 0) (u1 := .int .i64 0) (u2 := .int .i64 0) (u3 := .int .i64 0) kc8 kc9 kc10 kc11
        refine bodyPost_ret (v := .tuple #[lnV 0 0 0 0, .bool false]) (by simp [results, Tryz.results64, go_sem, d0, d1, d2, d3]) rfl ?_
        exact ⟨rfl, by first | (with_reducible exact hHeld.1) | (have hB := hHeld.1; have hz := hB.size; go_grown)⟩
      · replace BK := Lib.hid BK
        go_wp2_with fail
        refine VB.out.mono ?_
        rintro e w2 ⟨rfl, hb⟩
        replace HR := Lib.hid (HR.out.below hb)
        replace hHeld := hHeld.next hb
        clear hb kz0 kc0 kf0 kz1 kc1 kf1 kz2 kc2 kf2 kz3 kc3 kf3 kz4 kc4 kf4 kz5 kc5 kf5 kz6 kc6 kf6 kz7 kc7 kf7 kz8 kc8 kf8 kz9 kc9 kf9 kz10 kc10 kf10 kz11 kc11 kf11
        obtain ⟨⟨kz0, kc0, kf0⟩, ⟨kz1, kc1, kf1⟩, ⟨kz2, kc2, kf2⟩, ⟨kz3, kc3, kf3⟩, ⟨kz4, kc4, kf4⟩, ⟨kz5, kc5, kf5⟩, ⟨kz6, kc6, kf6⟩, ⟨kz7, kc7, kf7⟩, ⟨kz8, kc8, kf8⟩, ⟨kz9, kc9, kf9⟩, ⟨kz10, kc10, kf10⟩, ⟨kz11, kc11, kf11⟩, _⟩ := hHeld.2
        go_wp2_with fail
        refine (BK.out _).mono ?_
        rintro e w3 ⟨rfl, hb⟩
        replace HR := Lib.hid (HR.out.below hb)
        replace hHeld := hHeld.next hb
        clear hb kz0 kc0 kf0 kz1 kc1 kf1 kz2 kc2 kf2 kz3 kc3 kf3 kz4 kc4 kf4 kz5 kc5 kf5 kz6 kc6 kf6 kz7 kc7 kf7 kz8 kc8 kf8 kz9 kc9 kf9 kz10 kc10 kf10 kz11 kc11 kf11
        obtain ⟨⟨kz0, kc0, kf0⟩, ⟨kz1, kc1, kf1⟩, ⟨kz2, kc2, kf2⟩, ⟨kz3, kc3, kf3⟩, ⟨kz4, kc4, kf4⟩, ⟨kz5, kc5, kf5⟩, ⟨kz6, kc6, kf6⟩, ⟨kz7, kc7, kf7⟩, ⟨kz8, kc8, kf8⟩, ⟨kz9, kc9, kf9⟩, ⟨kz10, kc10, kf10⟩, ⟨kz11, kc11, kf11⟩, _⟩ := hHeld.2
        go_wp2_with fail
        refine (VR.out _ _ HR.out).mono ?_
        skip
        rintro e w4 ⟨rfl, hb⟩
        replace hHeld := Keeps.next (hHeld) hb
        clear hb kz0 kc0 kf0 kz1 kc1 kf1 kz2 kc2 kf2 kz3 kc3 kf3 kz4 kc4 kf4 kz5 kc5 kf5 kz6 kc6 kf6 kz7 kc7 kf7 kz8 kc8 kf8 kz9 kc9 kf9 kz10 kc10 kf10 kz11 kc11 kf11
        obtain ⟨⟨kz0, kc0, kf0⟩, ⟨kz1, kc1, kf1⟩, ⟨kz2, kc2, kf2⟩, ⟨kz3, kc3, kf3⟩, ⟨kz4, kc4, kf4⟩, ⟨kz5, kc5, kf5⟩, ⟨kz6, kc6, kf6⟩, ⟨kz7, kc7, kf7⟩, ⟨kz8, kc8, kf8⟩, ⟨kz9, kc9, kf9⟩, ⟨kz10, kc10, kf10⟩, ⟨kz11, kc11, kf11⟩, _⟩ := hHeld.2
        go_wp2_with fail
        obtain ⟨d0, d1, d2, d3⟩ := set4 (W := w4) (B := w.heap.size + 2) (u0 := .int .i64 x0) (u1 := .int .i64 x1) (u2 := .int .i64 x2) (u3 := .int .i64 x3) kc8 kc9 kc10 kc11
        refine bodyPost_ret (v := .tuple #[lnV x0 x1 x2 x3, .bool true]) (by simp [results, Tryz.results64, go_sem, d0, d1, d2, d3]) rfl ?_
        exact ⟨rfl, by first | (with_reducible exact hHeld.1) | (have hB := hHeld.1; have hz := hB.size; go_grown)⟩
end Go.Proofs.YtmdhgiaaofdjiaaGreat
