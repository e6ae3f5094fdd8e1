/-
 The document's own answers for layer 5: a line's value, and whether its exact one is in a span. Conditions: the numbers are of 64 bits.
-/
import Derived.Test.YtcfidimnbamnkaaGreatKitV
import Derived.Test.YtcfidimnbamnkaaGreatKitW
import Derived.Maps.RangeWalk
import Derived.Test.YtcfidimnbamnkaaGreatLdB
namespace Go.Proofs.YtcfidimnbamnkaaGreat
open Go.RowKit

theorem divD_any (x d : Int) (hd : 1 ≤ d) (hx : (sizeL x.natAbs).length ≤ 3980) (hy : (sizeL d.natAbs).length ≤ 3980) (v v' : Value) (w : World) (h : NumZ w v x) (h' : NumZ w v' d) : Calls Tryz.prog 118 #[v, v'] w (RetZZ w (x / d) (x % d)) := by
 obtain ⟨m, rfl⟩ : ∃ m : Nat, d = m := ⟨d.toNat, by omega⟩
 exact divZ_any x m (by omega) hx (by simpa using hy) v v' w h h'
theorem abs_div_le {x d : Int} (hd : 1 ≤ d) : (x / d).natAbs ≤ x.natAbs := by
 have h1 := Int.mul_ediv_add_emod x d
 have h2 := Int.emod_nonneg x (show d ≠ 0 by omega)
 have h3 := Int.emod_lt_of_pos x (show 0 < d by omega)
 generalize x / d = q at *
 generalize x % d = r at *
 by_cases g : 0 ≤ q
 ·have : 1 * q ≤ d * q := Int.mul_le_mul_of_nonneg_right hd g
  omega
 ·have e : d * q = d * (q + 1) - d := by rw [Int.mul_add]; omega
  have : d * (q + 1) ≤ 1 * (q + 1) := by
   have := Int.mul_le_mul_of_nonpos_right hd (show q + 1 ≤ 0 by omega)
   exact this
  omega
set_option maxRecDepth 100000 in
set_option maxHeartbeats 16000000 in
theorem refAt_any (a r n d t : Int) (h : lineB a r n d = true) (ht : timeB t = true) (w : World) :
  Calls Tryz.prog 65 #[lnV a r n d, .int .i64 t] w (Ret w (.tuple #[.int .i64 (ovQ (exV a r n d t) d), .bool (backB (exV a r n d t / d))])) := by
 obtain ⟨i1, i2, i3, i4, i5, d1, d2, _⟩ := ex_bounds h ht
 obtain ⟨b1, b2, b3, b4⟩ := ref_bounds h ht
 have l3 := i64_len d i3
 have ID := Lib.hid (fun W => intZ_any d i3.1 i3.2 W)
 have TM := Lib.hid (fun W => refTimes_any a r n d t h ht W)
 have DV := Lib.hid (fun u u' W k k' => divD_any (exV a r n d t) d d1 (by omega) (by omega) u u' W k k')
 have sq : (sizeL (exV a r n d t / d).natAbs).length ≤ 4000 := Nat.le_trans (size_mono (abs_div_le d1)) (by omega)
 have VA := Lib.hid (fun v W k => valueZ_any (exV a r n d t / d) sq v W k)
 obtain ⟨B0, hB0⟩ : ∃ B0, B0 = backB (exV a r n d t / d) := ⟨_, rfl⟩
 obtain ⟨Q0, hQ0⟩ : ∃ Q0, Q0 = ovQ (exV a r n d t) d := ⟨_, rfl⟩
 have cs : valueB (exV a r n d t / d) = false ∧ B0 = false ∧ Q0 = 0 ∨ valueB (exV a r n d t / d) = true ∧ (B0 = false ∧ Q0 = 0 ∨ B0 = true ∧ Q0 = valueV (exV a r n d t / d)) := by
  rw [hB0, hQ0]
  unfold ovQ
  unfold valueB valueV
  by_cases g : -9223372036854775808 ≤ exV a r n d t / d ∧ exV a r n d t / d < 9223372036854775808
  ·refine Or.inr ⟨by simpa using g, ?_⟩
   rw [if_pos g]
   cases gb : backB (exV a r n d t / d)
   ·exact Or.inl ⟨rfl, by simp⟩
   ·exact Or.inr ⟨rfl, by simp⟩
  ·have e : backB (exV a r n d t / d) = false := by
    rw [← Bool.not_eq_true, backB_iff]
    omega
   exact Or.inl ⟨by simpa using g, e, by rw [e]; simp⟩
 have BK := fun W => refBack_any (valueV (exV a r n d t / d)) W
 have bv : valueB (exV a r n d t / d) = true → backB (valueV (exV a r n d t / d)) = B0 := by
  intro hv
  unfold valueB at hv
  rw [decide_eq_true_eq] at hv
  unfold valueV
  rw [if_pos hv, hB0]
 rw [← hB0, ← hQ0]
 clear hB0 hQ0
 clear l3 b1 b2 b3 b4 i1 i2 i3 i4 i5 h ht sq
 generalize valueV (exV a r n d t / d) = vq at *
 generalize valueB (exV a r n d t / d) = vb at *
 generalize exV a r n d t / d = q at *
 generalize exV a r n d t % d = s at *
 generalize exV a r n d t = X at *
 go_enter Tryz.func65, Tryz.ntmps65
 go_upto_region 1 with (fail)
 have hHs : Keeps w [(w.heap.size, 0, .int .i64 a), (w.heap.size, 1, .int .i64 r), (w.heap.size, 2, .int .i64 n), (w.heap.size, 3, .int .i64 d)] (w.alloc (.cells #[.int .i64 a, .int .i64 r, .int .i64 n, .int .i64 d] 24)) := ⟨below_alloc w _, by simp [Cells, go_sem]⟩
 generalize hGi : w.alloc (.cells #[.int .i64 a, .int .i64 r, .int .i64 n, .int .i64 d] 24) = wi at hHs ⊢
 clear hGi
 go_cut [6] (fun s6 wx => ∃ (g : Nat) (b : Bool) (A : Option Addr) (m c : Nat), s6 = .pointer (some ⟨g, 0, none⟩) ∧ Hid (NumZ wx (.agg #[.bool b, .slice A m c]) q) ∧ Keeps w [(g, 0, .bool b), (g, 1, .slice A m c)] wx)
 case first =>
  refine region_keeps (w0 := w) (L := [(w.heap.size, 0, .int .i64 a), (w.heap.size, 1, .int .i64 r), (w.heap.size, 2, .int .i64 n), (w.heap.size, 3, .int .i64 d)]) (by kernel_rfl) hHs (fun hHeld0 => ?_)
  refine tk 0 11 rfl rfl ?_ ?_ ?_
  rotate_left
  ·intro wq hSw; obtain ⟨⟨_,_,_⟩,⟨_,_,_⟩,⟨_,_,_⟩,⟨_,_,_⟩,_⟩ := hSw.2; go_simp; (try with_reducible rfl)
  try go_frame
  refine tv 1 12 rfl rfl ?_
  try go_frame
  refine tv 3 14 rfl rfl ?_
  try go_frame
  refine tk 4 15 rfl rfl ?_ ?_ ?_
  rotate_left
  ·intro wq hSw; obtain ⟨⟨_,_,_⟩,⟨_,_,_⟩,⟨_,_,_⟩,⟨_,_,_⟩,_⟩ := hSw.2; go_simp; (try with_reducible rfl)
  try go_frame
  refine ty [2, 10, 11] ?_
  refine AllReadyH.cons rfl (fun K hK => ?_) ?_
  go_simp
  (first | ((with_reducible refine (TM.out _).mono ?_); rintro e wt ⟨bt, At, nt, ct, rfl, hb, zx⟩) | ((with_reducible refine (ID.out _).mono ?_); rintro e wd ⟨bd, Ad, nd, cd, rfl, hb, zd⟩) | ((with_reducible refine (DV.out _ _ _ zx zd).mono ?_); rintro e wq ⟨bq, Aq, nq, cq, br, Ar, nr, cr, rfl, hb, zq, zr⟩))
  refine hK.out _ _ (hHeld0.next hb) (fun hHeld1 => ?_)
  clear hK K; try clear hb
  try go_frame
  refine ty [5, 10, 11] ?_
  refine AllReadyH.cons rfl (fun K hK => ?_) ?_
  go_simp
  (first | ((with_reducible refine (TM.out _).mono ?_); rintro e wt ⟨bt, At, nt, ct, rfl, hb, zx⟩) | ((with_reducible refine (ID.out _).mono ?_); rintro e wd ⟨bd, Ad, nd, cd, rfl, hb, zd⟩) | ((with_reducible refine (DV.out _ _ _ zx zd).mono ?_); rintro e wq ⟨bq, Aq, nq, cq, br, Ar, nr, cr, rfl, hb, zq, zr⟩))
  refine hK.out _ _ (hHeld1.next hb) (fun hHeld2 => ?_)
  (try replace zx := zx.below hb)
  clear hK K; try clear hb
  try go_frame
  refine ty [6, 10, 11] ?_
  refine AllReadyH.cons rfl (fun K hK => ?_) ?_
  go_simp
  (first | ((with_reducible refine (TM.out _).mono ?_); rintro e wt ⟨bt, At, nt, ct, rfl, hb, zx⟩) | ((with_reducible refine (ID.out _).mono ?_); rintro e wd ⟨bd, Ad, nd, cd, rfl, hb, zd⟩) | ((with_reducible refine (DV.out _ _ _ zx zd).mono ?_); rintro e wq ⟨bq, Aq, nq, cq, br, Ar, nr, cr, rfl, hb, zq, zr⟩))
  refine hK.out _ _ (hHeld2.next hb) (fun hHeld3 => ?_)
  (try replace zx := zx.below hb)
  (try replace zd := zd.below hb)
  clear hK K; try clear hb
  try go_frame
  refine tv 7 10 rfl rfl ?_
  try go_frame
  refine tv 8 18 rfl rfl ?_
  try go_frame
  refine tv 9 19 rfl rfl ?_
  try go_frame
  refine ty [10, 11] ?_
  refine AllReadyH.cons rfl (fun K hK => ?_) ?_
  have lo6 := hHeld3.1.size
  obtain ⟨⟨a6_z0,_,_⟩,⟨a6_z1,_,_⟩,⟨a6_z2,_,_⟩,⟨a6_z3,_,_⟩,_⟩ := hHeld3.2
  (try simp at lo6); (try simp at a6_z0); (try simp at a6_z1); (try simp at a6_z2); (try simp at a6_z3)
  go_simp
  refine hK.out _ _ (by first | exact hHeld3.alloc _ | exact (hHeld3.alloc _).drew) (fun hHeld4 => ?_)
  (try replace zq := zq.alloc2 hHeld4)
  first | have hS6 := newK2 hHeld4 | have hS6 := newK2d hHeld4
  clear hK K; try clear hb
  try go_frame
  generalize hGWA1 : World.alloc wq (.cells #[.bool false, .slice none 0 0] 132) = WA1 at *
  clear hGWA1
  refine tw 11 rfl fun K hK => ?_
  have hne6_7 := hS6.2.1.1
  have lo7 := hHeld4.1.size
  obtain ⟨⟨a7_z0,_,_⟩,⟨a7_z1,_,_⟩,⟨a7_z2,_,_⟩,⟨a7_z3,_,_⟩,_⟩ := hHeld4.2
  (try simp at lo7); (try simp at hne6_7); (try simp at a7_z0); (try simp at a7_z1); (try simp at a7_z2); (try simp at a7_z3)
  go_simp
  refine hK.out _ _ (by first | exact hHeld4.alloc _ | exact (hHeld4.alloc _).drew) (fun hHeld5 => ?_)
  first | replace hS6 := hS6.alloc2e hHeld5 | replace hS6 := hS6.alloc2 hHeld5
  (try replace zq := zq.alloc2 hHeld5)
  first | have hS7 := newK2 hHeld5 | have hS7 := newK2d hHeld5
  clear hK K; try clear hb
  try go_frame
  generalize hGWA2 : World.alloc WA1 (.cells #[.bool false, .slice none 0 0] 132) = WA2 at *
  clear hGWA2
  refine tw 12 rfl fun K hK => ?_
  obtain ⟨⟨s6z0, s6c0, s6f0⟩, ⟨s6z1, s6c1, s6f1⟩, _⟩ := hS6.2
  go_simp
  refine hK.out _ _ (by (repeat (first | (with_reducible exact hHeld5) | (refine Keeps.set ?_ (by simp <;> omega) (by simp <;> omega) _)))) (fun hHeld6 => ?_)
  replace hS7 := hS7.mv2 hHeld6 (by first | omega | (simp <;> omega)) (by simp <;> omega)
  (try replace zq := zq.store2 hHeld6 s6c0 s6c1)
  replace hS6 := hHeld6.add2 s6z0 s6c0 s6f0 s6c1 s6f1
  clear s6z0 s6c0 s6f0 s6z1 s6c1 s6f1
  clear hK K; try clear hb
  try go_frame
  generalize hGWA3 : World.setCell (World.setCell WA2 ⟨wq.heap.size, 0, none⟩ (.bool bq)) ⟨wq.heap.size, 1, none⟩ (.slice Aq nq cq) = WA3 at *
  clear hGWA3
  refine tw 13 rfl fun K hK => ?_
  obtain ⟨⟨s7z0, s7c0, s7f0⟩, ⟨s7z1, s7c1, s7f1⟩, _⟩ := hS7.2
  go_simp
  refine hK.out _ _ (by (repeat (first | (with_reducible exact hHeld6) | (refine Keeps.set ?_ (by simp <;> omega) (by simp <;> omega) _)))) (fun hHeld7 => ?_)
  replace hS6 := hS6.mv2 hHeld7 (by first | omega | (simp <;> omega)) (by simp <;> omega)
  (try replace zq := zq.store2 hHeld7 s7c0 s7c1)
  replace hS7 := hHeld7.add2 s7z0 s7c0 s7f0 s7c1 s7f1
  clear s7z0 s7c0 s7f0 s7z1 s7c1 s7f1
  clear hK K; try clear hb
  try go_frame
  generalize hGWA4 : World.setCell (World.setCell WA3 ⟨WA1.heap.size, 0, none⟩ (.bool br)) ⟨WA1.heap.size, 1, none⟩ (.slice Ar nr cr) = WA4 at *
  clear hGWA4
  refine wpAnyH_done (by kernel_rfl) ?_ _
  have hHeld := hHeld7
  rotate_left 1
  refine AllReadyH.cons rfl (fun K hK => ?_) ?_
  have lo7 := hHeld3.1.size
  obtain ⟨⟨a7_z0,_,_⟩,⟨a7_z1,_,_⟩,⟨a7_z2,_,_⟩,⟨a7_z3,_,_⟩,_⟩ := hHeld3.2
  (try simp at lo7); (try simp at a7_z0); (try simp at a7_z1); (try simp at a7_z2); (try simp at a7_z3)
  go_simp
  refine hK.out _ _ (by first | exact hHeld3.alloc _ | exact (hHeld3.alloc _).drew) (fun hHeld8 => ?_)
  (try replace zq := zq.alloc2 hHeld8)
  first | have hS7 := newK2 hHeld8 | have hS7 := newK2d hHeld8
  clear hK K; try clear hb
  try go_frame
  generalize hGWA5 : World.alloc wq (.cells #[.bool false, .slice none 0 0] 132) = WA5 at *
  clear hGWA5
  refine tw 10 rfl fun K hK => ?_
  have hne7_6 := hS7.2.1.1
  have lo6 := hHeld8.1.size
  obtain ⟨⟨a6_z0,_,_⟩,⟨a6_z1,_,_⟩,⟨a6_z2,_,_⟩,⟨a6_z3,_,_⟩,_⟩ := hHeld8.2
  (try simp at lo6); (try simp at hne7_6); (try simp at a6_z0); (try simp at a6_z1); (try simp at a6_z2); (try simp at a6_z3)
  go_simp
  refine hK.out _ _ (by first | exact hHeld8.alloc _ | exact (hHeld8.alloc _).drew) (fun hHeld9 => ?_)
  first | replace hS7 := hS7.alloc2e hHeld9 | replace hS7 := hS7.alloc2 hHeld9
  (try replace zq := zq.alloc2 hHeld9)
  first | have hS6 := newK2 hHeld9 | have hS6 := newK2d hHeld9
  clear hK K; try clear hb
  try go_frame
  generalize hGWA6 : World.alloc WA5 (.cells #[.bool false, .slice none 0 0] 132) = WA6 at *
  clear hGWA6
  refine tw 12 rfl fun K hK => ?_
  obtain ⟨⟨s6z0, s6c0, s6f0⟩, ⟨s6z1, s6c1, s6f1⟩, _⟩ := hS6.2
  go_simp
  refine hK.out _ _ (by (repeat (first | (with_reducible exact hHeld9) | (refine Keeps.set ?_ (by simp <;> omega) (by simp <;> omega) _)))) (fun hHeld10 => ?_)
  replace hS7 := hS7.mv2 hHeld10 (by first | omega | (simp <;> omega)) (by simp <;> omega)
  (try replace zq := zq.store2 hHeld10 s6c0 s6c1)
  replace hS6 := hHeld10.add2 s6z0 s6c0 s6f0 s6c1 s6f1
  clear s6z0 s6c0 s6f0 s6z1 s6c1 s6f1
  clear hK K; try clear hb
  try go_frame
  generalize hGWA7 : World.setCell (World.setCell WA6 ⟨WA5.heap.size, 0, none⟩ (.bool bq)) ⟨WA5.heap.size, 1, none⟩ (.slice Aq nq cq) = WA7 at *
  clear hGWA7
  refine tw 13 rfl fun K hK => ?_
  obtain ⟨⟨s7z0, s7c0, s7f0⟩, ⟨s7z1, s7c1, s7f1⟩, _⟩ := hS7.2
  go_simp
  refine hK.out _ _ (by (repeat (first | (with_reducible exact hHeld10) | (refine Keeps.set ?_ (by simp <;> omega) (by simp <;> omega) _)))) (fun hHeld11 => ?_)
  replace hS6 := hS6.mv2 hHeld11 (by first | omega | (simp <;> omega)) (by simp <;> omega)
  (try replace zq := zq.store2 hHeld11 s7c0 s7c1)
  replace hS7 := hHeld11.add2 s7z0 s7c0 s7f0 s7c1 s7f1
  clear s7z0 s7c0 s7f0 s7z1 s7c1 s7f1
  clear hK K; try clear hb
  try go_frame
  generalize hGWA8 : World.setCell (World.setCell WA7 ⟨wq.heap.size, 0, none⟩ (.bool br)) ⟨wq.heap.size, 1, none⟩ (.slice Ar nr cr) = WA8 at *
  clear hGWA8
  refine wpAnyH_done (by kernel_rfl) ?_ _
  have hHeld := hHeld11
  rotate_left 1
  exact AllReadyH.nil
  refine AllReadyH.cons rfl (fun K hK => ?_) ?_
  have lo6 := hHeld2.1.size
  obtain ⟨⟨a6_z0,_,_⟩,⟨a6_z1,_,_⟩,⟨a6_z2,_,_⟩,⟨a6_z3,_,_⟩,_⟩ := hHeld2.2
  (try simp at lo6); (try simp at a6_z0); (try simp at a6_z1); (try simp at a6_z2); (try simp at a6_z3)
  go_simp
  refine hK.out _ _ (by first | exact hHeld2.alloc _ | exact (hHeld2.alloc _).drew) (fun hHeld12 => ?_)
  (try replace zx := zx.alloc2 hHeld12)
  (try replace zd := zd.alloc2 hHeld12)
  first | have hS6 := newK2 hHeld12 | have hS6 := newK2d hHeld12
  clear hK K; try clear hb
  try go_frame
  generalize hGWA9 : World.alloc wd (.cells #[.bool false, .slice none 0 0] 132) = WA9 at *
  clear hGWA9
  refine ty [6, 11] ?_
  refine AllReadyH.cons rfl (fun K hK => ?_) ?_
  go_simp
  (first | ((with_reducible refine (TM.out _).mono ?_); rintro e wt ⟨bt, At, nt, ct, rfl, hb, zx⟩) | ((with_reducible refine (ID.out _).mono ?_); rintro e wd ⟨bd, Ad, nd, cd, rfl, hb, zd⟩) | ((with_reducible refine (DV.out _ _ _ zx zd).mono ?_); rintro e wq ⟨bq, Aq, nq, cq, br, Ar, nr, cr, rfl, hb, zq, zr⟩))
  refine hK.out _ _ (hHeld12.next hb) (fun hHeld13 => ?_)
  replace hS6 := hS6.next hb
  (try replace zx := zx.below hb)
  (try replace zd := zd.below hb)
  clear hK K; try clear hb
  try go_frame
  refine tv 7 10 rfl rfl ?_
  try go_frame
  refine tv 8 18 rfl rfl ?_
  try go_frame
  refine tv 9 19 rfl rfl ?_
  try go_frame
  refine tw 11 rfl fun K hK => ?_
  have hne6_7 := hS6.2.1.1
  have lo7 := hHeld13.1.size
  obtain ⟨⟨a7_z0,_,_⟩,⟨a7_z1,_,_⟩,⟨a7_z2,_,_⟩,⟨a7_z3,_,_⟩,_⟩ := hHeld13.2
  (try simp at lo7); (try simp at hne6_7); (try simp at a7_z0); (try simp at a7_z1); (try simp at a7_z2); (try simp at a7_z3)
  go_simp
  refine hK.out _ _ (by first | exact hHeld13.alloc _ | exact (hHeld13.alloc _).drew) (fun hHeld14 => ?_)
  first | replace hS6 := hS6.alloc2e hHeld14 | replace hS6 := hS6.alloc2 hHeld14
  (try replace zq := zq.alloc2 hHeld14)
  first | have hS7 := newK2 hHeld14 | have hS7 := newK2d hHeld14
  clear hK K; try clear hb
  try go_frame
  generalize hGWA10 : World.alloc wq (.cells #[.bool false, .slice none 0 0] 132) = WA10 at *
  clear hGWA10
  refine tw 12 rfl fun K hK => ?_
  obtain ⟨⟨s6z0, s6c0, s6f0⟩, ⟨s6z1, s6c1, s6f1⟩, _⟩ := hS6.2
  go_simp
  refine hK.out _ _ (by (repeat (first | (with_reducible exact hHeld14) | (refine Keeps.set ?_ (by simp <;> omega) (by simp <;> omega) _)))) (fun hHeld15 => ?_)
  replace hS7 := hS7.mv2 hHeld15 (by first | omega | (simp <;> omega)) (by simp <;> omega)
  (try replace zq := zq.store2 hHeld15 s6c0 s6c1)
  replace hS6 := hHeld15.add2 s6z0 s6c0 s6f0 s6c1 s6f1
  clear s6z0 s6c0 s6f0 s6z1 s6c1 s6f1
  clear hK K; try clear hb
  try go_frame
  generalize hGWA11 : World.setCell (World.setCell WA10 ⟨wd.heap.size, 0, none⟩ (.bool bq)) ⟨wd.heap.size, 1, none⟩ (.slice Aq nq cq) = WA11 at *
  clear hGWA11
  refine tw 13 rfl fun K hK => ?_
  obtain ⟨⟨s7z0, s7c0, s7f0⟩, ⟨s7z1, s7c1, s7f1⟩, _⟩ := hS7.2
  go_simp
  refine hK.out _ _ (by (repeat (first | (with_reducible exact hHeld15) | (refine Keeps.set ?_ (by simp <;> omega) (by simp <;> omega) _)))) (fun hHeld16 => ?_)
  replace hS6 := hS6.mv2 hHeld16 (by first | omega | (simp <;> omega)) (by simp <;> omega)
  (try replace zq := zq.store2 hHeld16 s7c0 s7c1)
  replace hS7 := hHeld16.add2 s7z0 s7c0 s7f0 s7c1 s7f1
  clear s7z0 s7c0 s7f0 s7z1 s7c1 s7f1
  clear hK K; try clear hb
  try go_frame
  generalize hGWA12 : World.setCell (World.setCell WA11 ⟨wq.heap.size, 0, none⟩ (.bool br)) ⟨wq.heap.size, 1, none⟩ (.slice Ar nr cr) = WA12 at *
  clear hGWA12
  refine wpAnyH_done (by kernel_rfl) ?_ _
  have hHeld := hHeld16
  rotate_left 1
  refine AllReadyH.cons rfl (fun K hK => ?_) ?_
  have hne6_7 := hS6.2.1.1
  have lo7 := hHeld12.1.size
  obtain ⟨⟨a7_z0,_,_⟩,⟨a7_z1,_,_⟩,⟨a7_z2,_,_⟩,⟨a7_z3,_,_⟩,_⟩ := hHeld12.2
  (try simp at lo7); (try simp at hne6_7); (try simp at a7_z0); (try simp at a7_z1); (try simp at a7_z2); (try simp at a7_z3)
  go_simp
  refine hK.out _ _ (by first | exact hHeld12.alloc _ | exact (hHeld12.alloc _).drew) (fun hHeld17 => ?_)
  first | replace hS6 := hS6.alloc2e hHeld17 | replace hS6 := hS6.alloc2 hHeld17
  (try replace zx := zx.alloc2 hHeld17)
  (try replace zd := zd.alloc2 hHeld17)
  first | have hS7 := newK2 hHeld17 | have hS7 := newK2d hHeld17
  clear hK K; try clear hb
  try go_frame
  generalize hGWA13 : World.alloc WA9 (.cells #[.bool false, .slice none 0 0] 132) = WA13 at *
  clear hGWA13
  refine tw 6 rfl fun K hK => ?_
  go_simp
  (first | ((with_reducible refine (TM.out _).mono ?_); rintro e wt ⟨bt, At, nt, ct, rfl, hb, zx⟩) | ((with_reducible refine (ID.out _).mono ?_); rintro e wd ⟨bd, Ad, nd, cd, rfl, hb, zd⟩) | ((with_reducible refine (DV.out _ _ _ zx zd).mono ?_); rintro e wq ⟨bq, Aq, nq, cq, br, Ar, nr, cr, rfl, hb, zq, zr⟩))
  refine hK.out _ _ (hHeld17.next hb) (fun hHeld18 => ?_)
  replace hS6 := hS6.next hb
  replace hS7 := hS7.next hb
  (try replace zx := zx.below hb)
  (try replace zd := zd.below hb)
  clear hK K; try clear hb
  try go_frame
  refine tv 7 10 rfl rfl ?_
  try go_frame
  refine tv 8 18 rfl rfl ?_
  try go_frame
  refine tv 9 19 rfl rfl ?_
  try go_frame
  refine tw 12 rfl fun K hK => ?_
  obtain ⟨⟨s6z0, s6c0, s6f0⟩, ⟨s6z1, s6c1, s6f1⟩, _⟩ := hS6.2
  go_simp
  refine hK.out _ _ (by (repeat (first | (with_reducible exact hHeld18) | (refine Keeps.set ?_ (by simp <;> omega) (by simp <;> omega) _)))) (fun hHeld19 => ?_)
  replace hS7 := hS7.mv2 hHeld19 (by first | omega | (simp <;> omega)) (by simp <;> omega)
  (try replace zq := zq.store2 hHeld19 s6c0 s6c1)
  replace hS6 := hHeld19.add2 s6z0 s6c0 s6f0 s6c1 s6f1
  clear s6z0 s6c0 s6f0 s6z1 s6c1 s6f1
  clear hK K; try clear hb
  try go_frame
  generalize hGWA14 : World.setCell (World.setCell wq ⟨wd.heap.size, 0, none⟩ (.bool bq)) ⟨wd.heap.size, 1, none⟩ (.slice Aq nq cq) = WA14 at *
  clear hGWA14
  refine tw 13 rfl fun K hK => ?_
  obtain ⟨⟨s7z0, s7c0, s7f0⟩, ⟨s7z1, s7c1, s7f1⟩, _⟩ := hS7.2
  go_simp
  refine hK.out _ _ (by (repeat (first | (with_reducible exact hHeld19) | (refine Keeps.set ?_ (by simp <;> omega) (by simp <;> omega) _)))) (fun hHeld20 => ?_)
  replace hS6 := hS6.mv2 hHeld20 (by first | omega | (simp <;> omega)) (by simp <;> omega)
  (try replace zq := zq.store2 hHeld20 s7c0 s7c1)
  replace hS7 := hHeld20.add2 s7z0 s7c0 s7f0 s7c1 s7f1
  clear s7z0 s7c0 s7f0 s7z1 s7c1 s7f1
  clear hK K; try clear hb
  try go_frame
  generalize hGWA15 : World.setCell (World.setCell WA14 ⟨WA9.heap.size, 0, none⟩ (.bool br)) ⟨WA9.heap.size, 1, none⟩ (.slice Ar nr cr) = WA15 at *
  clear hGWA15
  refine wpAnyH_done (by kernel_rfl) ?_ _
  have hHeld := hHeld20
  rotate_left 1
  exact AllReadyH.nil
  refine AllReadyH.cons rfl (fun K hK => ?_) ?_
  have lo7 := hHeld2.1.size
  obtain ⟨⟨a7_z0,_,_⟩,⟨a7_z1,_,_⟩,⟨a7_z2,_,_⟩,⟨a7_z3,_,_⟩,_⟩ := hHeld2.2
  (try simp at lo7); (try simp at a7_z0); (try simp at a7_z1); (try simp at a7_z2); (try simp at a7_z3)
  go_simp
  refine hK.out _ _ (by first | exact hHeld2.alloc _ | exact (hHeld2.alloc _).drew) (fun hHeld21 => ?_)
  (try replace zx := zx.alloc2 hHeld21)
  (try replace zd := zd.alloc2 hHeld21)
  first | have hS7 := newK2 hHeld21 | have hS7 := newK2d hHeld21
  clear hK K; try clear hb
  try go_frame
  generalize hGWA16 : World.alloc wd (.cells #[.bool false, .slice none 0 0] 132) = WA16 at *
  clear hGWA16
  refine ty [6, 10] ?_
  refine AllReadyH.cons rfl (fun K hK => ?_) ?_
  go_simp
  (first | ((with_reducible refine (TM.out _).mono ?_); rintro e wt ⟨bt, At, nt, ct, rfl, hb, zx⟩) | ((with_reducible refine (ID.out _).mono ?_); rintro e wd ⟨bd, Ad, nd, cd, rfl, hb, zd⟩) | ((with_reducible refine (DV.out _ _ _ zx zd).mono ?_); rintro e wq ⟨bq, Aq, nq, cq, br, Ar, nr, cr, rfl, hb, zq, zr⟩))
  refine hK.out _ _ (hHeld21.next hb) (fun hHeld22 => ?_)
  replace hS7 := hS7.next hb
  (try replace zx := zx.below hb)
  (try replace zd := zd.below hb)
  clear hK K; try clear hb
  try go_frame
  refine tv 7 10 rfl rfl ?_
  try go_frame
  refine tv 8 18 rfl rfl ?_
  try go_frame
  refine tv 9 19 rfl rfl ?_
  try go_frame
  refine tw 10 rfl fun K hK => ?_
  have hne7_6 := hS7.2.1.1
  have lo6 := hHeld22.1.size
  obtain ⟨⟨a6_z0,_,_⟩,⟨a6_z1,_,_⟩,⟨a6_z2,_,_⟩,⟨a6_z3,_,_⟩,_⟩ := hHeld22.2
  (try simp at lo6); (try simp at hne7_6); (try simp at a6_z0); (try simp at a6_z1); (try simp at a6_z2); (try simp at a6_z3)
  go_simp
  refine hK.out _ _ (by first | exact hHeld22.alloc _ | exact (hHeld22.alloc _).drew) (fun hHeld23 => ?_)
  first | replace hS7 := hS7.alloc2e hHeld23 | replace hS7 := hS7.alloc2 hHeld23
  (try replace zq := zq.alloc2 hHeld23)
  first | have hS6 := newK2 hHeld23 | have hS6 := newK2d hHeld23
  clear hK K; try clear hb
  try go_frame
  generalize hGWA17 : World.alloc wq (.cells #[.bool false, .slice none 0 0] 132) = WA17 at *
  clear hGWA17
  refine tw 12 rfl fun K hK => ?_
  obtain ⟨⟨s6z0, s6c0, s6f0⟩, ⟨s6z1, s6c1, s6f1⟩, _⟩ := hS6.2
  go_simp
  refine hK.out _ _ (by (repeat (first | (with_reducible exact hHeld23) | (refine Keeps.set ?_ (by simp <;> omega) (by simp <;> omega) _)))) (fun hHeld24 => ?_)
  replace hS7 := hS7.mv2 hHeld24 (by first | omega | (simp <;> omega)) (by simp <;> omega)
  (try replace zq := zq.store2 hHeld24 s6c0 s6c1)
  replace hS6 := hHeld24.add2 s6z0 s6c0 s6f0 s6c1 s6f1
  clear s6z0 s6c0 s6f0 s6z1 s6c1 s6f1
  clear hK K; try clear hb
  try go_frame
  generalize hGWA18 : World.setCell (World.setCell WA17 ⟨wq.heap.size, 0, none⟩ (.bool bq)) ⟨wq.heap.size, 1, none⟩ (.slice Aq nq cq) = WA18 at *
  clear hGWA18
  refine tw 13 rfl fun K hK => ?_
  obtain ⟨⟨s7z0, s7c0, s7f0⟩, ⟨s7z1, s7c1, s7f1⟩, _⟩ := hS7.2
  go_simp
  refine hK.out _ _ (by (repeat (first | (with_reducible exact hHeld24) | (refine Keeps.set ?_ (by simp <;> omega) (by simp <;> omega) _)))) (fun hHeld25 => ?_)
  replace hS6 := hS6.mv2 hHeld25 (by first | omega | (simp <;> omega)) (by simp <;> omega)
  (try replace zq := zq.store2 hHeld25 s7c0 s7c1)
  replace hS7 := hHeld25.add2 s7z0 s7c0 s7f0 s7c1 s7f1
  clear s7z0 s7c0 s7f0 s7z1 s7c1 s7f1
  clear hK K; try clear hb
  try go_frame
  generalize hGWA19 : World.setCell (World.setCell WA18 ⟨wd.heap.size, 0, none⟩ (.bool br)) ⟨wd.heap.size, 1, none⟩ (.slice Ar nr cr) = WA19 at *
  clear hGWA19
  refine wpAnyH_done (by kernel_rfl) ?_ _
  have hHeld := hHeld25
  rotate_left 1
  refine AllReadyH.cons rfl (fun K hK => ?_) ?_
  have hne7_6 := hS7.2.1.1
  have lo6 := hHeld21.1.size
  obtain ⟨⟨a6_z0,_,_⟩,⟨a6_z1,_,_⟩,⟨a6_z2,_,_⟩,⟨a6_z3,_,_⟩,_⟩ := hHeld21.2
  (try simp at lo6); (try simp at hne7_6); (try simp at a6_z0); (try simp at a6_z1); (try simp at a6_z2); (try simp at a6_z3)
  go_simp
  refine hK.out _ _ (by first | exact hHeld21.alloc _ | exact (hHeld21.alloc _).drew) (fun hHeld26 => ?_)
  first | replace hS7 := hS7.alloc2e hHeld26 | replace hS7 := hS7.alloc2 hHeld26
  (try replace zx := zx.alloc2 hHeld26)
  (try replace zd := zd.alloc2 hHeld26)
  first | have hS6 := newK2 hHeld26 | have hS6 := newK2d hHeld26
  clear hK K; try clear hb
  try go_frame
  generalize hGWA20 : World.alloc WA16 (.cells #[.bool false, .slice none 0 0] 132) = WA20 at *
  clear hGWA20
  refine tw 6 rfl fun K hK => ?_
  go_simp
  (first | ((with_reducible refine (TM.out _).mono ?_); rintro e wt ⟨bt, At, nt, ct, rfl, hb, zx⟩) | ((with_reducible refine (ID.out _).mono ?_); rintro e wd ⟨bd, Ad, nd, cd, rfl, hb, zd⟩) | ((with_reducible refine (DV.out _ _ _ zx zd).mono ?_); rintro e wq ⟨bq, Aq, nq, cq, br, Ar, nr, cr, rfl, hb, zq, zr⟩))
  refine hK.out _ _ (hHeld26.next hb) (fun hHeld27 => ?_)
  replace hS7 := hS7.next hb
  replace hS6 := hS6.next hb
  (try replace zx := zx.below hb)
  (try replace zd := zd.below hb)
  clear hK K; try clear hb
  try go_frame
  refine tv 7 10 rfl rfl ?_
  try go_frame
  refine tv 8 18 rfl rfl ?_
  try go_frame
  refine tv 9 19 rfl rfl ?_
  try go_frame
  refine tw 12 rfl fun K hK => ?_
  obtain ⟨⟨s6z0, s6c0, s6f0⟩, ⟨s6z1, s6c1, s6f1⟩, _⟩ := hS6.2
  go_simp
  refine hK.out _ _ (by (repeat (first | (with_reducible exact hHeld27) | (refine Keeps.set ?_ (by simp <;> omega) (by simp <;> omega) _)))) (fun hHeld28 => ?_)
  replace hS7 := hS7.mv2 hHeld28 (by first | omega | (simp <;> omega)) (by simp <;> omega)
  (try replace zq := zq.store2 hHeld28 s6c0 s6c1)
  replace hS6 := hHeld28.add2 s6z0 s6c0 s6f0 s6c1 s6f1
  clear s6z0 s6c0 s6f0 s6z1 s6c1 s6f1
  clear hK K; try clear hb
  try go_frame
  generalize hGWA21 : World.setCell (World.setCell wq ⟨WA16.heap.size, 0, none⟩ (.bool bq)) ⟨WA16.heap.size, 1, none⟩ (.slice Aq nq cq) = WA21 at *
  clear hGWA21
  refine tw 13 rfl fun K hK => ?_
  obtain ⟨⟨s7z0, s7c0, s7f0⟩, ⟨s7z1, s7c1, s7f1⟩, _⟩ := hS7.2
  go_simp
  refine hK.out _ _ (by (repeat (first | (with_reducible exact hHeld28) | (refine Keeps.set ?_ (by simp <;> omega) (by simp <;> omega) _)))) (fun hHeld29 => ?_)
  replace hS6 := hS6.mv2 hHeld29 (by first | omega | (simp <;> omega)) (by simp <;> omega)
  (try replace zq := zq.store2 hHeld29 s7c0 s7c1)
  replace hS7 := hHeld29.add2 s7z0 s7c0 s7f0 s7c1 s7f1
  clear s7z0 s7c0 s7f0 s7z1 s7c1 s7f1
  clear hK K; try clear hb
  try go_frame
  generalize hGWA22 : World.setCell (World.setCell WA21 ⟨wd.heap.size, 0, none⟩ (.bool br)) ⟨wd.heap.size, 1, none⟩ (.slice Ar nr cr) = WA22 at *
  clear hGWA22
  refine wpAnyH_done (by kernel_rfl) ?_ _
  have hHeld := hHeld29
  rotate_left 1
  exact AllReadyH.nil
  exact AllReadyH.nil
  refine AllReadyH.cons rfl (fun K hK => ?_) ?_
  have lo6 := hHeld1.1.size
  obtain ⟨⟨a6_z0,_,_⟩,⟨a6_z1,_,_⟩,⟨a6_z2,_,_⟩,⟨a6_z3,_,_⟩,_⟩ := hHeld1.2
  (try simp at lo6); (try simp at a6_z0); (try simp at a6_z1); (try simp at a6_z2); (try simp at a6_z3)
  go_simp
  refine hK.out _ _ (by first | exact hHeld1.alloc _ | exact (hHeld1.alloc _).drew) (fun hHeld30 => ?_)
  (try replace zx := zx.alloc2 hHeld30)
  first | have hS6 := newK2 hHeld30 | have hS6 := newK2d hHeld30
  clear hK K; try clear hb
  try go_frame
  generalize hGWA23 : World.alloc wt (.cells #[.bool false, .slice none 0 0] 132) = WA23 at *
  clear hGWA23
  refine ty [5, 11] ?_
  refine AllReadyH.cons rfl (fun K hK => ?_) ?_
  go_simp
  (first | ((with_reducible refine (TM.out _).mono ?_); rintro e wt ⟨bt, At, nt, ct, rfl, hb, zx⟩) | ((with_reducible refine (ID.out _).mono ?_); rintro e wd ⟨bd, Ad, nd, cd, rfl, hb, zd⟩) | ((with_reducible refine (DV.out _ _ _ zx zd).mono ?_); rintro e wq ⟨bq, Aq, nq, cq, br, Ar, nr, cr, rfl, hb, zq, zr⟩))
  refine hK.out _ _ (hHeld30.next hb) (fun hHeld31 => ?_)
  replace hS6 := hS6.next hb
  (try replace zx := zx.below hb)
  clear hK K; try clear hb
  try go_frame
  refine ty [6, 11] ?_
  refine AllReadyH.cons rfl (fun K hK => ?_) ?_
  go_simp
  (first | ((with_reducible refine (TM.out _).mono ?_); rintro e wt ⟨bt, At, nt, ct, rfl, hb, zx⟩) | ((with_reducible refine (ID.out _).mono ?_); rintro e wd ⟨bd, Ad, nd, cd, rfl, hb, zd⟩) | ((with_reducible refine (DV.out _ _ _ zx zd).mono ?_); rintro e wq ⟨bq, Aq, nq, cq, br, Ar, nr, cr, rfl, hb, zq, zr⟩))
  refine hK.out _ _ (hHeld31.next hb) (fun hHeld32 => ?_)
  replace hS6 := hS6.next hb
  (try replace zx := zx.below hb)
  (try replace zd := zd.below hb)
  clear hK K; try clear hb
  try go_frame
  refine tv 7 10 rfl rfl ?_
  try go_frame
  refine tv 8 18 rfl rfl ?_
  try go_frame
  refine tv 9 19 rfl rfl ?_
  try go_frame
  refine tw 11 rfl fun K hK => ?_
  have hne6_7 := hS6.2.1.1
  have lo7 := hHeld32.1.size
  obtain ⟨⟨a7_z0,_,_⟩,⟨a7_z1,_,_⟩,⟨a7_z2,_,_⟩,⟨a7_z3,_,_⟩,_⟩ := hHeld32.2
  (try simp at lo7); (try simp at hne6_7); (try simp at a7_z0); (try simp at a7_z1); (try simp at a7_z2); (try simp at a7_z3)
  go_simp
  refine hK.out _ _ (by first | exact hHeld32.alloc _ | exact (hHeld32.alloc _).drew) (fun hHeld33 => ?_)
  first | replace hS6 := hS6.alloc2e hHeld33 | replace hS6 := hS6.alloc2 hHeld33
  (try replace zq := zq.alloc2 hHeld33)
  first | have hS7 := newK2 hHeld33 | have hS7 := newK2d hHeld33
  clear hK K; try clear hb
  try go_frame
  generalize hGWA24 : World.alloc wq (.cells #[.bool false, .slice none 0 0] 132) = WA24 at *
  clear hGWA24
  refine tw 12 rfl fun K hK => ?_
  obtain ⟨⟨s6z0, s6c0, s6f0⟩, ⟨s6z1, s6c1, s6f1⟩, _⟩ := hS6.2
  go_simp
  refine hK.out _ _ (by (repeat (first | (with_reducible exact hHeld33) | (refine Keeps.set ?_ (by simp <;> omega) (by simp <;> omega) _)))) (fun hHeld34 => ?_)
  replace hS7 := hS7.mv2 hHeld34 (by first | omega | (simp <;> omega)) (by simp <;> omega)
  (try replace zq := zq.store2 hHeld34 s6c0 s6c1)
  replace hS6 := hHeld34.add2 s6z0 s6c0 s6f0 s6c1 s6f1
  clear s6z0 s6c0 s6f0 s6z1 s6c1 s6f1
  clear hK K; try clear hb
  try go_frame
  generalize hGWA25 : World.setCell (World.setCell WA24 ⟨wt.heap.size, 0, none⟩ (.bool bq)) ⟨wt.heap.size, 1, none⟩ (.slice Aq nq cq) = WA25 at *
  clear hGWA25
  refine tw 13 rfl fun K hK => ?_
  obtain ⟨⟨s7z0, s7c0, s7f0⟩, ⟨s7z1, s7c1, s7f1⟩, _⟩ := hS7.2
  go_simp
  refine hK.out _ _ (by (repeat (first | (with_reducible exact hHeld34) | (refine Keeps.set ?_ (by simp <;> omega) (by simp <;> omega) _)))) (fun hHeld35 => ?_)
  replace hS6 := hS6.mv2 hHeld35 (by first | omega | (simp <;> omega)) (by simp <;> omega)
  (try replace zq := zq.store2 hHeld35 s7c0 s7c1)
  replace hS7 := hHeld35.add2 s7z0 s7c0 s7f0 s7c1 s7f1
  clear s7z0 s7c0 s7f0 s7z1 s7c1 s7f1
  clear hK K; try clear hb
  try go_frame
  generalize hGWA26 : World.setCell (World.setCell WA25 ⟨wq.heap.size, 0, none⟩ (.bool br)) ⟨wq.heap.size, 1, none⟩ (.slice Ar nr cr) = WA26 at *
  clear hGWA26
  refine wpAnyH_done (by kernel_rfl) ?_ _
  have hHeld := hHeld35
  rotate_left 1
  refine AllReadyH.cons rfl (fun K hK => ?_) ?_
  have hne6_7 := hS6.2.1.1
  have lo7 := hHeld31.1.size
  obtain ⟨⟨a7_z0,_,_⟩,⟨a7_z1,_,_⟩,⟨a7_z2,_,_⟩,⟨a7_z3,_,_⟩,_⟩ := hHeld31.2
  (try simp at lo7); (try simp at hne6_7); (try simp at a7_z0); (try simp at a7_z1); (try simp at a7_z2); (try simp at a7_z3)
  go_simp
  refine hK.out _ _ (by first | exact hHeld31.alloc _ | exact (hHeld31.alloc _).drew) (fun hHeld36 => ?_)
  first | replace hS6 := hS6.alloc2e hHeld36 | replace hS6 := hS6.alloc2 hHeld36
  (try replace zx := zx.alloc2 hHeld36)
  (try replace zd := zd.alloc2 hHeld36)
  first | have hS7 := newK2 hHeld36 | have hS7 := newK2d hHeld36
  clear hK K; try clear hb
  try go_frame
  generalize hGWA27 : World.alloc wd (.cells #[.bool false, .slice none 0 0] 132) = WA27 at *
  clear hGWA27
  refine tw 6 rfl fun K hK => ?_
  go_simp
  (first | ((with_reducible refine (TM.out _).mono ?_); rintro e wt ⟨bt, At, nt, ct, rfl, hb, zx⟩) | ((with_reducible refine (ID.out _).mono ?_); rintro e wd ⟨bd, Ad, nd, cd, rfl, hb, zd⟩) | ((with_reducible refine (DV.out _ _ _ zx zd).mono ?_); rintro e wq ⟨bq, Aq, nq, cq, br, Ar, nr, cr, rfl, hb, zq, zr⟩))
  refine hK.out _ _ (hHeld36.next hb) (fun hHeld37 => ?_)
  replace hS6 := hS6.next hb
  replace hS7 := hS7.next hb
  (try replace zx := zx.below hb)
  (try replace zd := zd.below hb)
  clear hK K; try clear hb
  try go_frame
  refine tv 7 10 rfl rfl ?_
  try go_frame
  refine tv 8 18 rfl rfl ?_
  try go_frame
  refine tv 9 19 rfl rfl ?_
  try go_frame
  refine tw 12 rfl fun K hK => ?_
  obtain ⟨⟨s6z0, s6c0, s6f0⟩, ⟨s6z1, s6c1, s6f1⟩, _⟩ := hS6.2
  go_simp
  refine hK.out _ _ (by (repeat (first | (with_reducible exact hHeld37) | (refine Keeps.set ?_ (by simp <;> omega) (by simp <;> omega) _)))) (fun hHeld38 => ?_)
  replace hS7 := hS7.mv2 hHeld38 (by first | omega | (simp <;> omega)) (by simp <;> omega)
  (try replace zq := zq.store2 hHeld38 s6c0 s6c1)
  replace hS6 := hHeld38.add2 s6z0 s6c0 s6f0 s6c1 s6f1
  clear s6z0 s6c0 s6f0 s6z1 s6c1 s6f1
  clear hK K; try clear hb
  try go_frame
  generalize hGWA28 : World.setCell (World.setCell wq ⟨wt.heap.size, 0, none⟩ (.bool bq)) ⟨wt.heap.size, 1, none⟩ (.slice Aq nq cq) = WA28 at *
  clear hGWA28
  refine tw 13 rfl fun K hK => ?_
  obtain ⟨⟨s7z0, s7c0, s7f0⟩, ⟨s7z1, s7c1, s7f1⟩, _⟩ := hS7.2
  go_simp
  refine hK.out _ _ (by (repeat (first | (with_reducible exact hHeld38) | (refine Keeps.set ?_ (by simp <;> omega) (by simp <;> omega) _)))) (fun hHeld39 => ?_)
  replace hS6 := hS6.mv2 hHeld39 (by first | omega | (simp <;> omega)) (by simp <;> omega)
  (try replace zq := zq.store2 hHeld39 s7c0 s7c1)
  replace hS7 := hHeld39.add2 s7z0 s7c0 s7f0 s7c1 s7f1
  clear s7z0 s7c0 s7f0 s7z1 s7c1 s7f1
  clear hK K; try clear hb
  try go_frame
  generalize hGWA29 : World.setCell (World.setCell WA28 ⟨wd.heap.size, 0, none⟩ (.bool br)) ⟨wd.heap.size, 1, none⟩ (.slice Ar nr cr) = WA29 at *
  clear hGWA29
  refine wpAnyH_done (by kernel_rfl) ?_ _
  have hHeld := hHeld39
  rotate_left 1
  exact AllReadyH.nil
  refine AllReadyH.cons rfl (fun K hK => ?_) ?_
  have hne6_7 := hS6.2.1.1
  have lo7 := hHeld30.1.size
  obtain ⟨⟨a7_z0,_,_⟩,⟨a7_z1,_,_⟩,⟨a7_z2,_,_⟩,⟨a7_z3,_,_⟩,_⟩ := hHeld30.2
  (try simp at lo7); (try simp at hne6_7); (try simp at a7_z0); (try simp at a7_z1); (try simp at a7_z2); (try simp at a7_z3)
  go_simp
  refine hK.out _ _ (by first | exact hHeld30.alloc _ | exact (hHeld30.alloc _).drew) (fun hHeld40 => ?_)
  first | replace hS6 := hS6.alloc2e hHeld40 | replace hS6 := hS6.alloc2 hHeld40
  (try replace zx := zx.alloc2 hHeld40)
  first | have hS7 := newK2 hHeld40 | have hS7 := newK2d hHeld40
  clear hK K; try clear hb
  try go_frame
  generalize hGWA30 : World.alloc WA23 (.cells #[.bool false, .slice none 0 0] 132) = WA30 at *
  clear hGWA30
  refine tw 5 rfl fun K hK => ?_
  go_simp
  (first | ((with_reducible refine (TM.out _).mono ?_); rintro e wt ⟨bt, At, nt, ct, rfl, hb, zx⟩) | ((with_reducible refine (ID.out _).mono ?_); rintro e wd ⟨bd, Ad, nd, cd, rfl, hb, zd⟩) | ((with_reducible refine (DV.out _ _ _ zx zd).mono ?_); rintro e wq ⟨bq, Aq, nq, cq, br, Ar, nr, cr, rfl, hb, zq, zr⟩))
  refine hK.out _ _ (hHeld40.next hb) (fun hHeld41 => ?_)
  replace hS6 := hS6.next hb
  replace hS7 := hS7.next hb
  (try replace zx := zx.below hb)
  clear hK K; try clear hb
  try go_frame
  refine tw 6 rfl fun K hK => ?_
  go_simp
  (first | ((with_reducible refine (TM.out _).mono ?_); rintro e wt ⟨bt, At, nt, ct, rfl, hb, zx⟩) | ((with_reducible refine (ID.out _).mono ?_); rintro e wd ⟨bd, Ad, nd, cd, rfl, hb, zd⟩) | ((with_reducible refine (DV.out _ _ _ zx zd).mono ?_); rintro e wq ⟨bq, Aq, nq, cq, br, Ar, nr, cr, rfl, hb, zq, zr⟩))
  refine hK.out _ _ (hHeld41.next hb) (fun hHeld42 => ?_)
  replace hS6 := hS6.next hb
  replace hS7 := hS7.next hb
  (try replace zx := zx.below hb)
  (try replace zd := zd.below hb)
  clear hK K; try clear hb
  try go_frame
  refine tv 7 10 rfl rfl ?_
  try go_frame
  refine tv 8 18 rfl rfl ?_
  try go_frame
  refine tv 9 19 rfl rfl ?_
  try go_frame
  refine tw 12 rfl fun K hK => ?_
  obtain ⟨⟨s6z0, s6c0, s6f0⟩, ⟨s6z1, s6c1, s6f1⟩, _⟩ := hS6.2
  go_simp
  refine hK.out _ _ (by (repeat (first | (with_reducible exact hHeld42) | (refine Keeps.set ?_ (by simp <;> omega) (by simp <;> omega) _)))) (fun hHeld43 => ?_)
  replace hS7 := hS7.mv2 hHeld43 (by first | omega | (simp <;> omega)) (by simp <;> omega)
  (try replace zq := zq.store2 hHeld43 s6c0 s6c1)
  replace hS6 := hHeld43.add2 s6z0 s6c0 s6f0 s6c1 s6f1
  clear s6z0 s6c0 s6f0 s6z1 s6c1 s6f1
  clear hK K; try clear hb
  try go_frame
  generalize hGWA31 : World.setCell (World.setCell wq ⟨wt.heap.size, 0, none⟩ (.bool bq)) ⟨wt.heap.size, 1, none⟩ (.slice Aq nq cq) = WA31 at *
  clear hGWA31
  refine tw 13 rfl fun K hK => ?_
  obtain ⟨⟨s7z0, s7c0, s7f0⟩, ⟨s7z1, s7c1, s7f1⟩, _⟩ := hS7.2
  go_simp
  refine hK.out _ _ (by (repeat (first | (with_reducible exact hHeld43) | (refine Keeps.set ?_ (by simp <;> omega) (by simp <;> omega) _)))) (fun hHeld44 => ?_)
  replace hS6 := hS6.mv2 hHeld44 (by first | omega | (simp <;> omega)) (by simp <;> omega)
  (try replace zq := zq.store2 hHeld44 s7c0 s7c1)
  replace hS7 := hHeld44.add2 s7z0 s7c0 s7f0 s7c1 s7f1
  clear s7z0 s7c0 s7f0 s7z1 s7c1 s7f1
  clear hK K; try clear hb
  try go_frame
  generalize hGWA32 : World.setCell (World.setCell WA31 ⟨WA23.heap.size, 0, none⟩ (.bool br)) ⟨WA23.heap.size, 1, none⟩ (.slice Ar nr cr) = WA32 at *
  clear hGWA32
  refine wpAnyH_done (by kernel_rfl) ?_ _
  have hHeld := hHeld44
  rotate_left 1
  exact AllReadyH.nil
  refine AllReadyH.cons rfl (fun K hK => ?_) ?_
  have lo7 := hHeld1.1.size
  obtain ⟨⟨a7_z0,_,_⟩,⟨a7_z1,_,_⟩,⟨a7_z2,_,_⟩,⟨a7_z3,_,_⟩,_⟩ := hHeld1.2
  (try simp at lo7); (try simp at a7_z0); (try simp at a7_z1); (try simp at a7_z2); (try simp at a7_z3)
  go_simp
  refine hK.out _ _ (by first | exact hHeld1.alloc _ | exact (hHeld1.alloc _).drew) (fun hHeld45 => ?_)
  (try replace zx := zx.alloc2 hHeld45)
  first | have hS7 := newK2 hHeld45 | have hS7 := newK2d hHeld45
  clear hK K; try clear hb
  try go_frame
  generalize hGWA33 : World.alloc wt (.cells #[.bool false, .slice none 0 0] 132) = WA33 at *
  clear hGWA33
  refine ty [5, 10] ?_
  refine AllReadyH.cons rfl (fun K hK => ?_) ?_
  go_simp
  (first | ((with_reducible refine (TM.out _).mono ?_); rintro e wt ⟨bt, At, nt, ct, rfl, hb, zx⟩) | ((with_reducible refine (ID.out _).mono ?_); rintro e wd ⟨bd, Ad, nd, cd, rfl, hb, zd⟩) | ((with_reducible refine (DV.out _ _ _ zx zd).mono ?_); rintro e wq ⟨bq, Aq, nq, cq, br, Ar, nr, cr, rfl, hb, zq, zr⟩))
  refine hK.out _ _ (hHeld45.next hb) (fun hHeld46 => ?_)
  replace hS7 := hS7.next hb
  (try replace zx := zx.below hb)
  clear hK K; try clear hb
  try go_frame
  refine ty [6, 10] ?_
  refine AllReadyH.cons rfl (fun K hK => ?_) ?_
  go_simp
  (first | ((with_reducible refine (TM.out _).mono ?_); rintro e wt ⟨bt, At, nt, ct, rfl, hb, zx⟩) | ((with_reducible refine (ID.out _).mono ?_); rintro e wd ⟨bd, Ad, nd, cd, rfl, hb, zd⟩) | ((with_reducible refine (DV.out _ _ _ zx zd).mono ?_); rintro e wq ⟨bq, Aq, nq, cq, br, Ar, nr, cr, rfl, hb, zq, zr⟩))
  refine hK.out _ _ (hHeld46.next hb) (fun hHeld47 => ?_)
  replace hS7 := hS7.next hb
  (try replace zx := zx.below hb)
  (try replace zd := zd.below hb)
  clear hK K; try clear hb
  try go_frame
  refine tv 7 10 rfl rfl ?_
  try go_frame
  refine tv 8 18 rfl rfl ?_
  try go_frame
  refine tv 9 19 rfl rfl ?_
  try go_frame
  refine tw 10 rfl fun K hK => ?_
  have hne7_6 := hS7.2.1.1
  have lo6 := hHeld47.1.size
  obtain ⟨⟨a6_z0,_,_⟩,⟨a6_z1,_,_⟩,⟨a6_z2,_,_⟩,⟨a6_z3,_,_⟩,_⟩ := hHeld47.2
  (try simp at lo6); (try simp at hne7_6); (try simp at a6_z0); (try simp at a6_z1); (try simp at a6_z2); (try simp at a6_z3)
  go_simp
  refine hK.out _ _ (by first | exact hHeld47.alloc _ | exact (hHeld47.alloc _).drew) (fun hHeld48 => ?_)
  first | replace hS7 := hS7.alloc2e hHeld48 | replace hS7 := hS7.alloc2 hHeld48
  (try replace zq := zq.alloc2 hHeld48)
  first | have hS6 := newK2 hHeld48 | have hS6 := newK2d hHeld48
  clear hK K; try clear hb
  try go_frame
  generalize hGWA34 : World.alloc wq (.cells #[.bool false, .slice none 0 0] 132) = WA34 at *
  clear hGWA34
  refine tw 12 rfl fun K hK => ?_
  obtain ⟨⟨s6z0, s6c0, s6f0⟩, ⟨s6z1, s6c1, s6f1⟩, _⟩ := hS6.2
  go_simp
  refine hK.out _ _ (by (repeat (first | (with_reducible exact hHeld48) | (refine Keeps.set ?_ (by simp <;> omega) (by simp <;> omega) _)))) (fun hHeld49 => ?_)
  replace hS7 := hS7.mv2 hHeld49 (by first | omega | (simp <;> omega)) (by simp <;> omega)
  (try replace zq := zq.store2 hHeld49 s6c0 s6c1)
  replace hS6 := hHeld49.add2 s6z0 s6c0 s6f0 s6c1 s6f1
  clear s6z0 s6c0 s6f0 s6z1 s6c1 s6f1
  clear hK K; try clear hb
  try go_frame
  generalize hGWA35 : World.setCell (World.setCell WA34 ⟨wq.heap.size, 0, none⟩ (.bool bq)) ⟨wq.heap.size, 1, none⟩ (.slice Aq nq cq) = WA35 at *
  clear hGWA35
  refine tw 13 rfl fun K hK => ?_
  obtain ⟨⟨s7z0, s7c0, s7f0⟩, ⟨s7z1, s7c1, s7f1⟩, _⟩ := hS7.2
  go_simp
  refine hK.out _ _ (by (repeat (first | (with_reducible exact hHeld49) | (refine Keeps.set ?_ (by simp <;> omega) (by simp <;> omega) _)))) (fun hHeld50 => ?_)
  replace hS6 := hS6.mv2 hHeld50 (by first | omega | (simp <;> omega)) (by simp <;> omega)
  (try replace zq := zq.store2 hHeld50 s7c0 s7c1)
  replace hS7 := hHeld50.add2 s7z0 s7c0 s7f0 s7c1 s7f1
  clear s7z0 s7c0 s7f0 s7z1 s7c1 s7f1
  clear hK K; try clear hb
  try go_frame
  generalize hGWA36 : World.setCell (World.setCell WA35 ⟨wt.heap.size, 0, none⟩ (.bool br)) ⟨wt.heap.size, 1, none⟩ (.slice Ar nr cr) = WA36 at *
  clear hGWA36
  refine wpAnyH_done (by kernel_rfl) ?_ _
  have hHeld := hHeld50
  rotate_left 1
  refine AllReadyH.cons rfl (fun K hK => ?_) ?_
  have hne7_6 := hS7.2.1.1
  have lo6 := hHeld46.1.size
  obtain ⟨⟨a6_z0,_,_⟩,⟨a6_z1,_,_⟩,⟨a6_z2,_,_⟩,⟨a6_z3,_,_⟩,_⟩ := hHeld46.2
  (try simp at lo6); (try simp at hne7_6); (try simp at a6_z0); (try simp at a6_z1); (try simp at a6_z2); (try simp at a6_z3)
  go_simp
  refine hK.out _ _ (by first | exact hHeld46.alloc _ | exact (hHeld46.alloc _).drew) (fun hHeld51 => ?_)
  first | replace hS7 := hS7.alloc2e hHeld51 | replace hS7 := hS7.alloc2 hHeld51
  (try replace zx := zx.alloc2 hHeld51)
  (try replace zd := zd.alloc2 hHeld51)
  first | have hS6 := newK2 hHeld51 | have hS6 := newK2d hHeld51
  clear hK K; try clear hb
  try go_frame
  generalize hGWA37 : World.alloc wd (.cells #[.bool false, .slice none 0 0] 132) = WA37 at *
  clear hGWA37
  refine tw 6 rfl fun K hK => ?_
  go_simp
  (first | ((with_reducible refine (TM.out _).mono ?_); rintro e wt ⟨bt, At, nt, ct, rfl, hb, zx⟩) | ((with_reducible refine (ID.out _).mono ?_); rintro e wd ⟨bd, Ad, nd, cd, rfl, hb, zd⟩) | ((with_reducible refine (DV.out _ _ _ zx zd).mono ?_); rintro e wq ⟨bq, Aq, nq, cq, br, Ar, nr, cr, rfl, hb, zq, zr⟩))
  refine hK.out _ _ (hHeld51.next hb) (fun hHeld52 => ?_)
  replace hS7 := hS7.next hb
  replace hS6 := hS6.next hb
  (try replace zx := zx.below hb)
  (try replace zd := zd.below hb)
  clear hK K; try clear hb
  try go_frame
  refine tv 7 10 rfl rfl ?_
  try go_frame
  refine tv 8 18 rfl rfl ?_
  try go_frame
  refine tv 9 19 rfl rfl ?_
  try go_frame
  refine tw 12 rfl fun K hK => ?_
  obtain ⟨⟨s6z0, s6c0, s6f0⟩, ⟨s6z1, s6c1, s6f1⟩, _⟩ := hS6.2
  go_simp
  refine hK.out _ _ (by (repeat (first | (with_reducible exact hHeld52) | (refine Keeps.set ?_ (by simp <;> omega) (by simp <;> omega) _)))) (fun hHeld53 => ?_)
  replace hS7 := hS7.mv2 hHeld53 (by first | omega | (simp <;> omega)) (by simp <;> omega)
  (try replace zq := zq.store2 hHeld53 s6c0 s6c1)
  replace hS6 := hHeld53.add2 s6z0 s6c0 s6f0 s6c1 s6f1
  clear s6z0 s6c0 s6f0 s6z1 s6c1 s6f1
  clear hK K; try clear hb
  try go_frame
  generalize hGWA38 : World.setCell (World.setCell wq ⟨wd.heap.size, 0, none⟩ (.bool bq)) ⟨wd.heap.size, 1, none⟩ (.slice Aq nq cq) = WA38 at *
  clear hGWA38
  refine tw 13 rfl fun K hK => ?_
  obtain ⟨⟨s7z0, s7c0, s7f0⟩, ⟨s7z1, s7c1, s7f1⟩, _⟩ := hS7.2
  go_simp
  refine hK.out _ _ (by (repeat (first | (with_reducible exact hHeld53) | (refine Keeps.set ?_ (by simp <;> omega) (by simp <;> omega) _)))) (fun hHeld54 => ?_)
  replace hS6 := hS6.mv2 hHeld54 (by first | omega | (simp <;> omega)) (by simp <;> omega)
  (try replace zq := zq.store2 hHeld54 s7c0 s7c1)
  replace hS7 := hHeld54.add2 s7z0 s7c0 s7f0 s7c1 s7f1
  clear s7z0 s7c0 s7f0 s7z1 s7c1 s7f1
  clear hK K; try clear hb
  try go_frame
  generalize hGWA39 : World.setCell (World.setCell WA38 ⟨wt.heap.size, 0, none⟩ (.bool br)) ⟨wt.heap.size, 1, none⟩ (.slice Ar nr cr) = WA39 at *
  clear hGWA39
  refine wpAnyH_done (by kernel_rfl) ?_ _
  have hHeld := hHeld54
  rotate_left 1
  exact AllReadyH.nil
  refine AllReadyH.cons rfl (fun K hK => ?_) ?_
  have hne7_6 := hS7.2.1.1
  have lo6 := hHeld45.1.size
  obtain ⟨⟨a6_z0,_,_⟩,⟨a6_z1,_,_⟩,⟨a6_z2,_,_⟩,⟨a6_z3,_,_⟩,_⟩ := hHeld45.2
  (try simp at lo6); (try simp at hne7_6); (try simp at a6_z0); (try simp at a6_z1); (try simp at a6_z2); (try simp at a6_z3)
  go_simp
  refine hK.out _ _ (by first | exact hHeld45.alloc _ | exact (hHeld45.alloc _).drew) (fun hHeld55 => ?_)
  first | replace hS7 := hS7.alloc2e hHeld55 | replace hS7 := hS7.alloc2 hHeld55
  (try replace zx := zx.alloc2 hHeld55)
  first | have hS6 := newK2 hHeld55 | have hS6 := newK2d hHeld55
  clear hK K; try clear hb
  try go_frame
  generalize hGWA40 : World.alloc WA33 (.cells #[.bool false, .slice none 0 0] 132) = WA40 at *
  clear hGWA40
  refine tw 5 rfl fun K hK => ?_
  go_simp
  (first | ((with_reducible refine (TM.out _).mono ?_); rintro e wt ⟨bt, At, nt, ct, rfl, hb, zx⟩) | ((with_reducible refine (ID.out _).mono ?_); rintro e wd ⟨bd, Ad, nd, cd, rfl, hb, zd⟩) | ((with_reducible refine (DV.out _ _ _ zx zd).mono ?_); rintro e wq ⟨bq, Aq, nq, cq, br, Ar, nr, cr, rfl, hb, zq, zr⟩))
  refine hK.out _ _ (hHeld55.next hb) (fun hHeld56 => ?_)
  replace hS7 := hS7.next hb
  replace hS6 := hS6.next hb
  (try replace zx := zx.below hb)
  clear hK K; try clear hb
  try go_frame
  refine tw 6 rfl fun K hK => ?_
  go_simp
  (first | ((with_reducible refine (TM.out _).mono ?_); rintro e wt ⟨bt, At, nt, ct, rfl, hb, zx⟩) | ((with_reducible refine (ID.out _).mono ?_); rintro e wd ⟨bd, Ad, nd, cd, rfl, hb, zd⟩) | ((with_reducible refine (DV.out _ _ _ zx zd).mono ?_); rintro e wq ⟨bq, Aq, nq, cq, br, Ar, nr, cr, rfl, hb, zq, zr⟩))
  refine hK.out _ _ (hHeld56.next hb) (fun hHeld57 => ?_)
  replace hS7 := hS7.next hb
  replace hS6 := hS6.next hb
  (try replace zx := zx.below hb)
  (try replace zd := zd.below hb)
  clear hK K; try clear hb
  try go_frame
  refine tv 7 10 rfl rfl ?_
  try go_frame
  refine tv 8 18 rfl rfl ?_
  try go_frame
  refine tv 9 19 rfl rfl ?_
  try go_frame
  refine tw 12 rfl fun K hK => ?_
  obtain ⟨⟨s6z0, s6c0, s6f0⟩, ⟨s6z1, s6c1, s6f1⟩, _⟩ := hS6.2
  go_simp
  refine hK.out _ _ (by (repeat (first | (with_reducible exact hHeld57) | (refine Keeps.set ?_ (by simp <;> omega) (by simp <;> omega) _)))) (fun hHeld58 => ?_)
  replace hS7 := hS7.mv2 hHeld58 (by first | omega | (simp <;> omega)) (by simp <;> omega)
  (try replace zq := zq.store2 hHeld58 s6c0 s6c1)
  replace hS6 := hHeld58.add2 s6z0 s6c0 s6f0 s6c1 s6f1
  clear s6z0 s6c0 s6f0 s6z1 s6c1 s6f1
  clear hK K; try clear hb
  try go_frame
  generalize hGWA41 : World.setCell (World.setCell wq ⟨WA33.heap.size, 0, none⟩ (.bool bq)) ⟨WA33.heap.size, 1, none⟩ (.slice Aq nq cq) = WA41 at *
  clear hGWA41
  refine tw 13 rfl fun K hK => ?_
  obtain ⟨⟨s7z0, s7c0, s7f0⟩, ⟨s7z1, s7c1, s7f1⟩, _⟩ := hS7.2
  go_simp
  refine hK.out _ _ (by (repeat (first | (with_reducible exact hHeld58) | (refine Keeps.set ?_ (by simp <;> omega) (by simp <;> omega) _)))) (fun hHeld59 => ?_)
  replace hS6 := hS6.mv2 hHeld59 (by first | omega | (simp <;> omega)) (by simp <;> omega)
  (try replace zq := zq.store2 hHeld59 s7c0 s7c1)
  replace hS7 := hHeld59.add2 s7z0 s7c0 s7f0 s7c1 s7f1
  clear s7z0 s7c0 s7f0 s7z1 s7c1 s7f1
  clear hK K; try clear hb
  try go_frame
  generalize hGWA42 : World.setCell (World.setCell WA41 ⟨wt.heap.size, 0, none⟩ (.bool br)) ⟨wt.heap.size, 1, none⟩ (.slice Ar nr cr) = WA42 at *
  clear hGWA42
  refine wpAnyH_done (by kernel_rfl) ?_ _
  have hHeld := hHeld59
  rotate_left 1
  exact AllReadyH.nil
  exact AllReadyH.nil
  refine AllReadyH.cons rfl (fun K hK => ?_) ?_
  have lo6 := hHeld0.1.size
  obtain ⟨⟨a6_z0,_,_⟩,⟨a6_z1,_,_⟩,⟨a6_z2,_,_⟩,⟨a6_z3,_,_⟩,_⟩ := hHeld0.2
  (try simp at lo6); (try simp at a6_z0); (try simp at a6_z1); (try simp at a6_z2); (try simp at a6_z3)
  go_simp
  refine hK.out _ _ (by first | exact hHeld0.alloc _ | exact (hHeld0.alloc _).drew) (fun hHeld60 => ?_)
  first | have hS6 := newK2 hHeld60 | have hS6 := newK2d hHeld60
  clear hK K; try clear hb
  try go_frame
  generalize hGWA43 : World.alloc wi (.cells #[.bool false, .slice none 0 0] 132) = WA43 at *
  clear hGWA43
  refine ty [2, 11] ?_
  refine AllReadyH.cons rfl (fun K hK => ?_) ?_
  go_simp
  (first | ((with_reducible refine (TM.out _).mono ?_); rintro e wt ⟨bt, At, nt, ct, rfl, hb, zx⟩) | ((with_reducible refine (ID.out _).mono ?_); rintro e wd ⟨bd, Ad, nd, cd, rfl, hb, zd⟩) | ((with_reducible refine (DV.out _ _ _ zx zd).mono ?_); rintro e wq ⟨bq, Aq, nq, cq, br, Ar, nr, cr, rfl, hb, zq, zr⟩))
  refine hK.out _ _ (hHeld60.next hb) (fun hHeld61 => ?_)
  replace hS6 := hS6.next hb
  clear hK K; try clear hb
  try go_frame
  refine ty [5, 11] ?_
  refine AllReadyH.cons rfl (fun K hK => ?_) ?_
  go_simp
  (first | ((with_reducible refine (TM.out _).mono ?_); rintro e wt ⟨bt, At, nt, ct, rfl, hb, zx⟩) | ((with_reducible refine (ID.out _).mono ?_); rintro e wd ⟨bd, Ad, nd, cd, rfl, hb, zd⟩) | ((with_reducible refine (DV.out _ _ _ zx zd).mono ?_); rintro e wq ⟨bq, Aq, nq, cq, br, Ar, nr, cr, rfl, hb, zq, zr⟩))
  refine hK.out _ _ (hHeld61.next hb) (fun hHeld62 => ?_)
  replace hS6 := hS6.next hb
  (try replace zx := zx.below hb)
  clear hK K; try clear hb
  try go_frame
  refine ty [6, 11] ?_
  refine AllReadyH.cons rfl (fun K hK => ?_) ?_
  go_simp
  (first | ((with_reducible refine (TM.out _).mono ?_); rintro e wt ⟨bt, At, nt, ct, rfl, hb, zx⟩) | ((with_reducible refine (ID.out _).mono ?_); rintro e wd ⟨bd, Ad, nd, cd, rfl, hb, zd⟩) | ((with_reducible refine (DV.out _ _ _ zx zd).mono ?_); rintro e wq ⟨bq, Aq, nq, cq, br, Ar, nr, cr, rfl, hb, zq, zr⟩))
  refine hK.out _ _ (hHeld62.next hb) (fun hHeld63 => ?_)
  replace hS6 := hS6.next hb
  (try replace zx := zx.below hb)
  (try replace zd := zd.below hb)
  clear hK K; try clear hb
  try go_frame
  refine tv 7 10 rfl rfl ?_
  try go_frame
  refine tv 8 18 rfl rfl ?_
  try go_frame
  refine tv 9 19 rfl rfl ?_
  try go_frame
  refine tw 11 rfl fun K hK => ?_
  have hne6_7 := hS6.2.1.1
  have lo7 := hHeld63.1.size
  obtain ⟨⟨a7_z0,_,_⟩,⟨a7_z1,_,_⟩,⟨a7_z2,_,_⟩,⟨a7_z3,_,_⟩,_⟩ := hHeld63.2
  (try simp at lo7); (try simp at hne6_7); (try simp at a7_z0); (try simp at a7_z1); (try simp at a7_z2); (try simp at a7_z3)
  go_simp
  refine hK.out _ _ (by first | exact hHeld63.alloc _ | exact (hHeld63.alloc _).drew) (fun hHeld64 => ?_)
  first | replace hS6 := hS6.alloc2e hHeld64 | replace hS6 := hS6.alloc2 hHeld64
  (try replace zq := zq.alloc2 hHeld64)
  first | have hS7 := newK2 hHeld64 | have hS7 := newK2d hHeld64
  clear hK K; try clear hb
  try go_frame
  generalize hGWA44 : World.alloc wq (.cells #[.bool false, .slice none 0 0] 132) = WA44 at *
  clear hGWA44
  refine tw 12 rfl fun K hK => ?_
  obtain ⟨⟨s6z0, s6c0, s6f0⟩, ⟨s6z1, s6c1, s6f1⟩, _⟩ := hS6.2
  go_simp
  refine hK.out _ _ (by (repeat (first | (with_reducible exact hHeld64) | (refine Keeps.set ?_ (by simp <;> omega) (by simp <;> omega) _)))) (fun hHeld65 => ?_)
  replace hS7 := hS7.mv2 hHeld65 (by first | omega | (simp <;> omega)) (by simp <;> omega)
  (try replace zq := zq.store2 hHeld65 s6c0 s6c1)
  replace hS6 := hHeld65.add2 s6z0 s6c0 s6f0 s6c1 s6f1
  clear s6z0 s6c0 s6f0 s6z1 s6c1 s6f1
  clear hK K; try clear hb
  try go_frame
  generalize hGWA45 : World.setCell (World.setCell WA44 ⟨wi.heap.size, 0, none⟩ (.bool bq)) ⟨wi.heap.size, 1, none⟩ (.slice Aq nq cq) = WA45 at *
  clear hGWA45
  refine tw 13 rfl fun K hK => ?_
  obtain ⟨⟨s7z0, s7c0, s7f0⟩, ⟨s7z1, s7c1, s7f1⟩, _⟩ := hS7.2
  go_simp
  refine hK.out _ _ (by (repeat (first | (with_reducible exact hHeld65) | (refine Keeps.set ?_ (by simp <;> omega) (by simp <;> omega) _)))) (fun hHeld66 => ?_)
  replace hS6 := hS6.mv2 hHeld66 (by first | omega | (simp <;> omega)) (by simp <;> omega)
  (try replace zq := zq.store2 hHeld66 s7c0 s7c1)
  replace hS7 := hHeld66.add2 s7z0 s7c0 s7f0 s7c1 s7f1
  clear s7z0 s7c0 s7f0 s7z1 s7c1 s7f1
  clear hK K; try clear hb
  try go_frame
  generalize hGWA46 : World.setCell (World.setCell WA45 ⟨wq.heap.size, 0, none⟩ (.bool br)) ⟨wq.heap.size, 1, none⟩ (.slice Ar nr cr) = WA46 at *
  clear hGWA46
  refine wpAnyH_done (by kernel_rfl) ?_ _
  have hHeld := hHeld66
  rotate_left 1
  refine AllReadyH.cons rfl (fun K hK => ?_) ?_
  have hne6_7 := hS6.2.1.1
  have lo7 := hHeld62.1.size
  obtain ⟨⟨a7_z0,_,_⟩,⟨a7_z1,_,_⟩,⟨a7_z2,_,_⟩,⟨a7_z3,_,_⟩,_⟩ := hHeld62.2
  (try simp at lo7); (try simp at hne6_7); (try simp at a7_z0); (try simp at a7_z1); (try simp at a7_z2); (try simp at a7_z3)
  go_simp
  refine hK.out _ _ (by first | exact hHeld62.alloc _ | exact (hHeld62.alloc _).drew) (fun hHeld67 => ?_)
  first | replace hS6 := hS6.alloc2e hHeld67 | replace hS6 := hS6.alloc2 hHeld67
  (try replace zx := zx.alloc2 hHeld67)
  (try replace zd := zd.alloc2 hHeld67)
  first | have hS7 := newK2 hHeld67 | have hS7 := newK2d hHeld67
  clear hK K; try clear hb
  try go_frame
  generalize hGWA47 : World.alloc wd (.cells #[.bool false, .slice none 0 0] 132) = WA47 at *
  clear hGWA47
  refine tw 6 rfl fun K hK => ?_
  go_simp
  (first | ((with_reducible refine (TM.out _).mono ?_); rintro e wt ⟨bt, At, nt, ct, rfl, hb, zx⟩) | ((with_reducible refine (ID.out _).mono ?_); rintro e wd ⟨bd, Ad, nd, cd, rfl, hb, zd⟩) | ((with_reducible refine (DV.out _ _ _ zx zd).mono ?_); rintro e wq ⟨bq, Aq, nq, cq, br, Ar, nr, cr, rfl, hb, zq, zr⟩))
  refine hK.out _ _ (hHeld67.next hb) (fun hHeld68 => ?_)
  replace hS6 := hS6.next hb
  replace hS7 := hS7.next hb
  (try replace zx := zx.below hb)
  (try replace zd := zd.below hb)
  clear hK K; try clear hb
  try go_frame
  refine tv 7 10 rfl rfl ?_
  try go_frame
  refine tv 8 18 rfl rfl ?_
  try go_frame
  refine tv 9 19 rfl rfl ?_
  try go_frame
  refine tw 12 rfl fun K hK => ?_
  obtain ⟨⟨s6z0, s6c0, s6f0⟩, ⟨s6z1, s6c1, s6f1⟩, _⟩ := hS6.2
  go_simp
  refine hK.out _ _ (by (repeat (first | (with_reducible exact hHeld68) | (refine Keeps.set ?_ (by simp <;> omega) (by simp <;> omega) _)))) (fun hHeld69 => ?_)
  replace hS7 := hS7.mv2 hHeld69 (by first | omega | (simp <;> omega)) (by simp <;> omega)
  (try replace zq := zq.store2 hHeld69 s6c0 s6c1)
  replace hS6 := hHeld69.add2 s6z0 s6c0 s6f0 s6c1 s6f1
  clear s6z0 s6c0 s6f0 s6z1 s6c1 s6f1
  clear hK K; try clear hb
  try go_frame
  generalize hGWA48 : World.setCell (World.setCell wq ⟨wi.heap.size, 0, none⟩ (.bool bq)) ⟨wi.heap.size, 1, none⟩ (.slice Aq nq cq) = WA48 at *
  clear hGWA48
  refine tw 13 rfl fun K hK => ?_
  obtain ⟨⟨s7z0, s7c0, s7f0⟩, ⟨s7z1, s7c1, s7f1⟩, _⟩ := hS7.2
  go_simp
  refine hK.out _ _ (by (repeat (first | (with_reducible exact hHeld69) | (refine Keeps.set ?_ (by simp <;> omega) (by simp <;> omega) _)))) (fun hHeld70 => ?_)
  replace hS6 := hS6.mv2 hHeld70 (by first | omega | (simp <;> omega)) (by simp <;> omega)
  (try replace zq := zq.store2 hHeld70 s7c0 s7c1)
  replace hS7 := hHeld70.add2 s7z0 s7c0 s7f0 s7c1 s7f1
  clear s7z0 s7c0 s7f0 s7z1 s7c1 s7f1
  clear hK K; try clear hb
  try go_frame
  generalize hGWA49 : World.setCell (World.setCell WA48 ⟨wd.heap.size, 0, none⟩ (.bool br)) ⟨wd.heap.size, 1, none⟩ (.slice Ar nr cr) = WA49 at *
  clear hGWA49
  refine wpAnyH_done (by kernel_rfl) ?_ _
  have hHeld := hHeld70
  rotate_left 1
  exact AllReadyH.nil
  refine AllReadyH.cons rfl (fun K hK => ?_) ?_
  have hne6_7 := hS6.2.1.1
  have lo7 := hHeld61.1.size
  obtain ⟨⟨a7_z0,_,_⟩,⟨a7_z1,_,_⟩,⟨a7_z2,_,_⟩,⟨a7_z3,_,_⟩,_⟩ := hHeld61.2
  (try simp at lo7); (try simp at hne6_7); (try simp at a7_z0); (try simp at a7_z1); (try simp at a7_z2); (try simp at a7_z3)
  go_simp
  refine hK.out _ _ (by first | exact hHeld61.alloc _ | exact (hHeld61.alloc _).drew) (fun hHeld71 => ?_)
  first | replace hS6 := hS6.alloc2e hHeld71 | replace hS6 := hS6.alloc2 hHeld71
  (try replace zx := zx.alloc2 hHeld71)
  first | have hS7 := newK2 hHeld71 | have hS7 := newK2d hHeld71
  clear hK K; try clear hb
  try go_frame
  generalize hGWA50 : World.alloc wt (.cells #[.bool false, .slice none 0 0] 132) = WA50 at *
  clear hGWA50
  refine tw 5 rfl fun K hK => ?_
  go_simp
  (first | ((with_reducible refine (TM.out _).mono ?_); rintro e wt ⟨bt, At, nt, ct, rfl, hb, zx⟩) | ((with_reducible refine (ID.out _).mono ?_); rintro e wd ⟨bd, Ad, nd, cd, rfl, hb, zd⟩) | ((with_reducible refine (DV.out _ _ _ zx zd).mono ?_); rintro e wq ⟨bq, Aq, nq, cq, br, Ar, nr, cr, rfl, hb, zq, zr⟩))
  refine hK.out _ _ (hHeld71.next hb) (fun hHeld72 => ?_)
  replace hS6 := hS6.next hb
  replace hS7 := hS7.next hb
  (try replace zx := zx.below hb)
  clear hK K; try clear hb
  try go_frame
  refine tw 6 rfl fun K hK => ?_
  go_simp
  (first | ((with_reducible refine (TM.out _).mono ?_); rintro e wt ⟨bt, At, nt, ct, rfl, hb, zx⟩) | ((with_reducible refine (ID.out _).mono ?_); rintro e wd ⟨bd, Ad, nd, cd, rfl, hb, zd⟩) | ((with_reducible refine (DV.out _ _ _ zx zd).mono ?_); rintro e wq ⟨bq, Aq, nq, cq, br, Ar, nr, cr, rfl, hb, zq, zr⟩))
  refine hK.out _ _ (hHeld72.next hb) (fun hHeld73 => ?_)
  replace hS6 := hS6.next hb
  replace hS7 := hS7.next hb
  (try replace zx := zx.below hb)
  (try replace zd := zd.below hb)
  clear hK K; try clear hb
  try go_frame
  refine tv 7 10 rfl rfl ?_
  try go_frame
  refine tv 8 18 rfl rfl ?_
  try go_frame
  refine tv 9 19 rfl rfl ?_
  try go_frame
  refine tw 12 rfl fun K hK => ?_
  obtain ⟨⟨s6z0, s6c0, s6f0⟩, ⟨s6z1, s6c1, s6f1⟩, _⟩ := hS6.2
  go_simp
  refine hK.out _ _ (by (repeat (first | (with_reducible exact hHeld73) | (refine Keeps.set ?_ (by simp <;> omega) (by simp <;> omega) _)))) (fun hHeld74 => ?_)
  replace hS7 := hS7.mv2 hHeld74 (by first | omega | (simp <;> omega)) (by simp <;> omega)
  (try replace zq := zq.store2 hHeld74 s6c0 s6c1)
  replace hS6 := hHeld74.add2 s6z0 s6c0 s6f0 s6c1 s6f1
  clear s6z0 s6c0 s6f0 s6z1 s6c1 s6f1
  clear hK K; try clear hb
  try go_frame
  generalize hGWA51 : World.setCell (World.setCell wq ⟨wi.heap.size, 0, none⟩ (.bool bq)) ⟨wi.heap.size, 1, none⟩ (.slice Aq nq cq) = WA51 at *
  clear hGWA51
  refine tw 13 rfl fun K hK => ?_
  obtain ⟨⟨s7z0, s7c0, s7f0⟩, ⟨s7z1, s7c1, s7f1⟩, _⟩ := hS7.2
  go_simp
  refine hK.out _ _ (by (repeat (first | (with_reducible exact hHeld74) | (refine Keeps.set ?_ (by simp <;> omega) (by simp <;> omega) _)))) (fun hHeld75 => ?_)
  replace hS6 := hS6.mv2 hHeld75 (by first | omega | (simp <;> omega)) (by simp <;> omega)
  (try replace zq := zq.store2 hHeld75 s7c0 s7c1)
  replace hS7 := hHeld75.add2 s7z0 s7c0 s7f0 s7c1 s7f1
  clear s7z0 s7c0 s7f0 s7z1 s7c1 s7f1
  clear hK K; try clear hb
  try go_frame
  generalize hGWA52 : World.setCell (World.setCell WA51 ⟨wt.heap.size, 0, none⟩ (.bool br)) ⟨wt.heap.size, 1, none⟩ (.slice Ar nr cr) = WA52 at *
  clear hGWA52
  refine wpAnyH_done (by kernel_rfl) ?_ _
  have hHeld := hHeld75
  rotate_left 1
  exact AllReadyH.nil
  refine AllReadyH.cons rfl (fun K hK => ?_) ?_
  have hne6_7 := hS6.2.1.1
  have lo7 := hHeld60.1.size
  obtain ⟨⟨a7_z0,_,_⟩,⟨a7_z1,_,_⟩,⟨a7_z2,_,_⟩,⟨a7_z3,_,_⟩,_⟩ := hHeld60.2
  (try simp at lo7); (try simp at hne6_7); (try simp at a7_z0); (try simp at a7_z1); (try simp at a7_z2); (try simp at a7_z3)
  go_simp
  refine hK.out _ _ (by first | exact hHeld60.alloc _ | exact (hHeld60.alloc _).drew) (fun hHeld76 => ?_)
  first | replace hS6 := hS6.alloc2e hHeld76 | replace hS6 := hS6.alloc2 hHeld76
  first | have hS7 := newK2 hHeld76 | have hS7 := newK2d hHeld76
  clear hK K; try clear hb
  try go_frame
  generalize hGWA53 : World.alloc WA43 (.cells #[.bool false, .slice none 0 0] 132) = WA53 at *
  clear hGWA53
  refine tw 2 rfl fun K hK => ?_
  go_simp
  (first | ((with_reducible refine (TM.out _).mono ?_); rintro e wt ⟨bt, At, nt, ct, rfl, hb, zx⟩) | ((with_reducible refine (ID.out _).mono ?_); rintro e wd ⟨bd, Ad, nd, cd, rfl, hb, zd⟩) | ((with_reducible refine (DV.out _ _ _ zx zd).mono ?_); rintro e wq ⟨bq, Aq, nq, cq, br, Ar, nr, cr, rfl, hb, zq, zr⟩))
  refine hK.out _ _ (hHeld76.next hb) (fun hHeld77 => ?_)
  replace hS6 := hS6.next hb
  replace hS7 := hS7.next hb
  clear hK K; try clear hb
  try go_frame
  refine tw 5 rfl fun K hK => ?_
  go_simp
  (first | ((with_reducible refine (TM.out _).mono ?_); rintro e wt ⟨bt, At, nt, ct, rfl, hb, zx⟩) | ((with_reducible refine (ID.out _).mono ?_); rintro e wd ⟨bd, Ad, nd, cd, rfl, hb, zd⟩) | ((with_reducible refine (DV.out _ _ _ zx zd).mono ?_); rintro e wq ⟨bq, Aq, nq, cq, br, Ar, nr, cr, rfl, hb, zq, zr⟩))
  refine hK.out _ _ (hHeld77.next hb) (fun hHeld78 => ?_)
  replace hS6 := hS6.next hb
  replace hS7 := hS7.next hb
  (try replace zx := zx.below hb)
  clear hK K; try clear hb
  try go_frame
  refine tw 6 rfl fun K hK => ?_
  go_simp
  (first | ((with_reducible refine (TM.out _).mono ?_); rintro e wt ⟨bt, At, nt, ct, rfl, hb, zx⟩) | ((with_reducible refine (ID.out _).mono ?_); rintro e wd ⟨bd, Ad, nd, cd, rfl, hb, zd⟩) | ((with_reducible refine (DV.out _ _ _ zx zd).mono ?_); rintro e wq ⟨bq, Aq, nq, cq, br, Ar, nr, cr, rfl, hb, zq, zr⟩))
  refine hK.out _ _ (hHeld78.next hb) (fun hHeld79 => ?_)
  replace hS6 := hS6.next hb
  replace hS7 := hS7.next hb
  (try replace zx := zx.below hb)
  (try replace zd := zd.below hb)
  clear hK K; try clear hb
  try go_frame
  refine tv 7 10 rfl rfl ?_
  try go_frame
  refine tv 8 18 rfl rfl ?_
  try go_frame
  refine tv 9 19 rfl rfl ?_
  try go_frame
  refine tw 12 rfl fun K hK => ?_
  obtain ⟨⟨s6z0, s6c0, s6f0⟩, ⟨s6z1, s6c1, s6f1⟩, _⟩ := hS6.2
  go_simp
  refine hK.out _ _ (by (repeat (first | (with_reducible exact hHeld79) | (refine Keeps.set ?_ (by simp <;> omega) (by simp <;> omega) _)))) (fun hHeld80 => ?_)
  replace hS7 := hS7.mv2 hHeld80 (by first | omega | (simp <;> omega)) (by simp <;> omega)
  (try replace zq := zq.store2 hHeld80 s6c0 s6c1)
  replace hS6 := hHeld80.add2 s6z0 s6c0 s6f0 s6c1 s6f1
  clear s6z0 s6c0 s6f0 s6z1 s6c1 s6f1
  clear hK K; try clear hb
  try go_frame
  generalize hGWA54 : World.setCell (World.setCell wq ⟨wi.heap.size, 0, none⟩ (.bool bq)) ⟨wi.heap.size, 1, none⟩ (.slice Aq nq cq) = WA54 at *
  clear hGWA54
  refine tw 13 rfl fun K hK => ?_
  obtain ⟨⟨s7z0, s7c0, s7f0⟩, ⟨s7z1, s7c1, s7f1⟩, _⟩ := hS7.2
  go_simp
  refine hK.out _ _ (by (repeat (first | (with_reducible exact hHeld80) | (refine Keeps.set ?_ (by simp <;> omega) (by simp <;> omega) _)))) (fun hHeld81 => ?_)
  replace hS6 := hS6.mv2 hHeld81 (by first | omega | (simp <;> omega)) (by simp <;> omega)
  (try replace zq := zq.store2 hHeld81 s7c0 s7c1)
  replace hS7 := hHeld81.add2 s7z0 s7c0 s7f0 s7c1 s7f1
  clear s7z0 s7c0 s7f0 s7z1 s7c1 s7f1
  clear hK K; try clear hb
  try go_frame
  generalize hGWA55 : World.setCell (World.setCell WA54 ⟨WA43.heap.size, 0, none⟩ (.bool br)) ⟨WA43.heap.size, 1, none⟩ (.slice Ar nr cr) = WA55 at *
  clear hGWA55
  refine wpAnyH_done (by kernel_rfl) ?_ _
  have hHeld := hHeld81
  rotate_left 1
  exact AllReadyH.nil
  refine AllReadyH.cons rfl (fun K hK => ?_) ?_
  have lo7 := hHeld0.1.size
  obtain ⟨⟨a7_z0,_,_⟩,⟨a7_z1,_,_⟩,⟨a7_z2,_,_⟩,⟨a7_z3,_,_⟩,_⟩ := hHeld0.2
  (try simp at lo7); (try simp at a7_z0); (try simp at a7_z1); (try simp at a7_z2); (try simp at a7_z3)
  go_simp
  refine hK.out _ _ (by first | exact hHeld0.alloc _ | exact (hHeld0.alloc _).drew) (fun hHeld82 => ?_)
  first | have hS7 := newK2 hHeld82 | have hS7 := newK2d hHeld82
  clear hK K; try clear hb
  try go_frame
  generalize hGWA56 : World.alloc wi (.cells #[.bool false, .slice none 0 0] 132) = WA56 at *
  clear hGWA56
  refine ty [2, 10] ?_
  refine AllReadyH.cons rfl (fun K hK => ?_) ?_
  go_simp
  (first | ((with_reducible refine (TM.out _).mono ?_); rintro e wt ⟨bt, At, nt, ct, rfl, hb, zx⟩) | ((with_reducible refine (ID.out _).mono ?_); rintro e wd ⟨bd, Ad, nd, cd, rfl, hb, zd⟩) | ((with_reducible refine (DV.out _ _ _ zx zd).mono ?_); rintro e wq ⟨bq, Aq, nq, cq, br, Ar, nr, cr, rfl, hb, zq, zr⟩))
  refine hK.out _ _ (hHeld82.next hb) (fun hHeld83 => ?_)
  replace hS7 := hS7.next hb
  clear hK K; try clear hb
  try go_frame
  refine ty [5, 10] ?_
  refine AllReadyH.cons rfl (fun K hK => ?_) ?_
  go_simp
  (first | ((with_reducible refine (TM.out _).mono ?_); rintro e wt ⟨bt, At, nt, ct, rfl, hb, zx⟩) | ((with_reducible refine (ID.out _).mono ?_); rintro e wd ⟨bd, Ad, nd, cd, rfl, hb, zd⟩) | ((with_reducible refine (DV.out _ _ _ zx zd).mono ?_); rintro e wq ⟨bq, Aq, nq, cq, br, Ar, nr, cr, rfl, hb, zq, zr⟩))
  refine hK.out _ _ (hHeld83.next hb) (fun hHeld84 => ?_)
  replace hS7 := hS7.next hb
  (try replace zx := zx.below hb)
  clear hK K; try clear hb
  try go_frame
  refine ty [6, 10] ?_
  refine AllReadyH.cons rfl (fun K hK => ?_) ?_
  go_simp
  (first | ((with_reducible refine (TM.out _).mono ?_); rintro e wt ⟨bt, At, nt, ct, rfl, hb, zx⟩) | ((with_reducible refine (ID.out _).mono ?_); rintro e wd ⟨bd, Ad, nd, cd, rfl, hb, zd⟩) | ((with_reducible refine (DV.out _ _ _ zx zd).mono ?_); rintro e wq ⟨bq, Aq, nq, cq, br, Ar, nr, cr, rfl, hb, zq, zr⟩))
  refine hK.out _ _ (hHeld84.next hb) (fun hHeld85 => ?_)
  replace hS7 := hS7.next hb
  (try replace zx := zx.below hb)
  (try replace zd := zd.below hb)
  clear hK K; try clear hb
  try go_frame
  refine tv 7 10 rfl rfl ?_
  try go_frame
  refine tv 8 18 rfl rfl ?_
  try go_frame
  refine tv 9 19 rfl rfl ?_
  try go_frame
  refine tw 10 rfl fun K hK => ?_
  have hne7_6 := hS7.2.1.1
  have lo6 := hHeld85.1.size
  obtain ⟨⟨a6_z0,_,_⟩,⟨a6_z1,_,_⟩,⟨a6_z2,_,_⟩,⟨a6_z3,_,_⟩,_⟩ := hHeld85.2
  (try simp at lo6); (try simp at hne7_6); (try simp at a6_z0); (try simp at a6_z1); (try simp at a6_z2); (try simp at a6_z3)
  go_simp
  refine hK.out _ _ (by first | exact hHeld85.alloc _ | exact (hHeld85.alloc _).drew) (fun hHeld86 => ?_)
  first | replace hS7 := hS7.alloc2e hHeld86 | replace hS7 := hS7.alloc2 hHeld86
  (try replace zq := zq.alloc2 hHeld86)
  first | have hS6 := newK2 hHeld86 | have hS6 := newK2d hHeld86
  clear hK K; try clear hb
  try go_frame
  generalize hGWA57 : World.alloc wq (.cells #[.bool false, .slice none 0 0] 132) = WA57 at *
  clear hGWA57
  refine tw 12 rfl fun K hK => ?_
  obtain ⟨⟨s6z0, s6c0, s6f0⟩, ⟨s6z1, s6c1, s6f1⟩, _⟩ := hS6.2
  go_simp
  refine hK.out _ _ (by (repeat (first | (with_reducible exact hHeld86) | (refine Keeps.set ?_ (by simp <;> omega) (by simp <;> omega) _)))) (fun hHeld87 => ?_)
  replace hS7 := hS7.mv2 hHeld87 (by first | omega | (simp <;> omega)) (by simp <;> omega)
  (try replace zq := zq.store2 hHeld87 s6c0 s6c1)
  replace hS6 := hHeld87.add2 s6z0 s6c0 s6f0 s6c1 s6f1
  clear s6z0 s6c0 s6f0 s6z1 s6c1 s6f1
  clear hK K; try clear hb
  try go_frame
  generalize hGWA58 : World.setCell (World.setCell WA57 ⟨wq.heap.size, 0, none⟩ (.bool bq)) ⟨wq.heap.size, 1, none⟩ (.slice Aq nq cq) = WA58 at *
  clear hGWA58
  refine tw 13 rfl fun K hK => ?_
  obtain ⟨⟨s7z0, s7c0, s7f0⟩, ⟨s7z1, s7c1, s7f1⟩, _⟩ := hS7.2
  go_simp
  refine hK.out _ _ (by (repeat (first | (with_reducible exact hHeld87) | (refine Keeps.set ?_ (by simp <;> omega) (by simp <;> omega) _)))) (fun hHeld88 => ?_)
  replace hS6 := hS6.mv2 hHeld88 (by first | omega | (simp <;> omega)) (by simp <;> omega)
  (try replace zq := zq.store2 hHeld88 s7c0 s7c1)
  replace hS7 := hHeld88.add2 s7z0 s7c0 s7f0 s7c1 s7f1
  clear s7z0 s7c0 s7f0 s7z1 s7c1 s7f1
  clear hK K; try clear hb
  try go_frame
  generalize hGWA59 : World.setCell (World.setCell WA58 ⟨wi.heap.size, 0, none⟩ (.bool br)) ⟨wi.heap.size, 1, none⟩ (.slice Ar nr cr) = WA59 at *
  clear hGWA59
  refine wpAnyH_done (by kernel_rfl) ?_ _
  have hHeld := hHeld88
  rotate_left 1
  refine AllReadyH.cons rfl (fun K hK => ?_) ?_
  have hne7_6 := hS7.2.1.1
  have lo6 := hHeld84.1.size
  obtain ⟨⟨a6_z0,_,_⟩,⟨a6_z1,_,_⟩,⟨a6_z2,_,_⟩,⟨a6_z3,_,_⟩,_⟩ := hHeld84.2
  (try simp at lo6); (try simp at hne7_6); (try simp at a6_z0); (try simp at a6_z1); (try simp at a6_z2); (try simp at a6_z3)
  go_simp
  refine hK.out _ _ (by first | exact hHeld84.alloc _ | exact (hHeld84.alloc _).drew) (fun hHeld89 => ?_)
  first | replace hS7 := hS7.alloc2e hHeld89 | replace hS7 := hS7.alloc2 hHeld89
  (try replace zx := zx.alloc2 hHeld89)
  (try replace zd := zd.alloc2 hHeld89)
  first | have hS6 := newK2 hHeld89 | have hS6 := newK2d hHeld89
  clear hK K; try clear hb
  try go_frame
  generalize hGWA60 : World.alloc wd (.cells #[.bool false, .slice none 0 0] 132) = WA60 at *
  clear hGWA60
  refine tw 6 rfl fun K hK => ?_
  go_simp
  (first | ((with_reducible refine (TM.out _).mono ?_); rintro e wt ⟨bt, At, nt, ct, rfl, hb, zx⟩) | ((with_reducible refine (ID.out _).mono ?_); rintro e wd ⟨bd, Ad, nd, cd, rfl, hb, zd⟩) | ((with_reducible refine (DV.out _ _ _ zx zd).mono ?_); rintro e wq ⟨bq, Aq, nq, cq, br, Ar, nr, cr, rfl, hb, zq, zr⟩))
  refine hK.out _ _ (hHeld89.next hb) (fun hHeld90 => ?_)
  replace hS7 := hS7.next hb
  replace hS6 := hS6.next hb
  (try replace zx := zx.below hb)
  (try replace zd := zd.below hb)
  clear hK K; try clear hb
  try go_frame
  refine tv 7 10 rfl rfl ?_
  try go_frame
  refine tv 8 18 rfl rfl ?_
  try go_frame
  refine tv 9 19 rfl rfl ?_
  try go_frame
  refine tw 12 rfl fun K hK => ?_
  obtain ⟨⟨s6z0, s6c0, s6f0⟩, ⟨s6z1, s6c1, s6f1⟩, _⟩ := hS6.2
  go_simp
  refine hK.out _ _ (by (repeat (first | (with_reducible exact hHeld90) | (refine Keeps.set ?_ (by simp <;> omega) (by simp <;> omega) _)))) (fun hHeld91 => ?_)
  replace hS7 := hS7.mv2 hHeld91 (by first | omega | (simp <;> omega)) (by simp <;> omega)
  (try replace zq := zq.store2 hHeld91 s6c0 s6c1)
  replace hS6 := hHeld91.add2 s6z0 s6c0 s6f0 s6c1 s6f1
  clear s6z0 s6c0 s6f0 s6z1 s6c1 s6f1
  clear hK K; try clear hb
  try go_frame
  generalize hGWA61 : World.setCell (World.setCell wq ⟨wd.heap.size, 0, none⟩ (.bool bq)) ⟨wd.heap.size, 1, none⟩ (.slice Aq nq cq) = WA61 at *
  clear hGWA61
  refine tw 13 rfl fun K hK => ?_
  obtain ⟨⟨s7z0, s7c0, s7f0⟩, ⟨s7z1, s7c1, s7f1⟩, _⟩ := hS7.2
  go_simp
  refine hK.out _ _ (by (repeat (first | (with_reducible exact hHeld91) | (refine Keeps.set ?_ (by simp <;> omega) (by simp <;> omega) _)))) (fun hHeld92 => ?_)
  replace hS6 := hS6.mv2 hHeld92 (by first | omega | (simp <;> omega)) (by simp <;> omega)
  (try replace zq := zq.store2 hHeld92 s7c0 s7c1)
  replace hS7 := hHeld92.add2 s7z0 s7c0 s7f0 s7c1 s7f1
  clear s7z0 s7c0 s7f0 s7z1 s7c1 s7f1
  clear hK K; try clear hb
  try go_frame
  generalize hGWA62 : World.setCell (World.setCell WA61 ⟨wi.heap.size, 0, none⟩ (.bool br)) ⟨wi.heap.size, 1, none⟩ (.slice Ar nr cr) = WA62 at *
  clear hGWA62
  refine wpAnyH_done (by kernel_rfl) ?_ _
  have hHeld := hHeld92
  rotate_left 1
  exact AllReadyH.nil
  refine AllReadyH.cons rfl (fun K hK => ?_) ?_
  have hne7_6 := hS7.2.1.1
  have lo6 := hHeld83.1.size
  obtain ⟨⟨a6_z0,_,_⟩,⟨a6_z1,_,_⟩,⟨a6_z2,_,_⟩,⟨a6_z3,_,_⟩,_⟩ := hHeld83.2
  (try simp at lo6); (try simp at hne7_6); (try simp at a6_z0); (try simp at a6_z1); (try simp at a6_z2); (try simp at a6_z3)
  go_simp
  refine hK.out _ _ (by first | exact hHeld83.alloc _ | exact (hHeld83.alloc _).drew) (fun hHeld93 => ?_)
  first | replace hS7 := hS7.alloc2e hHeld93 | replace hS7 := hS7.alloc2 hHeld93
  (try replace zx := zx.alloc2 hHeld93)
  first | have hS6 := newK2 hHeld93 | have hS6 := newK2d hHeld93
  clear hK K; try clear hb
  try go_frame
  generalize hGWA63 : World.alloc wt (.cells #[.bool false, .slice none 0 0] 132) = WA63 at *
  clear hGWA63
  refine tw 5 rfl fun K hK => ?_
  go_simp
  (first | ((with_reducible refine (TM.out _).mono ?_); rintro e wt ⟨bt, At, nt, ct, rfl, hb, zx⟩) | ((with_reducible refine (ID.out _).mono ?_); rintro e wd ⟨bd, Ad, nd, cd, rfl, hb, zd⟩) | ((with_reducible refine (DV.out _ _ _ zx zd).mono ?_); rintro e wq ⟨bq, Aq, nq, cq, br, Ar, nr, cr, rfl, hb, zq, zr⟩))
  refine hK.out _ _ (hHeld93.next hb) (fun hHeld94 => ?_)
  replace hS7 := hS7.next hb
  replace hS6 := hS6.next hb
  (try replace zx := zx.below hb)
  clear hK K; try clear hb
  try go_frame
  refine tw 6 rfl fun K hK => ?_
  go_simp
  (first | ((with_reducible refine (TM.out _).mono ?_); rintro e wt ⟨bt, At, nt, ct, rfl, hb, zx⟩) | ((with_reducible refine (ID.out _).mono ?_); rintro e wd ⟨bd, Ad, nd, cd, rfl, hb, zd⟩) | ((with_reducible refine (DV.out _ _ _ zx zd).mono ?_); rintro e wq ⟨bq, Aq, nq, cq, br, Ar, nr, cr, rfl, hb, zq, zr⟩))
  refine hK.out _ _ (hHeld94.next hb) (fun hHeld95 => ?_)
  replace hS7 := hS7.next hb
  replace hS6 := hS6.next hb
  (try replace zx := zx.below hb)
  (try replace zd := zd.below hb)
  clear hK K; try clear hb
  try go_frame
  refine tv 7 10 rfl rfl ?_
  try go_frame
  refine tv 8 18 rfl rfl ?_
  try go_frame
  refine tv 9 19 rfl rfl ?_
  try go_frame
  refine tw 12 rfl fun K hK => ?_
  obtain ⟨⟨s6z0, s6c0, s6f0⟩, ⟨s6z1, s6c1, s6f1⟩, _⟩ := hS6.2
  go_simp
  refine hK.out _ _ (by (repeat (first | (with_reducible exact hHeld95) | (refine Keeps.set ?_ (by simp <;> omega) (by simp <;> omega) _)))) (fun hHeld96 => ?_)
  replace hS7 := hS7.mv2 hHeld96 (by first | omega | (simp <;> omega)) (by simp <;> omega)
  (try replace zq := zq.store2 hHeld96 s6c0 s6c1)
  replace hS6 := hHeld96.add2 s6z0 s6c0 s6f0 s6c1 s6f1
  clear s6z0 s6c0 s6f0 s6z1 s6c1 s6f1
  clear hK K; try clear hb
  try go_frame
  generalize hGWA64 : World.setCell (World.setCell wq ⟨wt.heap.size, 0, none⟩ (.bool bq)) ⟨wt.heap.size, 1, none⟩ (.slice Aq nq cq) = WA64 at *
  clear hGWA64
  refine tw 13 rfl fun K hK => ?_
  obtain ⟨⟨s7z0, s7c0, s7f0⟩, ⟨s7z1, s7c1, s7f1⟩, _⟩ := hS7.2
  go_simp
  refine hK.out _ _ (by (repeat (first | (with_reducible exact hHeld96) | (refine Keeps.set ?_ (by simp <;> omega) (by simp <;> omega) _)))) (fun hHeld97 => ?_)
  replace hS6 := hS6.mv2 hHeld97 (by first | omega | (simp <;> omega)) (by simp <;> omega)
  (try replace zq := zq.store2 hHeld97 s7c0 s7c1)
  replace hS7 := hHeld97.add2 s7z0 s7c0 s7f0 s7c1 s7f1
  clear s7z0 s7c0 s7f0 s7z1 s7c1 s7f1
  clear hK K; try clear hb
  try go_frame
  generalize hGWA65 : World.setCell (World.setCell WA64 ⟨wi.heap.size, 0, none⟩ (.bool br)) ⟨wi.heap.size, 1, none⟩ (.slice Ar nr cr) = WA65 at *
  clear hGWA65
  refine wpAnyH_done (by kernel_rfl) ?_ _
  have hHeld := hHeld97
  rotate_left 1
  exact AllReadyH.nil
  refine AllReadyH.cons rfl (fun K hK => ?_) ?_
  have hne7_6 := hS7.2.1.1
  have lo6 := hHeld82.1.size
  obtain ⟨⟨a6_z0,_,_⟩,⟨a6_z1,_,_⟩,⟨a6_z2,_,_⟩,⟨a6_z3,_,_⟩,_⟩ := hHeld82.2
  (try simp at lo6); (try simp at hne7_6); (try simp at a6_z0); (try simp at a6_z1); (try simp at a6_z2); (try simp at a6_z3)
  go_simp
  refine hK.out _ _ (by first | exact hHeld82.alloc _ | exact (hHeld82.alloc _).drew) (fun hHeld98 => ?_)
  first | replace hS7 := hS7.alloc2e hHeld98 | replace hS7 := hS7.alloc2 hHeld98
  first | have hS6 := newK2 hHeld98 | have hS6 := newK2d hHeld98
  clear hK K; try clear hb
  try go_frame
  generalize hGWA66 : World.alloc WA56 (.cells #[.bool false, .slice none 0 0] 132) = WA66 at *
  clear hGWA66
  refine tw 2 rfl fun K hK => ?_
  go_simp
  (first | ((with_reducible refine (TM.out _).mono ?_); rintro e wt ⟨bt, At, nt, ct, rfl, hb, zx⟩) | ((with_reducible refine (ID.out _).mono ?_); rintro e wd ⟨bd, Ad, nd, cd, rfl, hb, zd⟩) | ((with_reducible refine (DV.out _ _ _ zx zd).mono ?_); rintro e wq ⟨bq, Aq, nq, cq, br, Ar, nr, cr, rfl, hb, zq, zr⟩))
  refine hK.out _ _ (hHeld98.next hb) (fun hHeld99 => ?_)
  replace hS7 := hS7.next hb
  replace hS6 := hS6.next hb
  clear hK K; try clear hb
  try go_frame
  refine tw 5 rfl fun K hK => ?_
  go_simp
  (first | ((with_reducible refine (TM.out _).mono ?_); rintro e wt ⟨bt, At, nt, ct, rfl, hb, zx⟩) | ((with_reducible refine (ID.out _).mono ?_); rintro e wd ⟨bd, Ad, nd, cd, rfl, hb, zd⟩) | ((with_reducible refine (DV.out _ _ _ zx zd).mono ?_); rintro e wq ⟨bq, Aq, nq, cq, br, Ar, nr, cr, rfl, hb, zq, zr⟩))
  refine hK.out _ _ (hHeld99.next hb) (fun hHeld100 => ?_)
  replace hS7 := hS7.next hb
  replace hS6 := hS6.next hb
  (try replace zx := zx.below hb)
  clear hK K; try clear hb
  try go_frame
  refine tw 6 rfl fun K hK => ?_
  go_simp
  (first | ((with_reducible refine (TM.out _).mono ?_); rintro e wt ⟨bt, At, nt, ct, rfl, hb, zx⟩) | ((with_reducible refine (ID.out _).mono ?_); rintro e wd ⟨bd, Ad, nd, cd, rfl, hb, zd⟩) | ((with_reducible refine (DV.out _ _ _ zx zd).mono ?_); rintro e wq ⟨bq, Aq, nq, cq, br, Ar, nr, cr, rfl, hb, zq, zr⟩))
  refine hK.out _ _ (hHeld100.next hb) (fun hHeld101 => ?_)
  replace hS7 := hS7.next hb
  replace hS6 := hS6.next hb
  (try replace zx := zx.below hb)
  (try replace zd := zd.below hb)
  clear hK K; try clear hb
  try go_frame
  refine tv 7 10 rfl rfl ?_
  try go_frame
  refine tv 8 18 rfl rfl ?_
  try go_frame
  refine tv 9 19 rfl rfl ?_
  try go_frame
  refine tw 12 rfl fun K hK => ?_
  obtain ⟨⟨s6z0, s6c0, s6f0⟩, ⟨s6z1, s6c1, s6f1⟩, _⟩ := hS6.2
  go_simp
  refine hK.out _ _ (by (repeat (first | (with_reducible exact hHeld101) | (refine Keeps.set ?_ (by simp <;> omega) (by simp <;> omega) _)))) (fun hHeld102 => ?_)
  replace hS7 := hS7.mv2 hHeld102 (by first | omega | (simp <;> omega)) (by simp <;> omega)
  (try replace zq := zq.store2 hHeld102 s6c0 s6c1)
  replace hS6 := hHeld102.add2 s6z0 s6c0 s6f0 s6c1 s6f1
  clear s6z0 s6c0 s6f0 s6z1 s6c1 s6f1
  clear hK K; try clear hb
  try go_frame
  generalize hGWA67 : World.setCell (World.setCell wq ⟨WA56.heap.size, 0, none⟩ (.bool bq)) ⟨WA56.heap.size, 1, none⟩ (.slice Aq nq cq) = WA67 at *
  clear hGWA67
  refine tw 13 rfl fun K hK => ?_
  obtain ⟨⟨s7z0, s7c0, s7f0⟩, ⟨s7z1, s7c1, s7f1⟩, _⟩ := hS7.2
  go_simp
  refine hK.out _ _ (by (repeat (first | (with_reducible exact hHeld102) | (refine Keeps.set ?_ (by simp <;> omega) (by simp <;> omega) _)))) (fun hHeld103 => ?_)
  replace hS6 := hS6.mv2 hHeld103 (by first | omega | (simp <;> omega)) (by simp <;> omega)
  (try replace zq := zq.store2 hHeld103 s7c0 s7c1)
  replace hS7 := hHeld103.add2 s7z0 s7c0 s7f0 s7c1 s7f1
  clear s7z0 s7c0 s7f0 s7z1 s7c1 s7f1
  clear hK K; try clear hb
  try go_frame
  generalize hGWA68 : World.setCell (World.setCell WA67 ⟨wi.heap.size, 0, none⟩ (.bool br)) ⟨wi.heap.size, 1, none⟩ (.slice Ar nr cr) = WA68 at *
  clear hGWA68
  refine wpAnyH_done (by kernel_rfl) ?_ _
  have hHeld := hHeld103
  rotate_left 1
  exact AllReadyH.nil
  exact AllReadyH.nil
  all_goals
   go_wp2_with fail
   go_meet
   case rel => exact ⟨_, _, _, _, _, rfl, Lib.hid zq, hS6.1, hS6.2.1, hS6.2.2.1, trivial⟩
 case rest =>
  obtain ⟨g, b, A, m, c, rfl, HZ, hK⟩ := hcut
  obtain ⟨⟨kz0, kc0, kf0⟩, ⟨kz1, kc1, kf1⟩, _⟩ := hK.2
  have hHeld : Keeps w [] wc := ⟨hK.1, trivial⟩
  have VB := Lib.hid (VA.out _ wc HZ.out)
  clear VA HZ
  rcases cs with ⟨rfl, rfl, rfl⟩ | ⟨rfl, ⟨rfl, rfl⟩ | ⟨rfl, rfl⟩⟩
  ·clear BK bv
   go_wp2_with fail
   refine VB.out.mono ?_
   skip
   rintro e w2 ⟨rfl, hb⟩
   replace hHeld := Keeps.next (hHeld) hb
   clear hb 
   go_wp2_with fail
   go_returns
   exact ⟨rfl, hHeld.1⟩
  ·rw [bv rfl] at BK
   replace BK := Lib.hid BK
   clear bv
   go_wp2_with fail
   refine VB.out.mono ?_
   skip
   rintro e w2 ⟨rfl, hb⟩
   replace hHeld := Keeps.next (hHeld) hb
   clear hb 
   go_wp2_with fail
   refine (BK.out _).mono ?_
   rintro e w3 ⟨rfl, hb⟩
   replace hHeld := Keeps.next (hHeld) hb
   clear hb 
   go_wp2_with fail
   go_returns
   exact ⟨rfl, hHeld.1⟩
  ·rw [bv rfl] at BK
   replace BK := Lib.hid BK
   clear bv
   go_wp2_with fail
   refine VB.out.mono ?_
   skip
   rintro e w2 ⟨rfl, hb⟩
   replace hHeld := Keeps.next (hHeld) hb
   clear hb 
   go_wp2_with fail
   refine (BK.out _).mono ?_
   rintro e w3 ⟨rfl, hb⟩
   replace hHeld := Keeps.next (hHeld) hb
   clear hb 
   go_wp2_with fail
   go_returns
   exact ⟨rfl, hHeld.1⟩
end Go.Proofs.YtcfidimnbamnkaaGreat
