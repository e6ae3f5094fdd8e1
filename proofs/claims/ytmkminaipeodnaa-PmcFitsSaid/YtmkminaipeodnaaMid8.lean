/-
  The document's own answers for layer 4: Middle, as layer 8 asks it. Conditions: those written at each fact.
-/
import Derived.Test.YtmkminaipeodnaaRB
import Derived.Test.YtmkminaipeodnaaSpA
namespace Go.Proofs.Ytmkminaipeodnaa.P8
open Go.RowKit

theorem i64_len (z : Int) (h1 : -9223372036854775808 ≤ z) (h2 : z ≤ 9223372036854775807) : (sizeL z.natAbs).length ≤ 64 := sizeL_length 64 _ (by omega)
theorem len_of (k : Nat) (z : Int) (h : z.natAbs < 2 ^ k) (hk : k ≤ 3990) : (sizeL z.natAbs).length ≤ 3990 := Nat.le_trans (sizeL_length k _ h) hk
/-- A number of 64 bits with a sign. -/
def okZ (z : Int) : Prop := -9223372036854775808 ≤ z ∧ z ≤ 9223372036854775807
theorem value_ok {z : Int} (h : okZ z) : valueV z = z ∧ valueB z = true := by
  obtain ⟨h1, h2⟩ := h
  unfold valueV valueB
  refine ⟨?_, ?_⟩
  · rw [if_pos (by omega)]
  · exact decide_eq_true (by omega)

set_option maxRecDepth 100000 in
set_option maxHeartbeats 16000000 in
theorem refMiddle_any (lo hi : Int) (l1 : -9223372036854775808 ≤ lo) (l2 : lo ≤ 9223372036854775807) (h1 : -9223372036854775808 ≤ hi) (h2 : hi ≤ 9223372036854775807) (w : World) : Calls Try.prog 33 #[spV lo hi] w (Ret w (.int .i64 ((lo + hi) / 2))) := by
  have ll := i64_len lo l1 l2
  have lh := i64_len hi h1 h2
  have la := len_of 70 (lo + hi) (by omega) (by omega)
  have IL := Lib.hid (fun W => intZ_any lo l1 l2 W)
  have IH := Lib.hid (fun W => intZ_any hi h1 h2 W)
  have I2 := Lib.hid (fun W => intZ_any 2 (by omega) (by omega) W)
  have AD := Lib.hid (fun u u' W k k' => addZ_any lo hi (by omega) (by omega) u u' W k k')
  have l2' : (sizeL 2).length ≤ 64 := sizeL_length 64 2 (by omega)
  have ld : (sizeL (lo + hi).natAbs).length ≤ 70 := sizeL_length 70 _ (by omega)
  have DV := Lib.hid (fun u u' W k (k' : NumZ W u' 2) => (show Calls Try.prog 44 #[u, u'] W (RetZZ W ((lo + hi) / 2) ((lo + hi) % 2)) from divZ_any (lo + hi) 2 (by omega) (by omega) (by omega) u u' W k k'))
  have VA := fun v W k => valueZ_any ((lo + hi) / 2) (Nat.le_trans (len_of 70 _ (by omega) (by omega)) (by omega)) v W k
  rw [(value_ok (z := (lo + hi) / 2) ⟨by omega, by omega⟩).1, (value_ok (z := (lo + hi) / 2) ⟨by omega, by omega⟩).2] at VA
  replace VA := Lib.hid VA
  clear l1 l2 h1 h2 ll lh la l2' ld
  generalize (lo + hi) / 2 = q at *
  generalize (lo + hi) % 2 = r at *
  generalize lo + hi = s at *
  go_enter Try.func33, Try.ntmps33
  go_upto_region 1 with (fail)
  have hHs : Keeps w [(w.heap.size, 0, .int .i64 lo), (w.heap.size, 1, .int .i64 hi)] (w.alloc (.cells #[.int .i64 lo, .int .i64 hi] 26)) := ⟨below_alloc w _, ⟨by simp, by simp [go_sem], by simp [go_sem]⟩, ⟨by simp, by simp [go_sem], by simp [go_sem]⟩, trivial⟩
  generalize hGi : w.alloc (.cells #[.int .i64 lo, .int .i64 hi] 26) = wi at hHs ⊢
  clear hGi
  refine region_keeps (w0 := w) (L := [(w.heap.size, 0, .int .i64 lo), (w.heap.size, 1, .int .i64 hi)]) (by kernel_rfl) hHs (fun hHeld0 => ?_)
  refine wpAnyH_take (i := 0) (oi := ⟨some 8, _, _, _, _, _⟩) (v := ?_) rfl (by kernel_rfl) (by kernel_rfl) (by kernel_rfl) (fun _ _ _ h => h) (Or.inl ⟨by rfl, ?_⟩) (by assumption) ?_
  rotate_left
  · intro wq hSw; go_simp; (try with_reducible rfl)
  try simp only [Act.put, List.setIfInBounds_toArray, List.set_cons_zero, List.set_cons_succ]
  refine wpAnyH_take (i := 1) (oi := ⟨some 9, _, _, _, _, _⟩) (v := ?_) rfl (by kernel_rfl) (by kernel_rfl) (by kernel_rfl) (fun _ _ _ h => h) (Or.inl ⟨by rfl, ?_⟩) (by assumption) ?_
  rotate_left
  · intro wq hSw; obtain ⟨⟨qz0, qc0, qf0⟩, ⟨qz1, qc1, qf1⟩, _⟩ := hSw.2; go_simp; (try with_reducible rfl)
  try simp only [Act.put, List.setIfInBounds_toArray, List.set_cons_zero, List.set_cons_succ]
  refine wpAnyH_take (i := 3) (oi := ⟨some 11, _, _, _, _, _⟩) (v := ?_) rfl (by kernel_rfl) (by kernel_rfl) (by kernel_rfl) (fun _ _ _ h => h) (Or.inl ⟨by rfl, ?_⟩) (by assumption) ?_
  rotate_left
  · intro wq hSw; go_simp; (try with_reducible rfl)
  try simp only [Act.put, List.setIfInBounds_toArray, List.set_cons_zero, List.set_cons_succ]
  refine wpAnyH_take (i := 4) (oi := ⟨some 12, _, _, _, _, _⟩) (v := ?_) rfl (by kernel_rfl) (by kernel_rfl) (by kernel_rfl) (fun _ _ _ h => h) (Or.inl ⟨by rfl, ?_⟩) (by assumption) ?_
  rotate_left
  · intro wq hSw; obtain ⟨⟨qz0, qc0, qf0⟩, ⟨qz1, qc1, qf1⟩, _⟩ := hSw.2; go_simp; (try with_reducible rfl)
  try simp only [Act.put, List.setIfInBounds_toArray, List.set_cons_zero, List.set_cons_succ]
  refine wpAnyH_ready (rs := [2, 12, 13]) (by kernel_rfl) (by simp) ?_
  refine AllReadyH.cons (o := ⟨some 10, _, _, _, _, _⟩) rfl (fun K hK => ?_) ?_
  go_simp
  (first | ((with_reducible refine (IL.out _).mono ?_); rintro e wl ⟨bl, Al, nl, cl, rfl, hb, zl⟩) | ((with_reducible refine (IH.out _).mono ?_); rintro e wh ⟨bh, Ah, nh, ch, rfl, hb, zh⟩) | ((with_reducible refine (AD.out _ _ _ zl zh).mono ?_); rintro e wa ⟨ba, Aa, na, ca, rfl, hb, za⟩) | ((with_reducible refine (I2.out _).mono ?_); rintro e wt ⟨bt, At, nt, ct, rfl, hb, zt⟩) | ((with_reducible refine (DV.out _ _ _ za zt).mono ?_); rintro e wd ⟨bq, Aq, nq, cq, br, Ar, nr, cr, rfl, hb, zq, zr⟩))
  refine hK.out _ _ (hHeld0.next hb) (fun hHeld1 => ?_)
  clear hK K
  try clear hb
  try simp only [Act.put, List.setIfInBounds_toArray, List.set_cons_zero, List.set_cons_succ]
  refine wpAnyH_ready (rs := [5, 12, 13]) (by kernel_rfl) (by simp) ?_
  refine AllReadyH.cons (o := ⟨some 13, _, _, _, _, _⟩) rfl (fun K hK => ?_) ?_
  go_simp
  (first | ((with_reducible refine (IL.out _).mono ?_); rintro e wl ⟨bl, Al, nl, cl, rfl, hb, zl⟩) | ((with_reducible refine (IH.out _).mono ?_); rintro e wh ⟨bh, Ah, nh, ch, rfl, hb, zh⟩) | ((with_reducible refine (AD.out _ _ _ zl zh).mono ?_); rintro e wa ⟨ba, Aa, na, ca, rfl, hb, za⟩) | ((with_reducible refine (I2.out _).mono ?_); rintro e wt ⟨bt, At, nt, ct, rfl, hb, zt⟩) | ((with_reducible refine (DV.out _ _ _ za zt).mono ?_); rintro e wd ⟨bq, Aq, nq, cq, br, Ar, nr, cr, rfl, hb, zq, zr⟩))
  refine hK.out _ _ (hHeld1.next hb) (fun hHeld2 => ?_)
  (try replace zl := zl.below hb)
  clear hK K
  try clear hb
  try simp only [Act.put, List.setIfInBounds_toArray, List.set_cons_zero, List.set_cons_succ]
  refine wpAnyH_ready (rs := [6, 12, 13]) (by kernel_rfl) (by simp) ?_
  refine AllReadyH.cons (o := ⟨some 14, _, _, _, _, _⟩) rfl (fun K hK => ?_) ?_
  go_simp
  (first | ((with_reducible refine (IL.out _).mono ?_); rintro e wl ⟨bl, Al, nl, cl, rfl, hb, zl⟩) | ((with_reducible refine (IH.out _).mono ?_); rintro e wh ⟨bh, Ah, nh, ch, rfl, hb, zh⟩) | ((with_reducible refine (AD.out _ _ _ zl zh).mono ?_); rintro e wa ⟨ba, Aa, na, ca, rfl, hb, za⟩) | ((with_reducible refine (I2.out _).mono ?_); rintro e wt ⟨bt, At, nt, ct, rfl, hb, zt⟩) | ((with_reducible refine (DV.out _ _ _ za zt).mono ?_); rintro e wd ⟨bq, Aq, nq, cq, br, Ar, nr, cr, rfl, hb, zq, zr⟩))
  refine hK.out _ _ (hHeld2.next hb) (fun hHeld3 => ?_)
  (try replace zl := zl.below hb)
  (try replace zh := zh.below hb)
  clear hK K
  try clear hb
  try simp only [Act.put, List.setIfInBounds_toArray, List.set_cons_zero, List.set_cons_succ]
  refine wpAnyH_ready (rs := [7, 12, 13]) (by kernel_rfl) (by simp) ?_
  refine AllReadyH.cons (o := ⟨some 15, _, _, _, _, _⟩) rfl (fun K hK => ?_) ?_
  go_simp
  (first | ((with_reducible refine (IL.out _).mono ?_); rintro e wl ⟨bl, Al, nl, cl, rfl, hb, zl⟩) | ((with_reducible refine (IH.out _).mono ?_); rintro e wh ⟨bh, Ah, nh, ch, rfl, hb, zh⟩) | ((with_reducible refine (AD.out _ _ _ zl zh).mono ?_); rintro e wa ⟨ba, Aa, na, ca, rfl, hb, za⟩) | ((with_reducible refine (I2.out _).mono ?_); rintro e wt ⟨bt, At, nt, ct, rfl, hb, zt⟩) | ((with_reducible refine (DV.out _ _ _ za zt).mono ?_); rintro e wd ⟨bq, Aq, nq, cq, br, Ar, nr, cr, rfl, hb, zq, zr⟩))
  refine hK.out _ _ (hHeld3.next hb) (fun hHeld4 => ?_)
  (try replace za := za.below hb)
  clear hK K
  try clear hb
  try simp only [Act.put, List.setIfInBounds_toArray, List.set_cons_zero, List.set_cons_succ]
  refine wpAnyH_ready (rs := [8, 12, 13]) (by kernel_rfl) (by simp) ?_
  refine AllReadyH.cons (o := ⟨some 16, _, _, _, _, _⟩) rfl (fun K hK => ?_) ?_
  go_simp
  (first | ((with_reducible refine (IL.out _).mono ?_); rintro e wl ⟨bl, Al, nl, cl, rfl, hb, zl⟩) | ((with_reducible refine (IH.out _).mono ?_); rintro e wh ⟨bh, Ah, nh, ch, rfl, hb, zh⟩) | ((with_reducible refine (AD.out _ _ _ zl zh).mono ?_); rintro e wa ⟨ba, Aa, na, ca, rfl, hb, za⟩) | ((with_reducible refine (I2.out _).mono ?_); rintro e wt ⟨bt, At, nt, ct, rfl, hb, zt⟩) | ((with_reducible refine (DV.out _ _ _ za zt).mono ?_); rintro e wd ⟨bq, Aq, nq, cq, br, Ar, nr, cr, rfl, hb, zq, zr⟩))
  refine hK.out _ _ (hHeld4.next hb) (fun hHeld5 => ?_)
  (try replace za := za.below hb)
  (try replace zt := zt.below hb)
  clear hK K
  try clear hb
  try simp only [Act.put, List.setIfInBounds_toArray, List.set_cons_zero, List.set_cons_succ]
  refine wpAnyH_take (i := 9) (oi := ⟨some 7, _, _, _, _, _⟩) (v := ?_) rfl (by kernel_rfl) (by kernel_rfl) (by kernel_rfl) (fun _ _ _ h => h) (Or.inl ⟨by rfl, ?_⟩) (by assumption) ?_
  rotate_left
  · intro wq hSw; go_simp; (try with_reducible rfl)
  try simp only [Act.put, List.setIfInBounds_toArray, List.set_cons_zero, List.set_cons_succ]
  refine wpAnyH_take (i := 10) (oi := ⟨some 17, _, _, _, _, _⟩) (v := ?_) rfl (by kernel_rfl) (by kernel_rfl) (by kernel_rfl) (fun _ _ _ h => h) (Or.inl ⟨by rfl, ?_⟩) (by assumption) ?_
  rotate_left
  · intro wq hSw; go_simp; (try with_reducible rfl)
  try simp only [Act.put, List.setIfInBounds_toArray, List.set_cons_zero, List.set_cons_succ]
  refine wpAnyH_take (i := 11) (oi := ⟨some 18, _, _, _, _, _⟩) (v := ?_) rfl (by kernel_rfl) (by kernel_rfl) (by kernel_rfl) (fun _ _ _ h => h) (Or.inl ⟨by rfl, ?_⟩) (by assumption) ?_
  rotate_left
  · intro wq hSw; go_simp; (try with_reducible rfl)
  try simp only [Act.put, List.setIfInBounds_toArray, List.set_cons_zero, List.set_cons_succ]
  refine wpAnyH_ready (rs := [12, 13]) (by kernel_rfl) (by simp) ?_
  refine AllReadyH.cons (o := ⟨some 3, _, _, _, _, _⟩) rfl (fun K hK => ?_) ?_
  have lo3 := hHeld5.1.size
  obtain ⟨⟨a3_z0, a3_c0, a3_f0⟩, ⟨a3_z1, a3_c1, a3_f1⟩, _⟩ := hHeld5.2
  (try simp at lo3); (try simp at a3_z0); (try simp at a3_z1)
  go_simp
  refine hK.out _ _ (by first | exact hHeld5.alloc _ | exact (hHeld5.alloc _).drew) (fun hHeld6 => ?_)
  (try replace zq := zq.alloc2 hHeld6)
  first | have hS3 := newK2 hHeld6 | have hS3 := newK2d hHeld6
  clear hK K
  try clear hb
  try simp only [Act.put, List.setIfInBounds_toArray, List.set_cons_zero, List.set_cons_succ]
  generalize hGWA1 : World.alloc wd (.cells #[.bool false, .slice none 0 0] 81) = WA1 at *
  clear hGWA1
  refine wpAnyH_ready (rs := [13]) (by kernel_rfl) (by simp) ?_
  refine AllReadyH.cons (o := ⟨some 4, _, _, _, _, _⟩) rfl (fun K hK => ?_) AllReadyH.nil
  have hne3_4 := hS3.2.1.1
  have lo4 := hHeld6.1.size
  obtain ⟨⟨a4_z0, a4_c0, a4_f0⟩, ⟨a4_z1, a4_c1, a4_f1⟩, _⟩ := hHeld6.2
  (try simp at lo4); (try simp at hne3_4); (try simp at a4_z0); (try simp at a4_z1)
  go_simp
  refine hK.out _ _ (by first | exact hHeld6.alloc _ | exact (hHeld6.alloc _).drew) (fun hHeld7 => ?_)
  first | replace hS3 := hS3.alloc2e hHeld7 | replace hS3 := hS3.alloc2 hHeld7
  (try replace zq := zq.alloc2 hHeld7)
  first | have hS4 := newK2 hHeld7 | have hS4 := newK2d hHeld7
  clear hK K
  try clear hb
  try simp only [Act.put, List.setIfInBounds_toArray, List.set_cons_zero, List.set_cons_succ]
  generalize hGWA2 : World.alloc WA1 (.cells #[.bool false, .slice none 0 0] 81) = WA2 at *
  clear hGWA2
  refine wpAnyH_ready (rs := [14]) (by kernel_rfl) (by simp) ?_
  refine AllReadyH.cons (o := ⟨none, _, _, _, _, _⟩) rfl (fun K hK => ?_) AllReadyH.nil
  obtain ⟨⟨s3z0, s3c0, s3f0⟩, ⟨s3z1, s3c1, s3f1⟩, _⟩ := hS3.2
  go_simp
  refine hK.out _ _ (by (repeat (first | (with_reducible exact hHeld7) | (refine Keeps.set ?_ (by simp <;> omega) (by simp <;> omega) _)))) (fun hHeld8 => ?_)
  replace hS4 := hS4.mv2 hHeld8 (by first | omega | (simp <;> omega)) (by simp <;> omega)
  (try replace zq := zq.store2 hHeld8 s3c0 s3c1)
  replace hS3 := hHeld8.add2 s3z0 s3c0 s3f0 s3c1 s3f1
  clear s3z0 s3c0 s3f0 s3z1 s3c1 s3f1
  clear hK K
  try clear hb
  try simp only [Act.put, List.setIfInBounds_toArray, List.set_cons_zero, List.set_cons_succ]
  generalize hGWA3 : World.setCell (World.setCell WA2 ⟨wd.heap.size, 0, none⟩ (.bool bq)) ⟨wd.heap.size, 1, none⟩ (.slice Aq nq cq) = WA3 at *
  clear hGWA3
  refine wpAnyH_ready (rs := [15]) (by kernel_rfl) (by simp) ?_
  refine AllReadyH.cons (o := ⟨none, _, _, _, _, _⟩) rfl (fun K hK => ?_) AllReadyH.nil
  obtain ⟨⟨s4z0, s4c0, s4f0⟩, ⟨s4z1, s4c1, s4f1⟩, _⟩ := hS4.2
  go_simp
  refine hK.out _ _ (by (repeat (first | (with_reducible exact hHeld8) | (refine Keeps.set ?_ (by simp <;> omega) (by simp <;> omega) _)))) (fun hHeld9 => ?_)
  replace hS3 := hS3.mv2 hHeld9 (by first | omega | (simp <;> omega)) (by simp <;> omega)
  (try replace zq := zq.store2 hHeld9 s4c0 s4c1)
  replace hS4 := hHeld9.add2 s4z0 s4c0 s4f0 s4c1 s4f1
  clear s4z0 s4c0 s4f0 s4z1 s4c1 s4f1
  clear hK K
  try clear hb
  try simp only [Act.put, List.setIfInBounds_toArray, List.set_cons_zero, List.set_cons_succ]
  generalize hGWA4 : World.setCell (World.setCell WA3 ⟨WA1.heap.size, 0, none⟩ (.bool br)) ⟨WA1.heap.size, 1, none⟩ (.slice Ar nr cr) = WA4 at *
  clear hGWA4
  refine wpAnyH_done (by kernel_rfl) ?_ _
  have hHeld := hHeld9
  rotate_left 1
  refine AllReadyH.cons (o := ⟨some 4, _, _, _, _, _⟩) rfl (fun K hK => ?_) ?_
  have lo4 := hHeld5.1.size
  obtain ⟨⟨a4_z0, a4_c0, a4_f0⟩, ⟨a4_z1, a4_c1, a4_f1⟩, _⟩ := hHeld5.2
  (try simp at lo4); (try simp at a4_z0); (try simp at a4_z1)
  go_simp
  refine hK.out _ _ (by first | exact hHeld5.alloc _ | exact (hHeld5.alloc _).drew) (fun hHeld10 => ?_)
  (try replace zq := zq.alloc2 hHeld10)
  first | have hS4 := newK2 hHeld10 | have hS4 := newK2d hHeld10
  clear hK K
  try clear hb
  try simp only [Act.put, List.setIfInBounds_toArray, List.set_cons_zero, List.set_cons_succ]
  generalize hGWA5 : World.alloc wd (.cells #[.bool false, .slice none 0 0] 81) = WA5 at *
  clear hGWA5
  refine wpAnyH_ready (rs := [12]) (by kernel_rfl) (by simp) ?_
  refine AllReadyH.cons (o := ⟨some 3, _, _, _, _, _⟩) rfl (fun K hK => ?_) AllReadyH.nil
  have hne4_3 := hS4.2.1.1
  have lo3 := hHeld10.1.size
  obtain ⟨⟨a3_z0, a3_c0, a3_f0⟩, ⟨a3_z1, a3_c1, a3_f1⟩, _⟩ := hHeld10.2
  (try simp at lo3); (try simp at hne4_3); (try simp at a3_z0); (try simp at a3_z1)
  go_simp
  refine hK.out _ _ (by first | exact hHeld10.alloc _ | exact (hHeld10.alloc _).drew) (fun hHeld11 => ?_)
  first | replace hS4 := hS4.alloc2e hHeld11 | replace hS4 := hS4.alloc2 hHeld11
  (try replace zq := zq.alloc2 hHeld11)
  first | have hS3 := newK2 hHeld11 | have hS3 := newK2d hHeld11
  clear hK K
  try clear hb
  try simp only [Act.put, List.setIfInBounds_toArray, List.set_cons_zero, List.set_cons_succ]
  generalize hGWA6 : World.alloc WA5 (.cells #[.bool false, .slice none 0 0] 81) = WA6 at *
  clear hGWA6
  refine wpAnyH_ready (rs := [14]) (by kernel_rfl) (by simp) ?_
  refine AllReadyH.cons (o := ⟨none, _, _, _, _, _⟩) rfl (fun K hK => ?_) AllReadyH.nil
  obtain ⟨⟨s3z0, s3c0, s3f0⟩, ⟨s3z1, s3c1, s3f1⟩, _⟩ := hS3.2
  go_simp
  refine hK.out _ _ (by (repeat (first | (with_reducible exact hHeld11) | (refine Keeps.set ?_ (by simp <;> omega) (by simp <;> omega) _)))) (fun hHeld12 => ?_)
  replace hS4 := hS4.mv2 hHeld12 (by first | omega | (simp <;> omega)) (by simp <;> omega)
  (try replace zq := zq.store2 hHeld12 s3c0 s3c1)
  replace hS3 := hHeld12.add2 s3z0 s3c0 s3f0 s3c1 s3f1
  clear s3z0 s3c0 s3f0 s3z1 s3c1 s3f1
  clear hK K
  try clear hb
  try simp only [Act.put, List.setIfInBounds_toArray, List.set_cons_zero, List.set_cons_succ]
  generalize hGWA7 : World.setCell (World.setCell WA6 ⟨WA5.heap.size, 0, none⟩ (.bool bq)) ⟨WA5.heap.size, 1, none⟩ (.slice Aq nq cq) = WA7 at *
  clear hGWA7
  refine wpAnyH_ready (rs := [15]) (by kernel_rfl) (by simp) ?_
  refine AllReadyH.cons (o := ⟨none, _, _, _, _, _⟩) rfl (fun K hK => ?_) AllReadyH.nil
  obtain ⟨⟨s4z0, s4c0, s4f0⟩, ⟨s4z1, s4c1, s4f1⟩, _⟩ := hS4.2
  go_simp
  refine hK.out _ _ (by (repeat (first | (with_reducible exact hHeld12) | (refine Keeps.set ?_ (by simp <;> omega) (by simp <;> omega) _)))) (fun hHeld13 => ?_)
  replace hS3 := hS3.mv2 hHeld13 (by first | omega | (simp <;> omega)) (by simp <;> omega)
  (try replace zq := zq.store2 hHeld13 s4c0 s4c1)
  replace hS4 := hHeld13.add2 s4z0 s4c0 s4f0 s4c1 s4f1
  clear s4z0 s4c0 s4f0 s4z1 s4c1 s4f1
  clear hK K
  try clear hb
  try simp only [Act.put, List.setIfInBounds_toArray, List.set_cons_zero, List.set_cons_succ]
  generalize hGWA8 : World.setCell (World.setCell WA7 ⟨wd.heap.size, 0, none⟩ (.bool br)) ⟨wd.heap.size, 1, none⟩ (.slice Ar nr cr) = WA8 at *
  clear hGWA8
  refine wpAnyH_done (by kernel_rfl) ?_ _
  have hHeld := hHeld13
  rotate_left 1
  exact AllReadyH.nil
  refine AllReadyH.cons (o := ⟨some 3, _, _, _, _, _⟩) rfl (fun K hK => ?_) ?_
  have lo3 := hHeld4.1.size
  obtain ⟨⟨a3_z0, a3_c0, a3_f0⟩, ⟨a3_z1, a3_c1, a3_f1⟩, _⟩ := hHeld4.2
  (try simp at lo3); (try simp at a3_z0); (try simp at a3_z1)
  go_simp
  refine hK.out _ _ (by first | exact hHeld4.alloc _ | exact (hHeld4.alloc _).drew) (fun hHeld14 => ?_)
  (try replace za := za.alloc2 hHeld14)
  (try replace zt := zt.alloc2 hHeld14)
  first | have hS3 := newK2 hHeld14 | have hS3 := newK2d hHeld14
  clear hK K
  try clear hb
  try simp only [Act.put, List.setIfInBounds_toArray, List.set_cons_zero, List.set_cons_succ]
  generalize hGWA9 : World.alloc wt (.cells #[.bool false, .slice none 0 0] 81) = WA9 at *
  clear hGWA9
  refine wpAnyH_ready (rs := [8, 13]) (by kernel_rfl) (by simp) ?_
  refine AllReadyH.cons (o := ⟨some 16, _, _, _, _, _⟩) rfl (fun K hK => ?_) ?_
  go_simp
  (first | ((with_reducible refine (IL.out _).mono ?_); rintro e wl ⟨bl, Al, nl, cl, rfl, hb, zl⟩) | ((with_reducible refine (IH.out _).mono ?_); rintro e wh ⟨bh, Ah, nh, ch, rfl, hb, zh⟩) | ((with_reducible refine (AD.out _ _ _ zl zh).mono ?_); rintro e wa ⟨ba, Aa, na, ca, rfl, hb, za⟩) | ((with_reducible refine (I2.out _).mono ?_); rintro e wt ⟨bt, At, nt, ct, rfl, hb, zt⟩) | ((with_reducible refine (DV.out _ _ _ za zt).mono ?_); rintro e wd ⟨bq, Aq, nq, cq, br, Ar, nr, cr, rfl, hb, zq, zr⟩))
  refine hK.out _ _ (hHeld14.next hb) (fun hHeld15 => ?_)
  replace hS3 := hS3.next hb
  (try replace za := za.below hb)
  (try replace zt := zt.below hb)
  clear hK K
  try clear hb
  try simp only [Act.put, List.setIfInBounds_toArray, List.set_cons_zero, List.set_cons_succ]
  refine wpAnyH_take (i := 9) (oi := ⟨some 7, _, _, _, _, _⟩) (v := ?_) rfl (by kernel_rfl) (by kernel_rfl) (by kernel_rfl) (fun _ _ _ h => h) (Or.inl ⟨by rfl, ?_⟩) (by assumption) ?_
  rotate_left
  · intro wq hSw; go_simp; (try with_reducible rfl)
  try simp only [Act.put, List.setIfInBounds_toArray, List.set_cons_zero, List.set_cons_succ]
  refine wpAnyH_take (i := 10) (oi := ⟨some 17, _, _, _, _, _⟩) (v := ?_) rfl (by kernel_rfl) (by kernel_rfl) (by kernel_rfl) (fun _ _ _ h => h) (Or.inl ⟨by rfl, ?_⟩) (by assumption) ?_
  rotate_left
  · intro wq hSw; go_simp; (try with_reducible rfl)
  try simp only [Act.put, List.setIfInBounds_toArray, List.set_cons_zero, List.set_cons_succ]
  refine wpAnyH_take (i := 11) (oi := ⟨some 18, _, _, _, _, _⟩) (v := ?_) rfl (by kernel_rfl) (by kernel_rfl) (by kernel_rfl) (fun _ _ _ h => h) (Or.inl ⟨by rfl, ?_⟩) (by assumption) ?_
  rotate_left
  · intro wq hSw; go_simp; (try with_reducible rfl)
  try simp only [Act.put, List.setIfInBounds_toArray, List.set_cons_zero, List.set_cons_succ]
  refine wpAnyH_ready (rs := [13]) (by kernel_rfl) (by simp) ?_
  refine AllReadyH.cons (o := ⟨some 4, _, _, _, _, _⟩) rfl (fun K hK => ?_) AllReadyH.nil
  have hne3_4 := hS3.2.1.1
  have lo4 := hHeld15.1.size
  obtain ⟨⟨a4_z0, a4_c0, a4_f0⟩, ⟨a4_z1, a4_c1, a4_f1⟩, _⟩ := hHeld15.2
  (try simp at lo4); (try simp at hne3_4); (try simp at a4_z0); (try simp at a4_z1)
  go_simp
  refine hK.out _ _ (by first | exact hHeld15.alloc _ | exact (hHeld15.alloc _).drew) (fun hHeld16 => ?_)
  first | replace hS3 := hS3.alloc2e hHeld16 | replace hS3 := hS3.alloc2 hHeld16
  (try replace zq := zq.alloc2 hHeld16)
  first | have hS4 := newK2 hHeld16 | have hS4 := newK2d hHeld16
  clear hK K
  try clear hb
  try simp only [Act.put, List.setIfInBounds_toArray, List.set_cons_zero, List.set_cons_succ]
  generalize hGWA10 : World.alloc wd (.cells #[.bool false, .slice none 0 0] 81) = WA10 at *
  clear hGWA10
  refine wpAnyH_ready (rs := [14]) (by kernel_rfl) (by simp) ?_
  refine AllReadyH.cons (o := ⟨none, _, _, _, _, _⟩) rfl (fun K hK => ?_) AllReadyH.nil
  obtain ⟨⟨s3z0, s3c0, s3f0⟩, ⟨s3z1, s3c1, s3f1⟩, _⟩ := hS3.2
  go_simp
  refine hK.out _ _ (by (repeat (first | (with_reducible exact hHeld16) | (refine Keeps.set ?_ (by simp <;> omega) (by simp <;> omega) _)))) (fun hHeld17 => ?_)
  replace hS4 := hS4.mv2 hHeld17 (by first | omega | (simp <;> omega)) (by simp <;> omega)
  (try replace zq := zq.store2 hHeld17 s3c0 s3c1)
  replace hS3 := hHeld17.add2 s3z0 s3c0 s3f0 s3c1 s3f1
  clear s3z0 s3c0 s3f0 s3z1 s3c1 s3f1
  clear hK K
  try clear hb
  try simp only [Act.put, List.setIfInBounds_toArray, List.set_cons_zero, List.set_cons_succ]
  generalize hGWA11 : World.setCell (World.setCell WA10 ⟨wt.heap.size, 0, none⟩ (.bool bq)) ⟨wt.heap.size, 1, none⟩ (.slice Aq nq cq) = WA11 at *
  clear hGWA11
  refine wpAnyH_ready (rs := [15]) (by kernel_rfl) (by simp) ?_
  refine AllReadyH.cons (o := ⟨none, _, _, _, _, _⟩) rfl (fun K hK => ?_) AllReadyH.nil
  obtain ⟨⟨s4z0, s4c0, s4f0⟩, ⟨s4z1, s4c1, s4f1⟩, _⟩ := hS4.2
  go_simp
  refine hK.out _ _ (by (repeat (first | (with_reducible exact hHeld17) | (refine Keeps.set ?_ (by simp <;> omega) (by simp <;> omega) _)))) (fun hHeld18 => ?_)
  replace hS3 := hS3.mv2 hHeld18 (by first | omega | (simp <;> omega)) (by simp <;> omega)
  (try replace zq := zq.store2 hHeld18 s4c0 s4c1)
  replace hS4 := hHeld18.add2 s4z0 s4c0 s4f0 s4c1 s4f1
  clear s4z0 s4c0 s4f0 s4z1 s4c1 s4f1
  clear hK K
  try clear hb
  try simp only [Act.put, List.setIfInBounds_toArray, List.set_cons_zero, List.set_cons_succ]
  generalize hGWA12 : World.setCell (World.setCell WA11 ⟨wd.heap.size, 0, none⟩ (.bool br)) ⟨wd.heap.size, 1, none⟩ (.slice Ar nr cr) = WA12 at *
  clear hGWA12
  refine wpAnyH_done (by kernel_rfl) ?_ _
  have hHeld := hHeld18
  rotate_left 1
  refine AllReadyH.cons (o := ⟨some 4, _, _, _, _, _⟩) rfl (fun K hK => ?_) ?_
  have hne3_4 := hS3.2.1.1
  have lo4 := hHeld14.1.size
  obtain ⟨⟨a4_z0, a4_c0, a4_f0⟩, ⟨a4_z1, a4_c1, a4_f1⟩, _⟩ := hHeld14.2
  (try simp at lo4); (try simp at hne3_4); (try simp at a4_z0); (try simp at a4_z1)
  go_simp
  refine hK.out _ _ (by first | exact hHeld14.alloc _ | exact (hHeld14.alloc _).drew) (fun hHeld19 => ?_)
  first | replace hS3 := hS3.alloc2e hHeld19 | replace hS3 := hS3.alloc2 hHeld19
  (try replace za := za.alloc2 hHeld19)
  (try replace zt := zt.alloc2 hHeld19)
  first | have hS4 := newK2 hHeld19 | have hS4 := newK2d hHeld19
  clear hK K
  try clear hb
  try simp only [Act.put, List.setIfInBounds_toArray, List.set_cons_zero, List.set_cons_succ]
  generalize hGWA13 : World.alloc WA9 (.cells #[.bool false, .slice none 0 0] 81) = WA13 at *
  clear hGWA13
  refine wpAnyH_ready (rs := [8]) (by kernel_rfl) (by simp) ?_
  refine AllReadyH.cons (o := ⟨some 16, _, _, _, _, _⟩) rfl (fun K hK => ?_) AllReadyH.nil
  go_simp
  (first | ((with_reducible refine (IL.out _).mono ?_); rintro e wl ⟨bl, Al, nl, cl, rfl, hb, zl⟩) | ((with_reducible refine (IH.out _).mono ?_); rintro e wh ⟨bh, Ah, nh, ch, rfl, hb, zh⟩) | ((with_reducible refine (AD.out _ _ _ zl zh).mono ?_); rintro e wa ⟨ba, Aa, na, ca, rfl, hb, za⟩) | ((with_reducible refine (I2.out _).mono ?_); rintro e wt ⟨bt, At, nt, ct, rfl, hb, zt⟩) | ((with_reducible refine (DV.out _ _ _ za zt).mono ?_); rintro e wd ⟨bq, Aq, nq, cq, br, Ar, nr, cr, rfl, hb, zq, zr⟩))
  refine hK.out _ _ (hHeld19.next hb) (fun hHeld20 => ?_)
  replace hS3 := hS3.next hb
  replace hS4 := hS4.next hb
  (try replace za := za.below hb)
  (try replace zt := zt.below hb)
  clear hK K
  try clear hb
  try simp only [Act.put, List.setIfInBounds_toArray, List.set_cons_zero, List.set_cons_succ]
  refine wpAnyH_take (i := 9) (oi := ⟨some 7, _, _, _, _, _⟩) (v := ?_) rfl (by kernel_rfl) (by kernel_rfl) (by kernel_rfl) (fun _ _ _ h => h) (Or.inl ⟨by rfl, ?_⟩) (by assumption) ?_
  rotate_left
  · intro wq hSw; go_simp; (try with_reducible rfl)
  try simp only [Act.put, List.setIfInBounds_toArray, List.set_cons_zero, List.set_cons_succ]
  refine wpAnyH_take (i := 10) (oi := ⟨some 17, _, _, _, _, _⟩) (v := ?_) rfl (by kernel_rfl) (by kernel_rfl) (by kernel_rfl) (fun _ _ _ h => h) (Or.inl ⟨by rfl, ?_⟩) (by assumption) ?_
  rotate_left
  · intro wq hSw; go_simp; (try with_reducible rfl)
  try simp only [Act.put, List.setIfInBounds_toArray, List.set_cons_zero, List.set_cons_succ]
  refine wpAnyH_take (i := 11) (oi := ⟨some 18, _, _, _, _, _⟩) (v := ?_) rfl (by kernel_rfl) (by kernel_rfl) (by kernel_rfl) (fun _ _ _ h => h) (Or.inl ⟨by rfl, ?_⟩) (by assumption) ?_
  rotate_left
  · intro wq hSw; go_simp; (try with_reducible rfl)
  try simp only [Act.put, List.setIfInBounds_toArray, List.set_cons_zero, List.set_cons_succ]
  refine wpAnyH_ready (rs := [14]) (by kernel_rfl) (by simp) ?_
  refine AllReadyH.cons (o := ⟨none, _, _, _, _, _⟩) rfl (fun K hK => ?_) AllReadyH.nil
  obtain ⟨⟨s3z0, s3c0, s3f0⟩, ⟨s3z1, s3c1, s3f1⟩, _⟩ := hS3.2
  go_simp
  refine hK.out _ _ (by (repeat (first | (with_reducible exact hHeld20) | (refine Keeps.set ?_ (by simp <;> omega) (by simp <;> omega) _)))) (fun hHeld21 => ?_)
  replace hS4 := hS4.mv2 hHeld21 (by first | omega | (simp <;> omega)) (by simp <;> omega)
  (try replace zq := zq.store2 hHeld21 s3c0 s3c1)
  replace hS3 := hHeld21.add2 s3z0 s3c0 s3f0 s3c1 s3f1
  clear s3z0 s3c0 s3f0 s3z1 s3c1 s3f1
  clear hK K
  try clear hb
  try simp only [Act.put, List.setIfInBounds_toArray, List.set_cons_zero, List.set_cons_succ]
  generalize hGWA14 : World.setCell (World.setCell wd ⟨wt.heap.size, 0, none⟩ (.bool bq)) ⟨wt.heap.size, 1, none⟩ (.slice Aq nq cq) = WA14 at *
  clear hGWA14
  refine wpAnyH_ready (rs := [15]) (by kernel_rfl) (by simp) ?_
  refine AllReadyH.cons (o := ⟨none, _, _, _, _, _⟩) rfl (fun K hK => ?_) AllReadyH.nil
  obtain ⟨⟨s4z0, s4c0, s4f0⟩, ⟨s4z1, s4c1, s4f1⟩, _⟩ := hS4.2
  go_simp
  refine hK.out _ _ (by (repeat (first | (with_reducible exact hHeld21) | (refine Keeps.set ?_ (by simp <;> omega) (by simp <;> omega) _)))) (fun hHeld22 => ?_)
  replace hS3 := hS3.mv2 hHeld22 (by first | omega | (simp <;> omega)) (by simp <;> omega)
  (try replace zq := zq.store2 hHeld22 s4c0 s4c1)
  replace hS4 := hHeld22.add2 s4z0 s4c0 s4f0 s4c1 s4f1
  clear s4z0 s4c0 s4f0 s4z1 s4c1 s4f1
  clear hK K
  try clear hb
  try simp only [Act.put, List.setIfInBounds_toArray, List.set_cons_zero, List.set_cons_succ]
  generalize hGWA15 : World.setCell (World.setCell WA14 ⟨WA9.heap.size, 0, none⟩ (.bool br)) ⟨WA9.heap.size, 1, none⟩ (.slice Ar nr cr) = WA15 at *
  clear hGWA15
  refine wpAnyH_done (by kernel_rfl) ?_ _
  have hHeld := hHeld22
  rotate_left 1
  exact AllReadyH.nil
  refine AllReadyH.cons (o := ⟨some 4, _, _, _, _, _⟩) rfl (fun K hK => ?_) ?_
  have lo4 := hHeld4.1.size
  obtain ⟨⟨a4_z0, a4_c0, a4_f0⟩, ⟨a4_z1, a4_c1, a4_f1⟩, _⟩ := hHeld4.2
  (try simp at lo4); (try simp at a4_z0); (try simp at a4_z1)
  go_simp
  refine hK.out _ _ (by first | exact hHeld4.alloc _ | exact (hHeld4.alloc _).drew) (fun hHeld23 => ?_)
  (try replace za := za.alloc2 hHeld23)
  (try replace zt := zt.alloc2 hHeld23)
  first | have hS4 := newK2 hHeld23 | have hS4 := newK2d hHeld23
  clear hK K
  try clear hb
  try simp only [Act.put, List.setIfInBounds_toArray, List.set_cons_zero, List.set_cons_succ]
  generalize hGWA16 : World.alloc wt (.cells #[.bool false, .slice none 0 0] 81) = WA16 at *
  clear hGWA16
  refine wpAnyH_ready (rs := [8, 12]) (by kernel_rfl) (by simp) ?_
  refine AllReadyH.cons (o := ⟨some 16, _, _, _, _, _⟩) rfl (fun K hK => ?_) ?_
  go_simp
  (first | ((with_reducible refine (IL.out _).mono ?_); rintro e wl ⟨bl, Al, nl, cl, rfl, hb, zl⟩) | ((with_reducible refine (IH.out _).mono ?_); rintro e wh ⟨bh, Ah, nh, ch, rfl, hb, zh⟩) | ((with_reducible refine (AD.out _ _ _ zl zh).mono ?_); rintro e wa ⟨ba, Aa, na, ca, rfl, hb, za⟩) | ((with_reducible refine (I2.out _).mono ?_); rintro e wt ⟨bt, At, nt, ct, rfl, hb, zt⟩) | ((with_reducible refine (DV.out _ _ _ za zt).mono ?_); rintro e wd ⟨bq, Aq, nq, cq, br, Ar, nr, cr, rfl, hb, zq, zr⟩))
  refine hK.out _ _ (hHeld23.next hb) (fun hHeld24 => ?_)
  replace hS4 := hS4.next hb
  (try replace za := za.below hb)
  (try replace zt := zt.below hb)
  clear hK K
  try clear hb
  try simp only [Act.put, List.setIfInBounds_toArray, List.set_cons_zero, List.set_cons_succ]
  refine wpAnyH_take (i := 9) (oi := ⟨some 7, _, _, _, _, _⟩) (v := ?_) rfl (by kernel_rfl) (by kernel_rfl) (by kernel_rfl) (fun _ _ _ h => h) (Or.inl ⟨by rfl, ?_⟩) (by assumption) ?_
  rotate_left
  · intro wq hSw; go_simp; (try with_reducible rfl)
  try simp only [Act.put, List.setIfInBounds_toArray, List.set_cons_zero, List.set_cons_succ]
  refine wpAnyH_take (i := 10) (oi := ⟨some 17, _, _, _, _, _⟩) (v := ?_) rfl (by kernel_rfl) (by kernel_rfl) (by kernel_rfl) (fun _ _ _ h => h) (Or.inl ⟨by rfl, ?_⟩) (by assumption) ?_
  rotate_left
  · intro wq hSw; go_simp; (try with_reducible rfl)
  try simp only [Act.put, List.setIfInBounds_toArray, List.set_cons_zero, List.set_cons_succ]
  refine wpAnyH_take (i := 11) (oi := ⟨some 18, _, _, _, _, _⟩) (v := ?_) rfl (by kernel_rfl) (by kernel_rfl) (by kernel_rfl) (fun _ _ _ h => h) (Or.inl ⟨by rfl, ?_⟩) (by assumption) ?_
  rotate_left
  · intro wq hSw; go_simp; (try with_reducible rfl)
  try simp only [Act.put, List.setIfInBounds_toArray, List.set_cons_zero, List.set_cons_succ]
  refine wpAnyH_ready (rs := [12]) (by kernel_rfl) (by simp) ?_
  refine AllReadyH.cons (o := ⟨some 3, _, _, _, _, _⟩) rfl (fun K hK => ?_) AllReadyH.nil
  have hne4_3 := hS4.2.1.1
  have lo3 := hHeld24.1.size
  obtain ⟨⟨a3_z0, a3_c0, a3_f0⟩, ⟨a3_z1, a3_c1, a3_f1⟩, _⟩ := hHeld24.2
  (try simp at lo3); (try simp at hne4_3); (try simp at a3_z0); (try simp at a3_z1)
  go_simp
  refine hK.out _ _ (by first | exact hHeld24.alloc _ | exact (hHeld24.alloc _).drew) (fun hHeld25 => ?_)
  first | replace hS4 := hS4.alloc2e hHeld25 | replace hS4 := hS4.alloc2 hHeld25
  (try replace zq := zq.alloc2 hHeld25)
  first | have hS3 := newK2 hHeld25 | have hS3 := newK2d hHeld25
  clear hK K
  try clear hb
  try simp only [Act.put, List.setIfInBounds_toArray, List.set_cons_zero, List.set_cons_succ]
  generalize hGWA17 : World.alloc wd (.cells #[.bool false, .slice none 0 0] 81) = WA17 at *
  clear hGWA17
  refine wpAnyH_ready (rs := [14]) (by kernel_rfl) (by simp) ?_
  refine AllReadyH.cons (o := ⟨none, _, _, _, _, _⟩) rfl (fun K hK => ?_) AllReadyH.nil
  obtain ⟨⟨s3z0, s3c0, s3f0⟩, ⟨s3z1, s3c1, s3f1⟩, _⟩ := hS3.2
  go_simp
  refine hK.out _ _ (by (repeat (first | (with_reducible exact hHeld25) | (refine Keeps.set ?_ (by simp <;> omega) (by simp <;> omega) _)))) (fun hHeld26 => ?_)
  replace hS4 := hS4.mv2 hHeld26 (by first | omega | (simp <;> omega)) (by simp <;> omega)
  (try replace zq := zq.store2 hHeld26 s3c0 s3c1)
  replace hS3 := hHeld26.add2 s3z0 s3c0 s3f0 s3c1 s3f1
  clear s3z0 s3c0 s3f0 s3z1 s3c1 s3f1
  clear hK K
  try clear hb
  try simp only [Act.put, List.setIfInBounds_toArray, List.set_cons_zero, List.set_cons_succ]
  generalize hGWA18 : World.setCell (World.setCell WA17 ⟨wd.heap.size, 0, none⟩ (.bool bq)) ⟨wd.heap.size, 1, none⟩ (.slice Aq nq cq) = WA18 at *
  clear hGWA18
  refine wpAnyH_ready (rs := [15]) (by kernel_rfl) (by simp) ?_
  refine AllReadyH.cons (o := ⟨none, _, _, _, _, _⟩) rfl (fun K hK => ?_) AllReadyH.nil
  obtain ⟨⟨s4z0, s4c0, s4f0⟩, ⟨s4z1, s4c1, s4f1⟩, _⟩ := hS4.2
  go_simp
  refine hK.out _ _ (by (repeat (first | (with_reducible exact hHeld26) | (refine Keeps.set ?_ (by simp <;> omega) (by simp <;> omega) _)))) (fun hHeld27 => ?_)
  replace hS3 := hS3.mv2 hHeld27 (by first | omega | (simp <;> omega)) (by simp <;> omega)
  (try replace zq := zq.store2 hHeld27 s4c0 s4c1)
  replace hS4 := hHeld27.add2 s4z0 s4c0 s4f0 s4c1 s4f1
  clear s4z0 s4c0 s4f0 s4z1 s4c1 s4f1
  clear hK K
  try clear hb
  try simp only [Act.put, List.setIfInBounds_toArray, List.set_cons_zero, List.set_cons_succ]
  generalize hGWA19 : World.setCell (World.setCell WA18 ⟨wt.heap.size, 0, none⟩ (.bool br)) ⟨wt.heap.size, 1, none⟩ (.slice Ar nr cr) = WA19 at *
  clear hGWA19
  refine wpAnyH_done (by kernel_rfl) ?_ _
  have hHeld := hHeld27
  rotate_left 1
  refine AllReadyH.cons (o := ⟨some 3, _, _, _, _, _⟩) rfl (fun K hK => ?_) ?_
  have hne4_3 := hS4.2.1.1
  have lo3 := hHeld23.1.size
  obtain ⟨⟨a3_z0, a3_c0, a3_f0⟩, ⟨a3_z1, a3_c1, a3_f1⟩, _⟩ := hHeld23.2
  (try simp at lo3); (try simp at hne4_3); (try simp at a3_z0); (try simp at a3_z1)
  go_simp
  refine hK.out _ _ (by first | exact hHeld23.alloc _ | exact (hHeld23.alloc _).drew) (fun hHeld28 => ?_)
  first | replace hS4 := hS4.alloc2e hHeld28 | replace hS4 := hS4.alloc2 hHeld28
  (try replace za := za.alloc2 hHeld28)
  (try replace zt := zt.alloc2 hHeld28)
  first | have hS3 := newK2 hHeld28 | have hS3 := newK2d hHeld28
  clear hK K
  try clear hb
  try simp only [Act.put, List.setIfInBounds_toArray, List.set_cons_zero, List.set_cons_succ]
  generalize hGWA20 : World.alloc WA16 (.cells #[.bool false, .slice none 0 0] 81) = WA20 at *
  clear hGWA20
  refine wpAnyH_ready (rs := [8]) (by kernel_rfl) (by simp) ?_
  refine AllReadyH.cons (o := ⟨some 16, _, _, _, _, _⟩) rfl (fun K hK => ?_) AllReadyH.nil
  go_simp
  (first | ((with_reducible refine (IL.out _).mono ?_); rintro e wl ⟨bl, Al, nl, cl, rfl, hb, zl⟩) | ((with_reducible refine (IH.out _).mono ?_); rintro e wh ⟨bh, Ah, nh, ch, rfl, hb, zh⟩) | ((with_reducible refine (AD.out _ _ _ zl zh).mono ?_); rintro e wa ⟨ba, Aa, na, ca, rfl, hb, za⟩) | ((with_reducible refine (I2.out _).mono ?_); rintro e wt ⟨bt, At, nt, ct, rfl, hb, zt⟩) | ((with_reducible refine (DV.out _ _ _ za zt).mono ?_); rintro e wd ⟨bq, Aq, nq, cq, br, Ar, nr, cr, rfl, hb, zq, zr⟩))
  refine hK.out _ _ (hHeld28.next hb) (fun hHeld29 => ?_)
  replace hS4 := hS4.next hb
  replace hS3 := hS3.next hb
  (try replace za := za.below hb)
  (try replace zt := zt.below hb)
  clear hK K
  try clear hb
  try simp only [Act.put, List.setIfInBounds_toArray, List.set_cons_zero, List.set_cons_succ]
  refine wpAnyH_take (i := 9) (oi := ⟨some 7, _, _, _, _, _⟩) (v := ?_) rfl (by kernel_rfl) (by kernel_rfl) (by kernel_rfl) (fun _ _ _ h => h) (Or.inl ⟨by rfl, ?_⟩) (by assumption) ?_
  rotate_left
  · intro wq hSw; go_simp; (try with_reducible rfl)
  try simp only [Act.put, List.setIfInBounds_toArray, List.set_cons_zero, List.set_cons_succ]
  refine wpAnyH_take (i := 10) (oi := ⟨some 17, _, _, _, _, _⟩) (v := ?_) rfl (by kernel_rfl) (by kernel_rfl) (by kernel_rfl) (fun _ _ _ h => h) (Or.inl ⟨by rfl, ?_⟩) (by assumption) ?_
  rotate_left
  · intro wq hSw; go_simp; (try with_reducible rfl)
  try simp only [Act.put, List.setIfInBounds_toArray, List.set_cons_zero, List.set_cons_succ]
  refine wpAnyH_take (i := 11) (oi := ⟨some 18, _, _, _, _, _⟩) (v := ?_) rfl (by kernel_rfl) (by kernel_rfl) (by kernel_rfl) (fun _ _ _ h => h) (Or.inl ⟨by rfl, ?_⟩) (by assumption) ?_
  rotate_left
  · intro wq hSw; go_simp; (try with_reducible rfl)
  try simp only [Act.put, List.setIfInBounds_toArray, List.set_cons_zero, List.set_cons_succ]
  refine wpAnyH_ready (rs := [14]) (by kernel_rfl) (by simp) ?_
  refine AllReadyH.cons (o := ⟨none, _, _, _, _, _⟩) rfl (fun K hK => ?_) AllReadyH.nil
  obtain ⟨⟨s3z0, s3c0, s3f0⟩, ⟨s3z1, s3c1, s3f1⟩, _⟩ := hS3.2
  go_simp
  refine hK.out _ _ (by (repeat (first | (with_reducible exact hHeld29) | (refine Keeps.set ?_ (by simp <;> omega) (by simp <;> omega) _)))) (fun hHeld30 => ?_)
  replace hS4 := hS4.mv2 hHeld30 (by first | omega | (simp <;> omega)) (by simp <;> omega)
  (try replace zq := zq.store2 hHeld30 s3c0 s3c1)
  replace hS3 := hHeld30.add2 s3z0 s3c0 s3f0 s3c1 s3f1
  clear s3z0 s3c0 s3f0 s3z1 s3c1 s3f1
  clear hK K
  try clear hb
  try simp only [Act.put, List.setIfInBounds_toArray, List.set_cons_zero, List.set_cons_succ]
  generalize hGWA21 : World.setCell (World.setCell wd ⟨WA16.heap.size, 0, none⟩ (.bool bq)) ⟨WA16.heap.size, 1, none⟩ (.slice Aq nq cq) = WA21 at *
  clear hGWA21
  refine wpAnyH_ready (rs := [15]) (by kernel_rfl) (by simp) ?_
  refine AllReadyH.cons (o := ⟨none, _, _, _, _, _⟩) rfl (fun K hK => ?_) AllReadyH.nil
  obtain ⟨⟨s4z0, s4c0, s4f0⟩, ⟨s4z1, s4c1, s4f1⟩, _⟩ := hS4.2
  go_simp
  refine hK.out _ _ (by (repeat (first | (with_reducible exact hHeld30) | (refine Keeps.set ?_ (by simp <;> omega) (by simp <;> omega) _)))) (fun hHeld31 => ?_)
  replace hS3 := hS3.mv2 hHeld31 (by first | omega | (simp <;> omega)) (by simp <;> omega)
  (try replace zq := zq.store2 hHeld31 s4c0 s4c1)
  replace hS4 := hHeld31.add2 s4z0 s4c0 s4f0 s4c1 s4f1
  clear s4z0 s4c0 s4f0 s4z1 s4c1 s4f1
  clear hK K
  try clear hb
  try simp only [Act.put, List.setIfInBounds_toArray, List.set_cons_zero, List.set_cons_succ]
  generalize hGWA22 : World.setCell (World.setCell WA21 ⟨wt.heap.size, 0, none⟩ (.bool br)) ⟨wt.heap.size, 1, none⟩ (.slice Ar nr cr) = WA22 at *
  clear hGWA22
  refine wpAnyH_done (by kernel_rfl) ?_ _
  have hHeld := hHeld31
  rotate_left 1
  exact AllReadyH.nil
  exact AllReadyH.nil
  refine AllReadyH.cons (o := ⟨some 3, _, _, _, _, _⟩) rfl (fun K hK => ?_) ?_
  have lo3 := hHeld3.1.size
  obtain ⟨⟨a3_z0, a3_c0, a3_f0⟩, ⟨a3_z1, a3_c1, a3_f1⟩, _⟩ := hHeld3.2
  (try simp at lo3); (try simp at a3_z0); (try simp at a3_z1)
  go_simp
  refine hK.out _ _ (by first | exact hHeld3.alloc _ | exact (hHeld3.alloc _).drew) (fun hHeld32 => ?_)
  (try replace za := za.alloc2 hHeld32)
  first | have hS3 := newK2 hHeld32 | have hS3 := newK2d hHeld32
  clear hK K
  try clear hb
  try simp only [Act.put, List.setIfInBounds_toArray, List.set_cons_zero, List.set_cons_succ]
  generalize hGWA23 : World.alloc wa (.cells #[.bool false, .slice none 0 0] 81) = WA23 at *
  clear hGWA23
  refine wpAnyH_ready (rs := [7, 13]) (by kernel_rfl) (by simp) ?_
  refine AllReadyH.cons (o := ⟨some 15, _, _, _, _, _⟩) rfl (fun K hK => ?_) ?_
  go_simp
  (first | ((with_reducible refine (IL.out _).mono ?_); rintro e wl ⟨bl, Al, nl, cl, rfl, hb, zl⟩) | ((with_reducible refine (IH.out _).mono ?_); rintro e wh ⟨bh, Ah, nh, ch, rfl, hb, zh⟩) | ((with_reducible refine (AD.out _ _ _ zl zh).mono ?_); rintro e wa ⟨ba, Aa, na, ca, rfl, hb, za⟩) | ((with_reducible refine (I2.out _).mono ?_); rintro e wt ⟨bt, At, nt, ct, rfl, hb, zt⟩) | ((with_reducible refine (DV.out _ _ _ za zt).mono ?_); rintro e wd ⟨bq, Aq, nq, cq, br, Ar, nr, cr, rfl, hb, zq, zr⟩))
  refine hK.out _ _ (hHeld32.next hb) (fun hHeld33 => ?_)
  replace hS3 := hS3.next hb
  (try replace za := za.below hb)
  clear hK K
  try clear hb
  try simp only [Act.put, List.setIfInBounds_toArray, List.set_cons_zero, List.set_cons_succ]
  refine wpAnyH_ready (rs := [8, 13]) (by kernel_rfl) (by simp) ?_
  refine AllReadyH.cons (o := ⟨some 16, _, _, _, _, _⟩) rfl (fun K hK => ?_) ?_
  go_simp
  (first | ((with_reducible refine (IL.out _).mono ?_); rintro e wl ⟨bl, Al, nl, cl, rfl, hb, zl⟩) | ((with_reducible refine (IH.out _).mono ?_); rintro e wh ⟨bh, Ah, nh, ch, rfl, hb, zh⟩) | ((with_reducible refine (AD.out _ _ _ zl zh).mono ?_); rintro e wa ⟨ba, Aa, na, ca, rfl, hb, za⟩) | ((with_reducible refine (I2.out _).mono ?_); rintro e wt ⟨bt, At, nt, ct, rfl, hb, zt⟩) | ((with_reducible refine (DV.out _ _ _ za zt).mono ?_); rintro e wd ⟨bq, Aq, nq, cq, br, Ar, nr, cr, rfl, hb, zq, zr⟩))
  refine hK.out _ _ (hHeld33.next hb) (fun hHeld34 => ?_)
  replace hS3 := hS3.next hb
  (try replace za := za.below hb)
  (try replace zt := zt.below hb)
  clear hK K
  try clear hb
  try simp only [Act.put, List.setIfInBounds_toArray, List.set_cons_zero, List.set_cons_succ]
  refine wpAnyH_take (i := 9) (oi := ⟨some 7, _, _, _, _, _⟩) (v := ?_) rfl (by kernel_rfl) (by kernel_rfl) (by kernel_rfl) (fun _ _ _ h => h) (Or.inl ⟨by rfl, ?_⟩) (by assumption) ?_
  rotate_left
  · intro wq hSw; go_simp; (try with_reducible rfl)
  try simp only [Act.put, List.setIfInBounds_toArray, List.set_cons_zero, List.set_cons_succ]
  refine wpAnyH_take (i := 10) (oi := ⟨some 17, _, _, _, _, _⟩) (v := ?_) rfl (by kernel_rfl) (by kernel_rfl) (by kernel_rfl) (fun _ _ _ h => h) (Or.inl ⟨by rfl, ?_⟩) (by assumption) ?_
  rotate_left
  · intro wq hSw; go_simp; (try with_reducible rfl)
  try simp only [Act.put, List.setIfInBounds_toArray, List.set_cons_zero, List.set_cons_succ]
  refine wpAnyH_take (i := 11) (oi := ⟨some 18, _, _, _, _, _⟩) (v := ?_) rfl (by kernel_rfl) (by kernel_rfl) (by kernel_rfl) (fun _ _ _ h => h) (Or.inl ⟨by rfl, ?_⟩) (by assumption) ?_
  rotate_left
  · intro wq hSw; go_simp; (try with_reducible rfl)
  try simp only [Act.put, List.setIfInBounds_toArray, List.set_cons_zero, List.set_cons_succ]
  refine wpAnyH_ready (rs := [13]) (by kernel_rfl) (by simp) ?_
  refine AllReadyH.cons (o := ⟨some 4, _, _, _, _, _⟩) rfl (fun K hK => ?_) AllReadyH.nil
  have hne3_4 := hS3.2.1.1
  have lo4 := hHeld34.1.size
  obtain ⟨⟨a4_z0, a4_c0, a4_f0⟩, ⟨a4_z1, a4_c1, a4_f1⟩, _⟩ := hHeld34.2
  (try simp at lo4); (try simp at hne3_4); (try simp at a4_z0); (try simp at a4_z1)
  go_simp
  refine hK.out _ _ (by first | exact hHeld34.alloc _ | exact (hHeld34.alloc _).drew) (fun hHeld35 => ?_)
  first | replace hS3 := hS3.alloc2e hHeld35 | replace hS3 := hS3.alloc2 hHeld35
  (try replace zq := zq.alloc2 hHeld35)
  first | have hS4 := newK2 hHeld35 | have hS4 := newK2d hHeld35
  clear hK K
  try clear hb
  try simp only [Act.put, List.setIfInBounds_toArray, List.set_cons_zero, List.set_cons_succ]
  generalize hGWA24 : World.alloc wd (.cells #[.bool false, .slice none 0 0] 81) = WA24 at *
  clear hGWA24
  refine wpAnyH_ready (rs := [14]) (by kernel_rfl) (by simp) ?_
  refine AllReadyH.cons (o := ⟨none, _, _, _, _, _⟩) rfl (fun K hK => ?_) AllReadyH.nil
  obtain ⟨⟨s3z0, s3c0, s3f0⟩, ⟨s3z1, s3c1, s3f1⟩, _⟩ := hS3.2
  go_simp
  refine hK.out _ _ (by (repeat (first | (with_reducible exact hHeld35) | (refine Keeps.set ?_ (by simp <;> omega) (by simp <;> omega) _)))) (fun hHeld36 => ?_)
  replace hS4 := hS4.mv2 hHeld36 (by first | omega | (simp <;> omega)) (by simp <;> omega)
  (try replace zq := zq.store2 hHeld36 s3c0 s3c1)
  replace hS3 := hHeld36.add2 s3z0 s3c0 s3f0 s3c1 s3f1
  clear s3z0 s3c0 s3f0 s3z1 s3c1 s3f1
  clear hK K
  try clear hb
  try simp only [Act.put, List.setIfInBounds_toArray, List.set_cons_zero, List.set_cons_succ]
  generalize hGWA25 : World.setCell (World.setCell WA24 ⟨wa.heap.size, 0, none⟩ (.bool bq)) ⟨wa.heap.size, 1, none⟩ (.slice Aq nq cq) = WA25 at *
  clear hGWA25
  refine wpAnyH_ready (rs := [15]) (by kernel_rfl) (by simp) ?_
  refine AllReadyH.cons (o := ⟨none, _, _, _, _, _⟩) rfl (fun K hK => ?_) AllReadyH.nil
  obtain ⟨⟨s4z0, s4c0, s4f0⟩, ⟨s4z1, s4c1, s4f1⟩, _⟩ := hS4.2
  go_simp
  refine hK.out _ _ (by (repeat (first | (with_reducible exact hHeld36) | (refine Keeps.set ?_ (by simp <;> omega) (by simp <;> omega) _)))) (fun hHeld37 => ?_)
  replace hS3 := hS3.mv2 hHeld37 (by first | omega | (simp <;> omega)) (by simp <;> omega)
  (try replace zq := zq.store2 hHeld37 s4c0 s4c1)
  replace hS4 := hHeld37.add2 s4z0 s4c0 s4f0 s4c1 s4f1
  clear s4z0 s4c0 s4f0 s4z1 s4c1 s4f1
  clear hK K
  try clear hb
  try simp only [Act.put, List.setIfInBounds_toArray, List.set_cons_zero, List.set_cons_succ]
  generalize hGWA26 : World.setCell (World.setCell WA25 ⟨wd.heap.size, 0, none⟩ (.bool br)) ⟨wd.heap.size, 1, none⟩ (.slice Ar nr cr) = WA26 at *
  clear hGWA26
  refine wpAnyH_done (by kernel_rfl) ?_ _
  have hHeld := hHeld37
  rotate_left 1
  refine AllReadyH.cons (o := ⟨some 4, _, _, _, _, _⟩) rfl (fun K hK => ?_) ?_
  have hne3_4 := hS3.2.1.1
  have lo4 := hHeld33.1.size
  obtain ⟨⟨a4_z0, a4_c0, a4_f0⟩, ⟨a4_z1, a4_c1, a4_f1⟩, _⟩ := hHeld33.2
  (try simp at lo4); (try simp at hne3_4); (try simp at a4_z0); (try simp at a4_z1)
  go_simp
  refine hK.out _ _ (by first | exact hHeld33.alloc _ | exact (hHeld33.alloc _).drew) (fun hHeld38 => ?_)
  first | replace hS3 := hS3.alloc2e hHeld38 | replace hS3 := hS3.alloc2 hHeld38
  (try replace za := za.alloc2 hHeld38)
  (try replace zt := zt.alloc2 hHeld38)
  first | have hS4 := newK2 hHeld38 | have hS4 := newK2d hHeld38
  clear hK K
  try clear hb
  try simp only [Act.put, List.setIfInBounds_toArray, List.set_cons_zero, List.set_cons_succ]
  generalize hGWA27 : World.alloc wt (.cells #[.bool false, .slice none 0 0] 81) = WA27 at *
  clear hGWA27
  refine wpAnyH_ready (rs := [8]) (by kernel_rfl) (by simp) ?_
  refine AllReadyH.cons (o := ⟨some 16, _, _, _, _, _⟩) rfl (fun K hK => ?_) AllReadyH.nil
  go_simp
  (first | ((with_reducible refine (IL.out _).mono ?_); rintro e wl ⟨bl, Al, nl, cl, rfl, hb, zl⟩) | ((with_reducible refine (IH.out _).mono ?_); rintro e wh ⟨bh, Ah, nh, ch, rfl, hb, zh⟩) | ((with_reducible refine (AD.out _ _ _ zl zh).mono ?_); rintro e wa ⟨ba, Aa, na, ca, rfl, hb, za⟩) | ((with_reducible refine (I2.out _).mono ?_); rintro e wt ⟨bt, At, nt, ct, rfl, hb, zt⟩) | ((with_reducible refine (DV.out _ _ _ za zt).mono ?_); rintro e wd ⟨bq, Aq, nq, cq, br, Ar, nr, cr, rfl, hb, zq, zr⟩))
  refine hK.out _ _ (hHeld38.next hb) (fun hHeld39 => ?_)
  replace hS3 := hS3.next hb
  replace hS4 := hS4.next hb
  (try replace za := za.below hb)
  (try replace zt := zt.below hb)
  clear hK K
  try clear hb
  try simp only [Act.put, List.setIfInBounds_toArray, List.set_cons_zero, List.set_cons_succ]
  refine wpAnyH_take (i := 9) (oi := ⟨some 7, _, _, _, _, _⟩) (v := ?_) rfl (by kernel_rfl) (by kernel_rfl) (by kernel_rfl) (fun _ _ _ h => h) (Or.inl ⟨by rfl, ?_⟩) (by assumption) ?_
  rotate_left
  · intro wq hSw; go_simp; (try with_reducible rfl)
  try simp only [Act.put, List.setIfInBounds_toArray, List.set_cons_zero, List.set_cons_succ]
  refine wpAnyH_take (i := 10) (oi := ⟨some 17, _, _, _, _, _⟩) (v := ?_) rfl (by kernel_rfl) (by kernel_rfl) (by kernel_rfl) (fun _ _ _ h => h) (Or.inl ⟨by rfl, ?_⟩) (by assumption) ?_
  rotate_left
  · intro wq hSw; go_simp; (try with_reducible rfl)
  try simp only [Act.put, List.setIfInBounds_toArray, List.set_cons_zero, List.set_cons_succ]
  refine wpAnyH_take (i := 11) (oi := ⟨some 18, _, _, _, _, _⟩) (v := ?_) rfl (by kernel_rfl) (by kernel_rfl) (by kernel_rfl) (fun _ _ _ h => h) (Or.inl ⟨by rfl, ?_⟩) (by assumption) ?_
  rotate_left
  · intro wq hSw; go_simp; (try with_reducible rfl)
  try simp only [Act.put, List.setIfInBounds_toArray, List.set_cons_zero, List.set_cons_succ]
  refine wpAnyH_ready (rs := [14]) (by kernel_rfl) (by simp) ?_
  refine AllReadyH.cons (o := ⟨none, _, _, _, _, _⟩) rfl (fun K hK => ?_) AllReadyH.nil
  obtain ⟨⟨s3z0, s3c0, s3f0⟩, ⟨s3z1, s3c1, s3f1⟩, _⟩ := hS3.2
  go_simp
  refine hK.out _ _ (by (repeat (first | (with_reducible exact hHeld39) | (refine Keeps.set ?_ (by simp <;> omega) (by simp <;> omega) _)))) (fun hHeld40 => ?_)
  replace hS4 := hS4.mv2 hHeld40 (by first | omega | (simp <;> omega)) (by simp <;> omega)
  (try replace zq := zq.store2 hHeld40 s3c0 s3c1)
  replace hS3 := hHeld40.add2 s3z0 s3c0 s3f0 s3c1 s3f1
  clear s3z0 s3c0 s3f0 s3z1 s3c1 s3f1
  clear hK K
  try clear hb
  try simp only [Act.put, List.setIfInBounds_toArray, List.set_cons_zero, List.set_cons_succ]
  generalize hGWA28 : World.setCell (World.setCell wd ⟨wa.heap.size, 0, none⟩ (.bool bq)) ⟨wa.heap.size, 1, none⟩ (.slice Aq nq cq) = WA28 at *
  clear hGWA28
  refine wpAnyH_ready (rs := [15]) (by kernel_rfl) (by simp) ?_
  refine AllReadyH.cons (o := ⟨none, _, _, _, _, _⟩) rfl (fun K hK => ?_) AllReadyH.nil
  obtain ⟨⟨s4z0, s4c0, s4f0⟩, ⟨s4z1, s4c1, s4f1⟩, _⟩ := hS4.2
  go_simp
  refine hK.out _ _ (by (repeat (first | (with_reducible exact hHeld40) | (refine Keeps.set ?_ (by simp <;> omega) (by simp <;> omega) _)))) (fun hHeld41 => ?_)
  replace hS3 := hS3.mv2 hHeld41 (by first | omega | (simp <;> omega)) (by simp <;> omega)
  (try replace zq := zq.store2 hHeld41 s4c0 s4c1)
  replace hS4 := hHeld41.add2 s4z0 s4c0 s4f0 s4c1 s4f1
  clear s4z0 s4c0 s4f0 s4z1 s4c1 s4f1
  clear hK K
  try clear hb
  try simp only [Act.put, List.setIfInBounds_toArray, List.set_cons_zero, List.set_cons_succ]
  generalize hGWA29 : World.setCell (World.setCell WA28 ⟨wt.heap.size, 0, none⟩ (.bool br)) ⟨wt.heap.size, 1, none⟩ (.slice Ar nr cr) = WA29 at *
  clear hGWA29
  refine wpAnyH_done (by kernel_rfl) ?_ _
  have hHeld := hHeld41
  rotate_left 1
  exact AllReadyH.nil
  refine AllReadyH.cons (o := ⟨some 4, _, _, _, _, _⟩) rfl (fun K hK => ?_) ?_
  have hne3_4 := hS3.2.1.1
  have lo4 := hHeld32.1.size
  obtain ⟨⟨a4_z0, a4_c0, a4_f0⟩, ⟨a4_z1, a4_c1, a4_f1⟩, _⟩ := hHeld32.2
  (try simp at lo4); (try simp at hne3_4); (try simp at a4_z0); (try simp at a4_z1)
  go_simp
  refine hK.out _ _ (by first | exact hHeld32.alloc _ | exact (hHeld32.alloc _).drew) (fun hHeld42 => ?_)
  first | replace hS3 := hS3.alloc2e hHeld42 | replace hS3 := hS3.alloc2 hHeld42
  (try replace za := za.alloc2 hHeld42)
  first | have hS4 := newK2 hHeld42 | have hS4 := newK2d hHeld42
  clear hK K
  try clear hb
  try simp only [Act.put, List.setIfInBounds_toArray, List.set_cons_zero, List.set_cons_succ]
  generalize hGWA30 : World.alloc WA23 (.cells #[.bool false, .slice none 0 0] 81) = WA30 at *
  clear hGWA30
  refine wpAnyH_ready (rs := [7]) (by kernel_rfl) (by simp) ?_
  refine AllReadyH.cons (o := ⟨some 15, _, _, _, _, _⟩) rfl (fun K hK => ?_) AllReadyH.nil
  go_simp
  (first | ((with_reducible refine (IL.out _).mono ?_); rintro e wl ⟨bl, Al, nl, cl, rfl, hb, zl⟩) | ((with_reducible refine (IH.out _).mono ?_); rintro e wh ⟨bh, Ah, nh, ch, rfl, hb, zh⟩) | ((with_reducible refine (AD.out _ _ _ zl zh).mono ?_); rintro e wa ⟨ba, Aa, na, ca, rfl, hb, za⟩) | ((with_reducible refine (I2.out _).mono ?_); rintro e wt ⟨bt, At, nt, ct, rfl, hb, zt⟩) | ((with_reducible refine (DV.out _ _ _ za zt).mono ?_); rintro e wd ⟨bq, Aq, nq, cq, br, Ar, nr, cr, rfl, hb, zq, zr⟩))
  refine hK.out _ _ (hHeld42.next hb) (fun hHeld43 => ?_)
  replace hS3 := hS3.next hb
  replace hS4 := hS4.next hb
  (try replace za := za.below hb)
  clear hK K
  try clear hb
  try simp only [Act.put, List.setIfInBounds_toArray, List.set_cons_zero, List.set_cons_succ]
  refine wpAnyH_ready (rs := [8]) (by kernel_rfl) (by simp) ?_
  refine AllReadyH.cons (o := ⟨some 16, _, _, _, _, _⟩) rfl (fun K hK => ?_) AllReadyH.nil
  go_simp
  (first | ((with_reducible refine (IL.out _).mono ?_); rintro e wl ⟨bl, Al, nl, cl, rfl, hb, zl⟩) | ((with_reducible refine (IH.out _).mono ?_); rintro e wh ⟨bh, Ah, nh, ch, rfl, hb, zh⟩) | ((with_reducible refine (AD.out _ _ _ zl zh).mono ?_); rintro e wa ⟨ba, Aa, na, ca, rfl, hb, za⟩) | ((with_reducible refine (I2.out _).mono ?_); rintro e wt ⟨bt, At, nt, ct, rfl, hb, zt⟩) | ((with_reducible refine (DV.out _ _ _ za zt).mono ?_); rintro e wd ⟨bq, Aq, nq, cq, br, Ar, nr, cr, rfl, hb, zq, zr⟩))
  refine hK.out _ _ (hHeld43.next hb) (fun hHeld44 => ?_)
  replace hS3 := hS3.next hb
  replace hS4 := hS4.next hb
  (try replace za := za.below hb)
  (try replace zt := zt.below hb)
  clear hK K
  try clear hb
  try simp only [Act.put, List.setIfInBounds_toArray, List.set_cons_zero, List.set_cons_succ]
  refine wpAnyH_take (i := 9) (oi := ⟨some 7, _, _, _, _, _⟩) (v := ?_) rfl (by kernel_rfl) (by kernel_rfl) (by kernel_rfl) (fun _ _ _ h => h) (Or.inl ⟨by rfl, ?_⟩) (by assumption) ?_
  rotate_left
  · intro wq hSw; go_simp; (try with_reducible rfl)
  try simp only [Act.put, List.setIfInBounds_toArray, List.set_cons_zero, List.set_cons_succ]
  refine wpAnyH_take (i := 10) (oi := ⟨some 17, _, _, _, _, _⟩) (v := ?_) rfl (by kernel_rfl) (by kernel_rfl) (by kernel_rfl) (fun _ _ _ h => h) (Or.inl ⟨by rfl, ?_⟩) (by assumption) ?_
  rotate_left
  · intro wq hSw; go_simp; (try with_reducible rfl)
  try simp only [Act.put, List.setIfInBounds_toArray, List.set_cons_zero, List.set_cons_succ]
  refine wpAnyH_take (i := 11) (oi := ⟨some 18, _, _, _, _, _⟩) (v := ?_) rfl (by kernel_rfl) (by kernel_rfl) (by kernel_rfl) (fun _ _ _ h => h) (Or.inl ⟨by rfl, ?_⟩) (by assumption) ?_
  rotate_left
  · intro wq hSw; go_simp; (try with_reducible rfl)
  try simp only [Act.put, List.setIfInBounds_toArray, List.set_cons_zero, List.set_cons_succ]
  refine wpAnyH_ready (rs := [14]) (by kernel_rfl) (by simp) ?_
  refine AllReadyH.cons (o := ⟨none, _, _, _, _, _⟩) rfl (fun K hK => ?_) AllReadyH.nil
  obtain ⟨⟨s3z0, s3c0, s3f0⟩, ⟨s3z1, s3c1, s3f1⟩, _⟩ := hS3.2
  go_simp
  refine hK.out _ _ (by (repeat (first | (with_reducible exact hHeld44) | (refine Keeps.set ?_ (by simp <;> omega) (by simp <;> omega) _)))) (fun hHeld45 => ?_)
  replace hS4 := hS4.mv2 hHeld45 (by first | omega | (simp <;> omega)) (by simp <;> omega)
  (try replace zq := zq.store2 hHeld45 s3c0 s3c1)
  replace hS3 := hHeld45.add2 s3z0 s3c0 s3f0 s3c1 s3f1
  clear s3z0 s3c0 s3f0 s3z1 s3c1 s3f1
  clear hK K
  try clear hb
  try simp only [Act.put, List.setIfInBounds_toArray, List.set_cons_zero, List.set_cons_succ]
  generalize hGWA31 : World.setCell (World.setCell wd ⟨wa.heap.size, 0, none⟩ (.bool bq)) ⟨wa.heap.size, 1, none⟩ (.slice Aq nq cq) = WA31 at *
  clear hGWA31
  refine wpAnyH_ready (rs := [15]) (by kernel_rfl) (by simp) ?_
  refine AllReadyH.cons (o := ⟨none, _, _, _, _, _⟩) rfl (fun K hK => ?_) AllReadyH.nil
  obtain ⟨⟨s4z0, s4c0, s4f0⟩, ⟨s4z1, s4c1, s4f1⟩, _⟩ := hS4.2
  go_simp
  refine hK.out _ _ (by (repeat (first | (with_reducible exact hHeld45) | (refine Keeps.set ?_ (by simp <;> omega) (by simp <;> omega) _)))) (fun hHeld46 => ?_)
  replace hS3 := hS3.mv2 hHeld46 (by first | omega | (simp <;> omega)) (by simp <;> omega)
  (try replace zq := zq.store2 hHeld46 s4c0 s4c1)
  replace hS4 := hHeld46.add2 s4z0 s4c0 s4f0 s4c1 s4f1
  clear s4z0 s4c0 s4f0 s4z1 s4c1 s4f1
  clear hK K
  try clear hb
  try simp only [Act.put, List.setIfInBounds_toArray, List.set_cons_zero, List.set_cons_succ]
  generalize hGWA32 : World.setCell (World.setCell WA31 ⟨WA23.heap.size, 0, none⟩ (.bool br)) ⟨WA23.heap.size, 1, none⟩ (.slice Ar nr cr) = WA32 at *
  clear hGWA32
  refine wpAnyH_done (by kernel_rfl) ?_ _
  have hHeld := hHeld46
  rotate_left 1
  exact AllReadyH.nil
  refine AllReadyH.cons (o := ⟨some 4, _, _, _, _, _⟩) rfl (fun K hK => ?_) ?_
  have lo4 := hHeld3.1.size
  obtain ⟨⟨a4_z0, a4_c0, a4_f0⟩, ⟨a4_z1, a4_c1, a4_f1⟩, _⟩ := hHeld3.2
  (try simp at lo4); (try simp at a4_z0); (try simp at a4_z1)
  go_simp
  refine hK.out _ _ (by first | exact hHeld3.alloc _ | exact (hHeld3.alloc _).drew) (fun hHeld47 => ?_)
  (try replace za := za.alloc2 hHeld47)
  first | have hS4 := newK2 hHeld47 | have hS4 := newK2d hHeld47
  clear hK K
  try clear hb
  try simp only [Act.put, List.setIfInBounds_toArray, List.set_cons_zero, List.set_cons_succ]
  generalize hGWA33 : World.alloc wa (.cells #[.bool false, .slice none 0 0] 81) = WA33 at *
  clear hGWA33
  refine wpAnyH_ready (rs := [7, 12]) (by kernel_rfl) (by simp) ?_
  refine AllReadyH.cons (o := ⟨some 15, _, _, _, _, _⟩) rfl (fun K hK => ?_) ?_
  go_simp
  (first | ((with_reducible refine (IL.out _).mono ?_); rintro e wl ⟨bl, Al, nl, cl, rfl, hb, zl⟩) | ((with_reducible refine (IH.out _).mono ?_); rintro e wh ⟨bh, Ah, nh, ch, rfl, hb, zh⟩) | ((with_reducible refine (AD.out _ _ _ zl zh).mono ?_); rintro e wa ⟨ba, Aa, na, ca, rfl, hb, za⟩) | ((with_reducible refine (I2.out _).mono ?_); rintro e wt ⟨bt, At, nt, ct, rfl, hb, zt⟩) | ((with_reducible refine (DV.out _ _ _ za zt).mono ?_); rintro e wd ⟨bq, Aq, nq, cq, br, Ar, nr, cr, rfl, hb, zq, zr⟩))
  refine hK.out _ _ (hHeld47.next hb) (fun hHeld48 => ?_)
  replace hS4 := hS4.next hb
  (try replace za := za.below hb)
  clear hK K
  try clear hb
  try simp only [Act.put, List.setIfInBounds_toArray, List.set_cons_zero, List.set_cons_succ]
  refine wpAnyH_ready (rs := [8, 12]) (by kernel_rfl) (by simp) ?_
  refine AllReadyH.cons (o := ⟨some 16, _, _, _, _, _⟩) rfl (fun K hK => ?_) ?_
  go_simp
  (first | ((with_reducible refine (IL.out _).mono ?_); rintro e wl ⟨bl, Al, nl, cl, rfl, hb, zl⟩) | ((with_reducible refine (IH.out _).mono ?_); rintro e wh ⟨bh, Ah, nh, ch, rfl, hb, zh⟩) | ((with_reducible refine (AD.out _ _ _ zl zh).mono ?_); rintro e wa ⟨ba, Aa, na, ca, rfl, hb, za⟩) | ((with_reducible refine (I2.out _).mono ?_); rintro e wt ⟨bt, At, nt, ct, rfl, hb, zt⟩) | ((with_reducible refine (DV.out _ _ _ za zt).mono ?_); rintro e wd ⟨bq, Aq, nq, cq, br, Ar, nr, cr, rfl, hb, zq, zr⟩))
  refine hK.out _ _ (hHeld48.next hb) (fun hHeld49 => ?_)
  replace hS4 := hS4.next hb
  (try replace za := za.below hb)
  (try replace zt := zt.below hb)
  clear hK K
  try clear hb
  try simp only [Act.put, List.setIfInBounds_toArray, List.set_cons_zero, List.set_cons_succ]
  refine wpAnyH_take (i := 9) (oi := ⟨some 7, _, _, _, _, _⟩) (v := ?_) rfl (by kernel_rfl) (by kernel_rfl) (by kernel_rfl) (fun _ _ _ h => h) (Or.inl ⟨by rfl, ?_⟩) (by assumption) ?_
  rotate_left
  · intro wq hSw; go_simp; (try with_reducible rfl)
  try simp only [Act.put, List.setIfInBounds_toArray, List.set_cons_zero, List.set_cons_succ]
  refine wpAnyH_take (i := 10) (oi := ⟨some 17, _, _, _, _, _⟩) (v := ?_) rfl (by kernel_rfl) (by kernel_rfl) (by kernel_rfl) (fun _ _ _ h => h) (Or.inl ⟨by rfl, ?_⟩) (by assumption) ?_
  rotate_left
  · intro wq hSw; go_simp; (try with_reducible rfl)
  try simp only [Act.put, List.setIfInBounds_toArray, List.set_cons_zero, List.set_cons_succ]
  refine wpAnyH_take (i := 11) (oi := ⟨some 18, _, _, _, _, _⟩) (v := ?_) rfl (by kernel_rfl) (by kernel_rfl) (by kernel_rfl) (fun _ _ _ h => h) (Or.inl ⟨by rfl, ?_⟩) (by assumption) ?_
  rotate_left
  · intro wq hSw; go_simp; (try with_reducible rfl)
  try simp only [Act.put, List.setIfInBounds_toArray, List.set_cons_zero, List.set_cons_succ]
  refine wpAnyH_ready (rs := [12]) (by kernel_rfl) (by simp) ?_
  refine AllReadyH.cons (o := ⟨some 3, _, _, _, _, _⟩) rfl (fun K hK => ?_) AllReadyH.nil
  have hne4_3 := hS4.2.1.1
  have lo3 := hHeld49.1.size
  obtain ⟨⟨a3_z0, a3_c0, a3_f0⟩, ⟨a3_z1, a3_c1, a3_f1⟩, _⟩ := hHeld49.2
  (try simp at lo3); (try simp at hne4_3); (try simp at a3_z0); (try simp at a3_z1)
  go_simp
  refine hK.out _ _ (by first | exact hHeld49.alloc _ | exact (hHeld49.alloc _).drew) (fun hHeld50 => ?_)
  first | replace hS4 := hS4.alloc2e hHeld50 | replace hS4 := hS4.alloc2 hHeld50
  (try replace zq := zq.alloc2 hHeld50)
  first | have hS3 := newK2 hHeld50 | have hS3 := newK2d hHeld50
  clear hK K
  try clear hb
  try simp only [Act.put, List.setIfInBounds_toArray, List.set_cons_zero, List.set_cons_succ]
  generalize hGWA34 : World.alloc wd (.cells #[.bool false, .slice none 0 0] 81) = WA34 at *
  clear hGWA34
  refine wpAnyH_ready (rs := [14]) (by kernel_rfl) (by simp) ?_
  refine AllReadyH.cons (o := ⟨none, _, _, _, _, _⟩) rfl (fun K hK => ?_) AllReadyH.nil
  obtain ⟨⟨s3z0, s3c0, s3f0⟩, ⟨s3z1, s3c1, s3f1⟩, _⟩ := hS3.2
  go_simp
  refine hK.out _ _ (by (repeat (first | (with_reducible exact hHeld50) | (refine Keeps.set ?_ (by simp <;> omega) (by simp <;> omega) _)))) (fun hHeld51 => ?_)
  replace hS4 := hS4.mv2 hHeld51 (by first | omega | (simp <;> omega)) (by simp <;> omega)
  (try replace zq := zq.store2 hHeld51 s3c0 s3c1)
  replace hS3 := hHeld51.add2 s3z0 s3c0 s3f0 s3c1 s3f1
  clear s3z0 s3c0 s3f0 s3z1 s3c1 s3f1
  clear hK K
  try clear hb
  try simp only [Act.put, List.setIfInBounds_toArray, List.set_cons_zero, List.set_cons_succ]
  generalize hGWA35 : World.setCell (World.setCell WA34 ⟨wd.heap.size, 0, none⟩ (.bool bq)) ⟨wd.heap.size, 1, none⟩ (.slice Aq nq cq) = WA35 at *
  clear hGWA35
  refine wpAnyH_ready (rs := [15]) (by kernel_rfl) (by simp) ?_
  refine AllReadyH.cons (o := ⟨none, _, _, _, _, _⟩) rfl (fun K hK => ?_) AllReadyH.nil
  obtain ⟨⟨s4z0, s4c0, s4f0⟩, ⟨s4z1, s4c1, s4f1⟩, _⟩ := hS4.2
  go_simp
  refine hK.out _ _ (by (repeat (first | (with_reducible exact hHeld51) | (refine Keeps.set ?_ (by simp <;> omega) (by simp <;> omega) _)))) (fun hHeld52 => ?_)
  replace hS3 := hS3.mv2 hHeld52 (by first | omega | (simp <;> omega)) (by simp <;> omega)
  (try replace zq := zq.store2 hHeld52 s4c0 s4c1)
  replace hS4 := hHeld52.add2 s4z0 s4c0 s4f0 s4c1 s4f1
  clear s4z0 s4c0 s4f0 s4z1 s4c1 s4f1
  clear hK K
  try clear hb
  try simp only [Act.put, List.setIfInBounds_toArray, List.set_cons_zero, List.set_cons_succ]
  generalize hGWA36 : World.setCell (World.setCell WA35 ⟨wa.heap.size, 0, none⟩ (.bool br)) ⟨wa.heap.size, 1, none⟩ (.slice Ar nr cr) = WA36 at *
  clear hGWA36
  refine wpAnyH_done (by kernel_rfl) ?_ _
  have hHeld := hHeld52
  rotate_left 1
  refine AllReadyH.cons (o := ⟨some 3, _, _, _, _, _⟩) rfl (fun K hK => ?_) ?_
  have hne4_3 := hS4.2.1.1
  have lo3 := hHeld48.1.size
  obtain ⟨⟨a3_z0, a3_c0, a3_f0⟩, ⟨a3_z1, a3_c1, a3_f1⟩, _⟩ := hHeld48.2
  (try simp at lo3); (try simp at hne4_3); (try simp at a3_z0); (try simp at a3_z1)
  go_simp
  refine hK.out _ _ (by first | exact hHeld48.alloc _ | exact (hHeld48.alloc _).drew) (fun hHeld53 => ?_)
  first | replace hS4 := hS4.alloc2e hHeld53 | replace hS4 := hS4.alloc2 hHeld53
  (try replace za := za.alloc2 hHeld53)
  (try replace zt := zt.alloc2 hHeld53)
  first | have hS3 := newK2 hHeld53 | have hS3 := newK2d hHeld53
  clear hK K
  try clear hb
  try simp only [Act.put, List.setIfInBounds_toArray, List.set_cons_zero, List.set_cons_succ]
  generalize hGWA37 : World.alloc wt (.cells #[.bool false, .slice none 0 0] 81) = WA37 at *
  clear hGWA37
  refine wpAnyH_ready (rs := [8]) (by kernel_rfl) (by simp) ?_
  refine AllReadyH.cons (o := ⟨some 16, _, _, _, _, _⟩) rfl (fun K hK => ?_) AllReadyH.nil
  go_simp
  (first | ((with_reducible refine (IL.out _).mono ?_); rintro e wl ⟨bl, Al, nl, cl, rfl, hb, zl⟩) | ((with_reducible refine (IH.out _).mono ?_); rintro e wh ⟨bh, Ah, nh, ch, rfl, hb, zh⟩) | ((with_reducible refine (AD.out _ _ _ zl zh).mono ?_); rintro e wa ⟨ba, Aa, na, ca, rfl, hb, za⟩) | ((with_reducible refine (I2.out _).mono ?_); rintro e wt ⟨bt, At, nt, ct, rfl, hb, zt⟩) | ((with_reducible refine (DV.out _ _ _ za zt).mono ?_); rintro e wd ⟨bq, Aq, nq, cq, br, Ar, nr, cr, rfl, hb, zq, zr⟩))
  refine hK.out _ _ (hHeld53.next hb) (fun hHeld54 => ?_)
  replace hS4 := hS4.next hb
  replace hS3 := hS3.next hb
  (try replace za := za.below hb)
  (try replace zt := zt.below hb)
  clear hK K
  try clear hb
  try simp only [Act.put, List.setIfInBounds_toArray, List.set_cons_zero, List.set_cons_succ]
  refine wpAnyH_take (i := 9) (oi := ⟨some 7, _, _, _, _, _⟩) (v := ?_) rfl (by kernel_rfl) (by kernel_rfl) (by kernel_rfl) (fun _ _ _ h => h) (Or.inl ⟨by rfl, ?_⟩) (by assumption) ?_
  rotate_left
  · intro wq hSw; go_simp; (try with_reducible rfl)
  try simp only [Act.put, List.setIfInBounds_toArray, List.set_cons_zero, List.set_cons_succ]
  refine wpAnyH_take (i := 10) (oi := ⟨some 17, _, _, _, _, _⟩) (v := ?_) rfl (by kernel_rfl) (by kernel_rfl) (by kernel_rfl) (fun _ _ _ h => h) (Or.inl ⟨by rfl, ?_⟩) (by assumption) ?_
  rotate_left
  · intro wq hSw; go_simp; (try with_reducible rfl)
  try simp only [Act.put, List.setIfInBounds_toArray, List.set_cons_zero, List.set_cons_succ]
  refine wpAnyH_take (i := 11) (oi := ⟨some 18, _, _, _, _, _⟩) (v := ?_) rfl (by kernel_rfl) (by kernel_rfl) (by kernel_rfl) (fun _ _ _ h => h) (Or.inl ⟨by rfl, ?_⟩) (by assumption) ?_
  rotate_left
  · intro wq hSw; go_simp; (try with_reducible rfl)
  try simp only [Act.put, List.setIfInBounds_toArray, List.set_cons_zero, List.set_cons_succ]
  refine wpAnyH_ready (rs := [14]) (by kernel_rfl) (by simp) ?_
  refine AllReadyH.cons (o := ⟨none, _, _, _, _, _⟩) rfl (fun K hK => ?_) AllReadyH.nil
  obtain ⟨⟨s3z0, s3c0, s3f0⟩, ⟨s3z1, s3c1, s3f1⟩, _⟩ := hS3.2
  go_simp
  refine hK.out _ _ (by (repeat (first | (with_reducible exact hHeld54) | (refine Keeps.set ?_ (by simp <;> omega) (by simp <;> omega) _)))) (fun hHeld55 => ?_)
  replace hS4 := hS4.mv2 hHeld55 (by first | omega | (simp <;> omega)) (by simp <;> omega)
  (try replace zq := zq.store2 hHeld55 s3c0 s3c1)
  replace hS3 := hHeld55.add2 s3z0 s3c0 s3f0 s3c1 s3f1
  clear s3z0 s3c0 s3f0 s3z1 s3c1 s3f1
  clear hK K
  try clear hb
  try simp only [Act.put, List.setIfInBounds_toArray, List.set_cons_zero, List.set_cons_succ]
  generalize hGWA38 : World.setCell (World.setCell wd ⟨wt.heap.size, 0, none⟩ (.bool bq)) ⟨wt.heap.size, 1, none⟩ (.slice Aq nq cq) = WA38 at *
  clear hGWA38
  refine wpAnyH_ready (rs := [15]) (by kernel_rfl) (by simp) ?_
  refine AllReadyH.cons (o := ⟨none, _, _, _, _, _⟩) rfl (fun K hK => ?_) AllReadyH.nil
  obtain ⟨⟨s4z0, s4c0, s4f0⟩, ⟨s4z1, s4c1, s4f1⟩, _⟩ := hS4.2
  go_simp
  refine hK.out _ _ (by (repeat (first | (with_reducible exact hHeld55) | (refine Keeps.set ?_ (by simp <;> omega) (by simp <;> omega) _)))) (fun hHeld56 => ?_)
  replace hS3 := hS3.mv2 hHeld56 (by first | omega | (simp <;> omega)) (by simp <;> omega)
  (try replace zq := zq.store2 hHeld56 s4c0 s4c1)
  replace hS4 := hHeld56.add2 s4z0 s4c0 s4f0 s4c1 s4f1
  clear s4z0 s4c0 s4f0 s4z1 s4c1 s4f1
  clear hK K
  try clear hb
  try simp only [Act.put, List.setIfInBounds_toArray, List.set_cons_zero, List.set_cons_succ]
  generalize hGWA39 : World.setCell (World.setCell WA38 ⟨wa.heap.size, 0, none⟩ (.bool br)) ⟨wa.heap.size, 1, none⟩ (.slice Ar nr cr) = WA39 at *
  clear hGWA39
  refine wpAnyH_done (by kernel_rfl) ?_ _
  have hHeld := hHeld56
  rotate_left 1
  exact AllReadyH.nil
  refine AllReadyH.cons (o := ⟨some 3, _, _, _, _, _⟩) rfl (fun K hK => ?_) ?_
  have hne4_3 := hS4.2.1.1
  have lo3 := hHeld47.1.size
  obtain ⟨⟨a3_z0, a3_c0, a3_f0⟩, ⟨a3_z1, a3_c1, a3_f1⟩, _⟩ := hHeld47.2
  (try simp at lo3); (try simp at hne4_3); (try simp at a3_z0); (try simp at a3_z1)
  go_simp
  refine hK.out _ _ (by first | exact hHeld47.alloc _ | exact (hHeld47.alloc _).drew) (fun hHeld57 => ?_)
  first | replace hS4 := hS4.alloc2e hHeld57 | replace hS4 := hS4.alloc2 hHeld57
  (try replace za := za.alloc2 hHeld57)
  first | have hS3 := newK2 hHeld57 | have hS3 := newK2d hHeld57
  clear hK K
  try clear hb
  try simp only [Act.put, List.setIfInBounds_toArray, List.set_cons_zero, List.set_cons_succ]
  generalize hGWA40 : World.alloc WA33 (.cells #[.bool false, .slice none 0 0] 81) = WA40 at *
  clear hGWA40
  refine wpAnyH_ready (rs := [7]) (by kernel_rfl) (by simp) ?_
  refine AllReadyH.cons (o := ⟨some 15, _, _, _, _, _⟩) rfl (fun K hK => ?_) AllReadyH.nil
  go_simp
  (first | ((with_reducible refine (IL.out _).mono ?_); rintro e wl ⟨bl, Al, nl, cl, rfl, hb, zl⟩) | ((with_reducible refine (IH.out _).mono ?_); rintro e wh ⟨bh, Ah, nh, ch, rfl, hb, zh⟩) | ((with_reducible refine (AD.out _ _ _ zl zh).mono ?_); rintro e wa ⟨ba, Aa, na, ca, rfl, hb, za⟩) | ((with_reducible refine (I2.out _).mono ?_); rintro e wt ⟨bt, At, nt, ct, rfl, hb, zt⟩) | ((with_reducible refine (DV.out _ _ _ za zt).mono ?_); rintro e wd ⟨bq, Aq, nq, cq, br, Ar, nr, cr, rfl, hb, zq, zr⟩))
  refine hK.out _ _ (hHeld57.next hb) (fun hHeld58 => ?_)
  replace hS4 := hS4.next hb
  replace hS3 := hS3.next hb
  (try replace za := za.below hb)
  clear hK K
  try clear hb
  try simp only [Act.put, List.setIfInBounds_toArray, List.set_cons_zero, List.set_cons_succ]
  refine wpAnyH_ready (rs := [8]) (by kernel_rfl) (by simp) ?_
  refine AllReadyH.cons (o := ⟨some 16, _, _, _, _, _⟩) rfl (fun K hK => ?_) AllReadyH.nil
  go_simp
  (first | ((with_reducible refine (IL.out _).mono ?_); rintro e wl ⟨bl, Al, nl, cl, rfl, hb, zl⟩) | ((with_reducible refine (IH.out _).mono ?_); rintro e wh ⟨bh, Ah, nh, ch, rfl, hb, zh⟩) | ((with_reducible refine (AD.out _ _ _ zl zh).mono ?_); rintro e wa ⟨ba, Aa, na, ca, rfl, hb, za⟩) | ((with_reducible refine (I2.out _).mono ?_); rintro e wt ⟨bt, At, nt, ct, rfl, hb, zt⟩) | ((with_reducible refine (DV.out _ _ _ za zt).mono ?_); rintro e wd ⟨bq, Aq, nq, cq, br, Ar, nr, cr, rfl, hb, zq, zr⟩))
  refine hK.out _ _ (hHeld58.next hb) (fun hHeld59 => ?_)
  replace hS4 := hS4.next hb
  replace hS3 := hS3.next hb
  (try replace za := za.below hb)
  (try replace zt := zt.below hb)
  clear hK K
  try clear hb
  try simp only [Act.put, List.setIfInBounds_toArray, List.set_cons_zero, List.set_cons_succ]
  refine wpAnyH_take (i := 9) (oi := ⟨some 7, _, _, _, _, _⟩) (v := ?_) rfl (by kernel_rfl) (by kernel_rfl) (by kernel_rfl) (fun _ _ _ h => h) (Or.inl ⟨by rfl, ?_⟩) (by assumption) ?_
  rotate_left
  · intro wq hSw; go_simp; (try with_reducible rfl)
  try simp only [Act.put, List.setIfInBounds_toArray, List.set_cons_zero, List.set_cons_succ]
  refine wpAnyH_take (i := 10) (oi := ⟨some 17, _, _, _, _, _⟩) (v := ?_) rfl (by kernel_rfl) (by kernel_rfl) (by kernel_rfl) (fun _ _ _ h => h) (Or.inl ⟨by rfl, ?_⟩) (by assumption) ?_
  rotate_left
  · intro wq hSw; go_simp; (try with_reducible rfl)
  try simp only [Act.put, List.setIfInBounds_toArray, List.set_cons_zero, List.set_cons_succ]
  refine wpAnyH_take (i := 11) (oi := ⟨some 18, _, _, _, _, _⟩) (v := ?_) rfl (by kernel_rfl) (by kernel_rfl) (by kernel_rfl) (fun _ _ _ h => h) (Or.inl ⟨by rfl, ?_⟩) (by assumption) ?_
  rotate_left
  · intro wq hSw; go_simp; (try with_reducible rfl)
  try simp only [Act.put, List.setIfInBounds_toArray, List.set_cons_zero, List.set_cons_succ]
  refine wpAnyH_ready (rs := [14]) (by kernel_rfl) (by simp) ?_
  refine AllReadyH.cons (o := ⟨none, _, _, _, _, _⟩) rfl (fun K hK => ?_) AllReadyH.nil
  obtain ⟨⟨s3z0, s3c0, s3f0⟩, ⟨s3z1, s3c1, s3f1⟩, _⟩ := hS3.2
  go_simp
  refine hK.out _ _ (by (repeat (first | (with_reducible exact hHeld59) | (refine Keeps.set ?_ (by simp <;> omega) (by simp <;> omega) _)))) (fun hHeld60 => ?_)
  replace hS4 := hS4.mv2 hHeld60 (by first | omega | (simp <;> omega)) (by simp <;> omega)
  (try replace zq := zq.store2 hHeld60 s3c0 s3c1)
  replace hS3 := hHeld60.add2 s3z0 s3c0 s3f0 s3c1 s3f1
  clear s3z0 s3c0 s3f0 s3z1 s3c1 s3f1
  clear hK K
  try clear hb
  try simp only [Act.put, List.setIfInBounds_toArray, List.set_cons_zero, List.set_cons_succ]
  generalize hGWA41 : World.setCell (World.setCell wd ⟨WA33.heap.size, 0, none⟩ (.bool bq)) ⟨WA33.heap.size, 1, none⟩ (.slice Aq nq cq) = WA41 at *
  clear hGWA41
  refine wpAnyH_ready (rs := [15]) (by kernel_rfl) (by simp) ?_
  refine AllReadyH.cons (o := ⟨none, _, _, _, _, _⟩) rfl (fun K hK => ?_) AllReadyH.nil
  obtain ⟨⟨s4z0, s4c0, s4f0⟩, ⟨s4z1, s4c1, s4f1⟩, _⟩ := hS4.2
  go_simp
  refine hK.out _ _ (by (repeat (first | (with_reducible exact hHeld60) | (refine Keeps.set ?_ (by simp <;> omega) (by simp <;> omega) _)))) (fun hHeld61 => ?_)
  replace hS3 := hS3.mv2 hHeld61 (by first | omega | (simp <;> omega)) (by simp <;> omega)
  (try replace zq := zq.store2 hHeld61 s4c0 s4c1)
  replace hS4 := hHeld61.add2 s4z0 s4c0 s4f0 s4c1 s4f1
  clear s4z0 s4c0 s4f0 s4z1 s4c1 s4f1
  clear hK K
  try clear hb
  try simp only [Act.put, List.setIfInBounds_toArray, List.set_cons_zero, List.set_cons_succ]
  generalize hGWA42 : World.setCell (World.setCell WA41 ⟨wa.heap.size, 0, none⟩ (.bool br)) ⟨wa.heap.size, 1, none⟩ (.slice Ar nr cr) = WA42 at *
  clear hGWA42
  refine wpAnyH_done (by kernel_rfl) ?_ _
  have hHeld := hHeld61
  rotate_left 1
  exact AllReadyH.nil
  exact AllReadyH.nil
  refine AllReadyH.cons (o := ⟨some 3, _, _, _, _, _⟩) rfl (fun K hK => ?_) ?_
  have lo3 := hHeld2.1.size
  obtain ⟨⟨a3_z0, a3_c0, a3_f0⟩, ⟨a3_z1, a3_c1, a3_f1⟩, _⟩ := hHeld2.2
  (try simp at lo3); (try simp at a3_z0); (try simp at a3_z1)
  go_simp
  refine hK.out _ _ (by first | exact hHeld2.alloc _ | exact (hHeld2.alloc _).drew) (fun hHeld62 => ?_)
  (try replace zl := zl.alloc2 hHeld62)
  (try replace zh := zh.alloc2 hHeld62)
  first | have hS3 := newK2 hHeld62 | have hS3 := newK2d hHeld62
  clear hK K
  try clear hb
  try simp only [Act.put, List.setIfInBounds_toArray, List.set_cons_zero, List.set_cons_succ]
  generalize hGWA43 : World.alloc wh (.cells #[.bool false, .slice none 0 0] 81) = WA43 at *
  clear hGWA43
  refine wpAnyH_ready (rs := [6, 13]) (by kernel_rfl) (by simp) ?_
  refine AllReadyH.cons (o := ⟨some 14, _, _, _, _, _⟩) rfl (fun K hK => ?_) ?_
  go_simp
  (first | ((with_reducible refine (IL.out _).mono ?_); rintro e wl ⟨bl, Al, nl, cl, rfl, hb, zl⟩) | ((with_reducible refine (IH.out _).mono ?_); rintro e wh ⟨bh, Ah, nh, ch, rfl, hb, zh⟩) | ((with_reducible refine (AD.out _ _ _ zl zh).mono ?_); rintro e wa ⟨ba, Aa, na, ca, rfl, hb, za⟩) | ((with_reducible refine (I2.out _).mono ?_); rintro e wt ⟨bt, At, nt, ct, rfl, hb, zt⟩) | ((with_reducible refine (DV.out _ _ _ za zt).mono ?_); rintro e wd ⟨bq, Aq, nq, cq, br, Ar, nr, cr, rfl, hb, zq, zr⟩))
  refine hK.out _ _ (hHeld62.next hb) (fun hHeld63 => ?_)
  replace hS3 := hS3.next hb
  (try replace zl := zl.below hb)
  (try replace zh := zh.below hb)
  clear hK K
  try clear hb
  try simp only [Act.put, List.setIfInBounds_toArray, List.set_cons_zero, List.set_cons_succ]
  refine wpAnyH_ready (rs := [7, 13]) (by kernel_rfl) (by simp) ?_
  refine AllReadyH.cons (o := ⟨some 15, _, _, _, _, _⟩) rfl (fun K hK => ?_) ?_
  go_simp
  (first | ((with_reducible refine (IL.out _).mono ?_); rintro e wl ⟨bl, Al, nl, cl, rfl, hb, zl⟩) | ((with_reducible refine (IH.out _).mono ?_); rintro e wh ⟨bh, Ah, nh, ch, rfl, hb, zh⟩) | ((with_reducible refine (AD.out _ _ _ zl zh).mono ?_); rintro e wa ⟨ba, Aa, na, ca, rfl, hb, za⟩) | ((with_reducible refine (I2.out _).mono ?_); rintro e wt ⟨bt, At, nt, ct, rfl, hb, zt⟩) | ((with_reducible refine (DV.out _ _ _ za zt).mono ?_); rintro e wd ⟨bq, Aq, nq, cq, br, Ar, nr, cr, rfl, hb, zq, zr⟩))
  refine hK.out _ _ (hHeld63.next hb) (fun hHeld64 => ?_)
  replace hS3 := hS3.next hb
  (try replace za := za.below hb)
  clear hK K
  try clear hb
  try simp only [Act.put, List.setIfInBounds_toArray, List.set_cons_zero, List.set_cons_succ]
  refine wpAnyH_ready (rs := [8, 13]) (by kernel_rfl) (by simp) ?_
  refine AllReadyH.cons (o := ⟨some 16, _, _, _, _, _⟩) rfl (fun K hK => ?_) ?_
  go_simp
  (first | ((with_reducible refine (IL.out _).mono ?_); rintro e wl ⟨bl, Al, nl, cl, rfl, hb, zl⟩) | ((with_reducible refine (IH.out _).mono ?_); rintro e wh ⟨bh, Ah, nh, ch, rfl, hb, zh⟩) | ((with_reducible refine (AD.out _ _ _ zl zh).mono ?_); rintro e wa ⟨ba, Aa, na, ca, rfl, hb, za⟩) | ((with_reducible refine (I2.out _).mono ?_); rintro e wt ⟨bt, At, nt, ct, rfl, hb, zt⟩) | ((with_reducible refine (DV.out _ _ _ za zt).mono ?_); rintro e wd ⟨bq, Aq, nq, cq, br, Ar, nr, cr, rfl, hb, zq, zr⟩))
  refine hK.out _ _ (hHeld64.next hb) (fun hHeld65 => ?_)
  replace hS3 := hS3.next hb
  (try replace za := za.below hb)
  (try replace zt := zt.below hb)
  clear hK K
  try clear hb
  try simp only [Act.put, List.setIfInBounds_toArray, List.set_cons_zero, List.set_cons_succ]
  refine wpAnyH_take (i := 9) (oi := ⟨some 7, _, _, _, _, _⟩) (v := ?_) rfl (by kernel_rfl) (by kernel_rfl) (by kernel_rfl) (fun _ _ _ h => h) (Or.inl ⟨by rfl, ?_⟩) (by assumption) ?_
  rotate_left
  · intro wq hSw; go_simp; (try with_reducible rfl)
  try simp only [Act.put, List.setIfInBounds_toArray, List.set_cons_zero, List.set_cons_succ]
  refine wpAnyH_take (i := 10) (oi := ⟨some 17, _, _, _, _, _⟩) (v := ?_) rfl (by kernel_rfl) (by kernel_rfl) (by kernel_rfl) (fun _ _ _ h => h) (Or.inl ⟨by rfl, ?_⟩) (by assumption) ?_
  rotate_left
  · intro wq hSw; go_simp; (try with_reducible rfl)
  try simp only [Act.put, List.setIfInBounds_toArray, List.set_cons_zero, List.set_cons_succ]
  refine wpAnyH_take (i := 11) (oi := ⟨some 18, _, _, _, _, _⟩) (v := ?_) rfl (by kernel_rfl) (by kernel_rfl) (by kernel_rfl) (fun _ _ _ h => h) (Or.inl ⟨by rfl, ?_⟩) (by assumption) ?_
  rotate_left
  · intro wq hSw; go_simp; (try with_reducible rfl)
  try simp only [Act.put, List.setIfInBounds_toArray, List.set_cons_zero, List.set_cons_succ]
  refine wpAnyH_ready (rs := [13]) (by kernel_rfl) (by simp) ?_
  refine AllReadyH.cons (o := ⟨some 4, _, _, _, _, _⟩) rfl (fun K hK => ?_) AllReadyH.nil
  have hne3_4 := hS3.2.1.1
  have lo4 := hHeld65.1.size
  obtain ⟨⟨a4_z0, a4_c0, a4_f0⟩, ⟨a4_z1, a4_c1, a4_f1⟩, _⟩ := hHeld65.2
  (try simp at lo4); (try simp at hne3_4); (try simp at a4_z0); (try simp at a4_z1)
  go_simp
  refine hK.out _ _ (by first | exact hHeld65.alloc _ | exact (hHeld65.alloc _).drew) (fun hHeld66 => ?_)
  first | replace hS3 := hS3.alloc2e hHeld66 | replace hS3 := hS3.alloc2 hHeld66
  (try replace zq := zq.alloc2 hHeld66)
  first | have hS4 := newK2 hHeld66 | have hS4 := newK2d hHeld66
  clear hK K
  try clear hb
  try simp only [Act.put, List.setIfInBounds_toArray, List.set_cons_zero, List.set_cons_succ]
  generalize hGWA44 : World.alloc wd (.cells #[.bool false, .slice none 0 0] 81) = WA44 at *
  clear hGWA44
  refine wpAnyH_ready (rs := [14]) (by kernel_rfl) (by simp) ?_
  refine AllReadyH.cons (o := ⟨none, _, _, _, _, _⟩) rfl (fun K hK => ?_) AllReadyH.nil
  obtain ⟨⟨s3z0, s3c0, s3f0⟩, ⟨s3z1, s3c1, s3f1⟩, _⟩ := hS3.2
  go_simp
  refine hK.out _ _ (by (repeat (first | (with_reducible exact hHeld66) | (refine Keeps.set ?_ (by simp <;> omega) (by simp <;> omega) _)))) (fun hHeld67 => ?_)
  replace hS4 := hS4.mv2 hHeld67 (by first | omega | (simp <;> omega)) (by simp <;> omega)
  (try replace zq := zq.store2 hHeld67 s3c0 s3c1)
  replace hS3 := hHeld67.add2 s3z0 s3c0 s3f0 s3c1 s3f1
  clear s3z0 s3c0 s3f0 s3z1 s3c1 s3f1
  clear hK K
  try clear hb
  try simp only [Act.put, List.setIfInBounds_toArray, List.set_cons_zero, List.set_cons_succ]
  generalize hGWA45 : World.setCell (World.setCell WA44 ⟨wh.heap.size, 0, none⟩ (.bool bq)) ⟨wh.heap.size, 1, none⟩ (.slice Aq nq cq) = WA45 at *
  clear hGWA45
  refine wpAnyH_ready (rs := [15]) (by kernel_rfl) (by simp) ?_
  refine AllReadyH.cons (o := ⟨none, _, _, _, _, _⟩) rfl (fun K hK => ?_) AllReadyH.nil
  obtain ⟨⟨s4z0, s4c0, s4f0⟩, ⟨s4z1, s4c1, s4f1⟩, _⟩ := hS4.2
  go_simp
  refine hK.out _ _ (by (repeat (first | (with_reducible exact hHeld67) | (refine Keeps.set ?_ (by simp <;> omega) (by simp <;> omega) _)))) (fun hHeld68 => ?_)
  replace hS3 := hS3.mv2 hHeld68 (by first | omega | (simp <;> omega)) (by simp <;> omega)
  (try replace zq := zq.store2 hHeld68 s4c0 s4c1)
  replace hS4 := hHeld68.add2 s4z0 s4c0 s4f0 s4c1 s4f1
  clear s4z0 s4c0 s4f0 s4z1 s4c1 s4f1
  clear hK K
  try clear hb
  try simp only [Act.put, List.setIfInBounds_toArray, List.set_cons_zero, List.set_cons_succ]
  generalize hGWA46 : World.setCell (World.setCell WA45 ⟨wd.heap.size, 0, none⟩ (.bool br)) ⟨wd.heap.size, 1, none⟩ (.slice Ar nr cr) = WA46 at *
  clear hGWA46
  refine wpAnyH_done (by kernel_rfl) ?_ _
  have hHeld := hHeld68
  rotate_left 1
  refine AllReadyH.cons (o := ⟨some 4, _, _, _, _, _⟩) rfl (fun K hK => ?_) ?_
  have hne3_4 := hS3.2.1.1
  have lo4 := hHeld64.1.size
  obtain ⟨⟨a4_z0, a4_c0, a4_f0⟩, ⟨a4_z1, a4_c1, a4_f1⟩, _⟩ := hHeld64.2
  (try simp at lo4); (try simp at hne3_4); (try simp at a4_z0); (try simp at a4_z1)
  go_simp
  refine hK.out _ _ (by first | exact hHeld64.alloc _ | exact (hHeld64.alloc _).drew) (fun hHeld69 => ?_)
  first | replace hS3 := hS3.alloc2e hHeld69 | replace hS3 := hS3.alloc2 hHeld69
  (try replace za := za.alloc2 hHeld69)
  (try replace zt := zt.alloc2 hHeld69)
  first | have hS4 := newK2 hHeld69 | have hS4 := newK2d hHeld69
  clear hK K
  try clear hb
  try simp only [Act.put, List.setIfInBounds_toArray, List.set_cons_zero, List.set_cons_succ]
  generalize hGWA47 : World.alloc wt (.cells #[.bool false, .slice none 0 0] 81) = WA47 at *
  clear hGWA47
  refine wpAnyH_ready (rs := [8]) (by kernel_rfl) (by simp) ?_
  refine AllReadyH.cons (o := ⟨some 16, _, _, _, _, _⟩) rfl (fun K hK => ?_) AllReadyH.nil
  go_simp
  (first | ((with_reducible refine (IL.out _).mono ?_); rintro e wl ⟨bl, Al, nl, cl, rfl, hb, zl⟩) | ((with_reducible refine (IH.out _).mono ?_); rintro e wh ⟨bh, Ah, nh, ch, rfl, hb, zh⟩) | ((with_reducible refine (AD.out _ _ _ zl zh).mono ?_); rintro e wa ⟨ba, Aa, na, ca, rfl, hb, za⟩) | ((with_reducible refine (I2.out _).mono ?_); rintro e wt ⟨bt, At, nt, ct, rfl, hb, zt⟩) | ((with_reducible refine (DV.out _ _ _ za zt).mono ?_); rintro e wd ⟨bq, Aq, nq, cq, br, Ar, nr, cr, rfl, hb, zq, zr⟩))
  refine hK.out _ _ (hHeld69.next hb) (fun hHeld70 => ?_)
  replace hS3 := hS3.next hb
  replace hS4 := hS4.next hb
  (try replace za := za.below hb)
  (try replace zt := zt.below hb)
  clear hK K
  try clear hb
  try simp only [Act.put, List.setIfInBounds_toArray, List.set_cons_zero, List.set_cons_succ]
  refine wpAnyH_take (i := 9) (oi := ⟨some 7, _, _, _, _, _⟩) (v := ?_) rfl (by kernel_rfl) (by kernel_rfl) (by kernel_rfl) (fun _ _ _ h => h) (Or.inl ⟨by rfl, ?_⟩) (by assumption) ?_
  rotate_left
  · intro wq hSw; go_simp; (try with_reducible rfl)
  try simp only [Act.put, List.setIfInBounds_toArray, List.set_cons_zero, List.set_cons_succ]
  refine wpAnyH_take (i := 10) (oi := ⟨some 17, _, _, _, _, _⟩) (v := ?_) rfl (by kernel_rfl) (by kernel_rfl) (by kernel_rfl) (fun _ _ _ h => h) (Or.inl ⟨by rfl, ?_⟩) (by assumption) ?_
  rotate_left
  · intro wq hSw; go_simp; (try with_reducible rfl)
  try simp only [Act.put, List.setIfInBounds_toArray, List.set_cons_zero, List.set_cons_succ]
  refine wpAnyH_take (i := 11) (oi := ⟨some 18, _, _, _, _, _⟩) (v := ?_) rfl (by kernel_rfl) (by kernel_rfl) (by kernel_rfl) (fun _ _ _ h => h) (Or.inl ⟨by rfl, ?_⟩) (by assumption) ?_
  rotate_left
  · intro wq hSw; go_simp; (try with_reducible rfl)
  try simp only [Act.put, List.setIfInBounds_toArray, List.set_cons_zero, List.set_cons_succ]
  refine wpAnyH_ready (rs := [14]) (by kernel_rfl) (by simp) ?_
  refine AllReadyH.cons (o := ⟨none, _, _, _, _, _⟩) rfl (fun K hK => ?_) AllReadyH.nil
  obtain ⟨⟨s3z0, s3c0, s3f0⟩, ⟨s3z1, s3c1, s3f1⟩, _⟩ := hS3.2
  go_simp
  refine hK.out _ _ (by (repeat (first | (with_reducible exact hHeld70) | (refine Keeps.set ?_ (by simp <;> omega) (by simp <;> omega) _)))) (fun hHeld71 => ?_)
  replace hS4 := hS4.mv2 hHeld71 (by first | omega | (simp <;> omega)) (by simp <;> omega)
  (try replace zq := zq.store2 hHeld71 s3c0 s3c1)
  replace hS3 := hHeld71.add2 s3z0 s3c0 s3f0 s3c1 s3f1
  clear s3z0 s3c0 s3f0 s3z1 s3c1 s3f1
  clear hK K
  try clear hb
  try simp only [Act.put, List.setIfInBounds_toArray, List.set_cons_zero, List.set_cons_succ]
  generalize hGWA48 : World.setCell (World.setCell wd ⟨wh.heap.size, 0, none⟩ (.bool bq)) ⟨wh.heap.size, 1, none⟩ (.slice Aq nq cq) = WA48 at *
  clear hGWA48
  refine wpAnyH_ready (rs := [15]) (by kernel_rfl) (by simp) ?_
  refine AllReadyH.cons (o := ⟨none, _, _, _, _, _⟩) rfl (fun K hK => ?_) AllReadyH.nil
  obtain ⟨⟨s4z0, s4c0, s4f0⟩, ⟨s4z1, s4c1, s4f1⟩, _⟩ := hS4.2
  go_simp
  refine hK.out _ _ (by (repeat (first | (with_reducible exact hHeld71) | (refine Keeps.set ?_ (by simp <;> omega) (by simp <;> omega) _)))) (fun hHeld72 => ?_)
  replace hS3 := hS3.mv2 hHeld72 (by first | omega | (simp <;> omega)) (by simp <;> omega)
  (try replace zq := zq.store2 hHeld72 s4c0 s4c1)
  replace hS4 := hHeld72.add2 s4z0 s4c0 s4f0 s4c1 s4f1
  clear s4z0 s4c0 s4f0 s4z1 s4c1 s4f1
  clear hK K
  try clear hb
  try simp only [Act.put, List.setIfInBounds_toArray, List.set_cons_zero, List.set_cons_succ]
  generalize hGWA49 : World.setCell (World.setCell WA48 ⟨wt.heap.size, 0, none⟩ (.bool br)) ⟨wt.heap.size, 1, none⟩ (.slice Ar nr cr) = WA49 at *
  clear hGWA49
  refine wpAnyH_done (by kernel_rfl) ?_ _
  have hHeld := hHeld72
  rotate_left 1
  exact AllReadyH.nil
  refine AllReadyH.cons (o := ⟨some 4, _, _, _, _, _⟩) rfl (fun K hK => ?_) ?_
  have hne3_4 := hS3.2.1.1
  have lo4 := hHeld63.1.size
  obtain ⟨⟨a4_z0, a4_c0, a4_f0⟩, ⟨a4_z1, a4_c1, a4_f1⟩, _⟩ := hHeld63.2
  (try simp at lo4); (try simp at hne3_4); (try simp at a4_z0); (try simp at a4_z1)
  go_simp
  refine hK.out _ _ (by first | exact hHeld63.alloc _ | exact (hHeld63.alloc _).drew) (fun hHeld73 => ?_)
  first | replace hS3 := hS3.alloc2e hHeld73 | replace hS3 := hS3.alloc2 hHeld73
  (try replace za := za.alloc2 hHeld73)
  first | have hS4 := newK2 hHeld73 | have hS4 := newK2d hHeld73
  clear hK K
  try clear hb
  try simp only [Act.put, List.setIfInBounds_toArray, List.set_cons_zero, List.set_cons_succ]
  generalize hGWA50 : World.alloc wa (.cells #[.bool false, .slice none 0 0] 81) = WA50 at *
  clear hGWA50
  refine wpAnyH_ready (rs := [7]) (by kernel_rfl) (by simp) ?_
  refine AllReadyH.cons (o := ⟨some 15, _, _, _, _, _⟩) rfl (fun K hK => ?_) AllReadyH.nil
  go_simp
  (first | ((with_reducible refine (IL.out _).mono ?_); rintro e wl ⟨bl, Al, nl, cl, rfl, hb, zl⟩) | ((with_reducible refine (IH.out _).mono ?_); rintro e wh ⟨bh, Ah, nh, ch, rfl, hb, zh⟩) | ((with_reducible refine (AD.out _ _ _ zl zh).mono ?_); rintro e wa ⟨ba, Aa, na, ca, rfl, hb, za⟩) | ((with_reducible refine (I2.out _).mono ?_); rintro e wt ⟨bt, At, nt, ct, rfl, hb, zt⟩) | ((with_reducible refine (DV.out _ _ _ za zt).mono ?_); rintro e wd ⟨bq, Aq, nq, cq, br, Ar, nr, cr, rfl, hb, zq, zr⟩))
  refine hK.out _ _ (hHeld73.next hb) (fun hHeld74 => ?_)
  replace hS3 := hS3.next hb
  replace hS4 := hS4.next hb
  (try replace za := za.below hb)
  clear hK K
  try clear hb
  try simp only [Act.put, List.setIfInBounds_toArray, List.set_cons_zero, List.set_cons_succ]
  refine wpAnyH_ready (rs := [8]) (by kernel_rfl) (by simp) ?_
  refine AllReadyH.cons (o := ⟨some 16, _, _, _, _, _⟩) rfl (fun K hK => ?_) AllReadyH.nil
  go_simp
  (first | ((with_reducible refine (IL.out _).mono ?_); rintro e wl ⟨bl, Al, nl, cl, rfl, hb, zl⟩) | ((with_reducible refine (IH.out _).mono ?_); rintro e wh ⟨bh, Ah, nh, ch, rfl, hb, zh⟩) | ((with_reducible refine (AD.out _ _ _ zl zh).mono ?_); rintro e wa ⟨ba, Aa, na, ca, rfl, hb, za⟩) | ((with_reducible refine (I2.out _).mono ?_); rintro e wt ⟨bt, At, nt, ct, rfl, hb, zt⟩) | ((with_reducible refine (DV.out _ _ _ za zt).mono ?_); rintro e wd ⟨bq, Aq, nq, cq, br, Ar, nr, cr, rfl, hb, zq, zr⟩))
  refine hK.out _ _ (hHeld74.next hb) (fun hHeld75 => ?_)
  replace hS3 := hS3.next hb
  replace hS4 := hS4.next hb
  (try replace za := za.below hb)
  (try replace zt := zt.below hb)
  clear hK K
  try clear hb
  try simp only [Act.put, List.setIfInBounds_toArray, List.set_cons_zero, List.set_cons_succ]
  refine wpAnyH_take (i := 9) (oi := ⟨some 7, _, _, _, _, _⟩) (v := ?_) rfl (by kernel_rfl) (by kernel_rfl) (by kernel_rfl) (fun _ _ _ h => h) (Or.inl ⟨by rfl, ?_⟩) (by assumption) ?_
  rotate_left
  · intro wq hSw; go_simp; (try with_reducible rfl)
  try simp only [Act.put, List.setIfInBounds_toArray, List.set_cons_zero, List.set_cons_succ]
  refine wpAnyH_take (i := 10) (oi := ⟨some 17, _, _, _, _, _⟩) (v := ?_) rfl (by kernel_rfl) (by kernel_rfl) (by kernel_rfl) (fun _ _ _ h => h) (Or.inl ⟨by rfl, ?_⟩) (by assumption) ?_
  rotate_left
  · intro wq hSw; go_simp; (try with_reducible rfl)
  try simp only [Act.put, List.setIfInBounds_toArray, List.set_cons_zero, List.set_cons_succ]
  refine wpAnyH_take (i := 11) (oi := ⟨some 18, _, _, _, _, _⟩) (v := ?_) rfl (by kernel_rfl) (by kernel_rfl) (by kernel_rfl) (fun _ _ _ h => h) (Or.inl ⟨by rfl, ?_⟩) (by assumption) ?_
  rotate_left
  · intro wq hSw; go_simp; (try with_reducible rfl)
  try simp only [Act.put, List.setIfInBounds_toArray, List.set_cons_zero, List.set_cons_succ]
  refine wpAnyH_ready (rs := [14]) (by kernel_rfl) (by simp) ?_
  refine AllReadyH.cons (o := ⟨none, _, _, _, _, _⟩) rfl (fun K hK => ?_) AllReadyH.nil
  obtain ⟨⟨s3z0, s3c0, s3f0⟩, ⟨s3z1, s3c1, s3f1⟩, _⟩ := hS3.2
  go_simp
  refine hK.out _ _ (by (repeat (first | (with_reducible exact hHeld75) | (refine Keeps.set ?_ (by simp <;> omega) (by simp <;> omega) _)))) (fun hHeld76 => ?_)
  replace hS4 := hS4.mv2 hHeld76 (by first | omega | (simp <;> omega)) (by simp <;> omega)
  (try replace zq := zq.store2 hHeld76 s3c0 s3c1)
  replace hS3 := hHeld76.add2 s3z0 s3c0 s3f0 s3c1 s3f1
  clear s3z0 s3c0 s3f0 s3z1 s3c1 s3f1
  clear hK K
  try clear hb
  try simp only [Act.put, List.setIfInBounds_toArray, List.set_cons_zero, List.set_cons_succ]
  generalize hGWA51 : World.setCell (World.setCell wd ⟨wh.heap.size, 0, none⟩ (.bool bq)) ⟨wh.heap.size, 1, none⟩ (.slice Aq nq cq) = WA51 at *
  clear hGWA51
  refine wpAnyH_ready (rs := [15]) (by kernel_rfl) (by simp) ?_
  refine AllReadyH.cons (o := ⟨none, _, _, _, _, _⟩) rfl (fun K hK => ?_) AllReadyH.nil
  obtain ⟨⟨s4z0, s4c0, s4f0⟩, ⟨s4z1, s4c1, s4f1⟩, _⟩ := hS4.2
  go_simp
  refine hK.out _ _ (by (repeat (first | (with_reducible exact hHeld76) | (refine Keeps.set ?_ (by simp <;> omega) (by simp <;> omega) _)))) (fun hHeld77 => ?_)
  replace hS3 := hS3.mv2 hHeld77 (by first | omega | (simp <;> omega)) (by simp <;> omega)
  (try replace zq := zq.store2 hHeld77 s4c0 s4c1)
  replace hS4 := hHeld77.add2 s4z0 s4c0 s4f0 s4c1 s4f1
  clear s4z0 s4c0 s4f0 s4z1 s4c1 s4f1
  clear hK K
  try clear hb
  try simp only [Act.put, List.setIfInBounds_toArray, List.set_cons_zero, List.set_cons_succ]
  generalize hGWA52 : World.setCell (World.setCell WA51 ⟨wa.heap.size, 0, none⟩ (.bool br)) ⟨wa.heap.size, 1, none⟩ (.slice Ar nr cr) = WA52 at *
  clear hGWA52
  refine wpAnyH_done (by kernel_rfl) ?_ _
  have hHeld := hHeld77
  rotate_left 1
  exact AllReadyH.nil
  refine AllReadyH.cons (o := ⟨some 4, _, _, _, _, _⟩) rfl (fun K hK => ?_) ?_
  have hne3_4 := hS3.2.1.1
  have lo4 := hHeld62.1.size
  obtain ⟨⟨a4_z0, a4_c0, a4_f0⟩, ⟨a4_z1, a4_c1, a4_f1⟩, _⟩ := hHeld62.2
  (try simp at lo4); (try simp at hne3_4); (try simp at a4_z0); (try simp at a4_z1)
  go_simp
  refine hK.out _ _ (by first | exact hHeld62.alloc _ | exact (hHeld62.alloc _).drew) (fun hHeld78 => ?_)
  first | replace hS3 := hS3.alloc2e hHeld78 | replace hS3 := hS3.alloc2 hHeld78
  (try replace zl := zl.alloc2 hHeld78)
  (try replace zh := zh.alloc2 hHeld78)
  first | have hS4 := newK2 hHeld78 | have hS4 := newK2d hHeld78
  clear hK K
  try clear hb
  try simp only [Act.put, List.setIfInBounds_toArray, List.set_cons_zero, List.set_cons_succ]
  generalize hGWA53 : World.alloc WA43 (.cells #[.bool false, .slice none 0 0] 81) = WA53 at *
  clear hGWA53
  refine wpAnyH_ready (rs := [6]) (by kernel_rfl) (by simp) ?_
  refine AllReadyH.cons (o := ⟨some 14, _, _, _, _, _⟩) rfl (fun K hK => ?_) AllReadyH.nil
  go_simp
  (first | ((with_reducible refine (IL.out _).mono ?_); rintro e wl ⟨bl, Al, nl, cl, rfl, hb, zl⟩) | ((with_reducible refine (IH.out _).mono ?_); rintro e wh ⟨bh, Ah, nh, ch, rfl, hb, zh⟩) | ((with_reducible refine (AD.out _ _ _ zl zh).mono ?_); rintro e wa ⟨ba, Aa, na, ca, rfl, hb, za⟩) | ((with_reducible refine (I2.out _).mono ?_); rintro e wt ⟨bt, At, nt, ct, rfl, hb, zt⟩) | ((with_reducible refine (DV.out _ _ _ za zt).mono ?_); rintro e wd ⟨bq, Aq, nq, cq, br, Ar, nr, cr, rfl, hb, zq, zr⟩))
  refine hK.out _ _ (hHeld78.next hb) (fun hHeld79 => ?_)
  replace hS3 := hS3.next hb
  replace hS4 := hS4.next hb
  (try replace zl := zl.below hb)
  (try replace zh := zh.below hb)
  clear hK K
  try clear hb
  try simp only [Act.put, List.setIfInBounds_toArray, List.set_cons_zero, List.set_cons_succ]
  refine wpAnyH_ready (rs := [7]) (by kernel_rfl) (by simp) ?_
  refine AllReadyH.cons (o := ⟨some 15, _, _, _, _, _⟩) rfl (fun K hK => ?_) AllReadyH.nil
  go_simp
  (first | ((with_reducible refine (IL.out _).mono ?_); rintro e wl ⟨bl, Al, nl, cl, rfl, hb, zl⟩) | ((with_reducible refine (IH.out _).mono ?_); rintro e wh ⟨bh, Ah, nh, ch, rfl, hb, zh⟩) | ((with_reducible refine (AD.out _ _ _ zl zh).mono ?_); rintro e wa ⟨ba, Aa, na, ca, rfl, hb, za⟩) | ((with_reducible refine (I2.out _).mono ?_); rintro e wt ⟨bt, At, nt, ct, rfl, hb, zt⟩) | ((with_reducible refine (DV.out _ _ _ za zt).mono ?_); rintro e wd ⟨bq, Aq, nq, cq, br, Ar, nr, cr, rfl, hb, zq, zr⟩))
  refine hK.out _ _ (hHeld79.next hb) (fun hHeld80 => ?_)
  replace hS3 := hS3.next hb
  replace hS4 := hS4.next hb
  (try replace za := za.below hb)
  clear hK K
  try clear hb
  try simp only [Act.put, List.setIfInBounds_toArray, List.set_cons_zero, List.set_cons_succ]
  refine wpAnyH_ready (rs := [8]) (by kernel_rfl) (by simp) ?_
  refine AllReadyH.cons (o := ⟨some 16, _, _, _, _, _⟩) rfl (fun K hK => ?_) AllReadyH.nil
  go_simp
  (first | ((with_reducible refine (IL.out _).mono ?_); rintro e wl ⟨bl, Al, nl, cl, rfl, hb, zl⟩) | ((with_reducible refine (IH.out _).mono ?_); rintro e wh ⟨bh, Ah, nh, ch, rfl, hb, zh⟩) | ((with_reducible refine (AD.out _ _ _ zl zh).mono ?_); rintro e wa ⟨ba, Aa, na, ca, rfl, hb, za⟩) | ((with_reducible refine (I2.out _).mono ?_); rintro e wt ⟨bt, At, nt, ct, rfl, hb, zt⟩) | ((with_reducible refine (DV.out _ _ _ za zt).mono ?_); rintro e wd ⟨bq, Aq, nq, cq, br, Ar, nr, cr, rfl, hb, zq, zr⟩))
  refine hK.out _ _ (hHeld80.next hb) (fun hHeld81 => ?_)
  replace hS3 := hS3.next hb
  replace hS4 := hS4.next hb
  (try replace za := za.below hb)
  (try replace zt := zt.below hb)
  clear hK K
  try clear hb
  try simp only [Act.put, List.setIfInBounds_toArray, List.set_cons_zero, List.set_cons_succ]
  refine wpAnyH_take (i := 9) (oi := ⟨some 7, _, _, _, _, _⟩) (v := ?_) rfl (by kernel_rfl) (by kernel_rfl) (by kernel_rfl) (fun _ _ _ h => h) (Or.inl ⟨by rfl, ?_⟩) (by assumption) ?_
  rotate_left
  · intro wq hSw; go_simp; (try with_reducible rfl)
  try simp only [Act.put, List.setIfInBounds_toArray, List.set_cons_zero, List.set_cons_succ]
  refine wpAnyH_take (i := 10) (oi := ⟨some 17, _, _, _, _, _⟩) (v := ?_) rfl (by kernel_rfl) (by kernel_rfl) (by kernel_rfl) (fun _ _ _ h => h) (Or.inl ⟨by rfl, ?_⟩) (by assumption) ?_
  rotate_left
  · intro wq hSw; go_simp; (try with_reducible rfl)
  try simp only [Act.put, List.setIfInBounds_toArray, List.set_cons_zero, List.set_cons_succ]
  refine wpAnyH_take (i := 11) (oi := ⟨some 18, _, _, _, _, _⟩) (v := ?_) rfl (by kernel_rfl) (by kernel_rfl) (by kernel_rfl) (fun _ _ _ h => h) (Or.inl ⟨by rfl, ?_⟩) (by assumption) ?_
  rotate_left
  · intro wq hSw; go_simp; (try with_reducible rfl)
  try simp only [Act.put, List.setIfInBounds_toArray, List.set_cons_zero, List.set_cons_succ]
  refine wpAnyH_ready (rs := [14]) (by kernel_rfl) (by simp) ?_
  refine AllReadyH.cons (o := ⟨none, _, _, _, _, _⟩) rfl (fun K hK => ?_) AllReadyH.nil
  obtain ⟨⟨s3z0, s3c0, s3f0⟩, ⟨s3z1, s3c1, s3f1⟩, _⟩ := hS3.2
  go_simp
  refine hK.out _ _ (by (repeat (first | (with_reducible exact hHeld81) | (refine Keeps.set ?_ (by simp <;> omega) (by simp <;> omega) _)))) (fun hHeld82 => ?_)
  replace hS4 := hS4.mv2 hHeld82 (by first | omega | (simp <;> omega)) (by simp <;> omega)
  (try replace zq := zq.store2 hHeld82 s3c0 s3c1)
  replace hS3 := hHeld82.add2 s3z0 s3c0 s3f0 s3c1 s3f1
  clear s3z0 s3c0 s3f0 s3z1 s3c1 s3f1
  clear hK K
  try clear hb
  try simp only [Act.put, List.setIfInBounds_toArray, List.set_cons_zero, List.set_cons_succ]
  generalize hGWA54 : World.setCell (World.setCell wd ⟨wh.heap.size, 0, none⟩ (.bool bq)) ⟨wh.heap.size, 1, none⟩ (.slice Aq nq cq) = WA54 at *
  clear hGWA54
  refine wpAnyH_ready (rs := [15]) (by kernel_rfl) (by simp) ?_
  refine AllReadyH.cons (o := ⟨none, _, _, _, _, _⟩) rfl (fun K hK => ?_) AllReadyH.nil
  obtain ⟨⟨s4z0, s4c0, s4f0⟩, ⟨s4z1, s4c1, s4f1⟩, _⟩ := hS4.2
  go_simp
  refine hK.out _ _ (by (repeat (first | (with_reducible exact hHeld82) | (refine Keeps.set ?_ (by simp <;> omega) (by simp <;> omega) _)))) (fun hHeld83 => ?_)
  replace hS3 := hS3.mv2 hHeld83 (by first | omega | (simp <;> omega)) (by simp <;> omega)
  (try replace zq := zq.store2 hHeld83 s4c0 s4c1)
  replace hS4 := hHeld83.add2 s4z0 s4c0 s4f0 s4c1 s4f1
  clear s4z0 s4c0 s4f0 s4z1 s4c1 s4f1
  clear hK K
  try clear hb
  try simp only [Act.put, List.setIfInBounds_toArray, List.set_cons_zero, List.set_cons_succ]
  generalize hGWA55 : World.setCell (World.setCell WA54 ⟨WA43.heap.size, 0, none⟩ (.bool br)) ⟨WA43.heap.size, 1, none⟩ (.slice Ar nr cr) = WA55 at *
  clear hGWA55
  refine wpAnyH_done (by kernel_rfl) ?_ _
  have hHeld := hHeld83
  rotate_left 1
  exact AllReadyH.nil
  refine AllReadyH.cons (o := ⟨some 4, _, _, _, _, _⟩) rfl (fun K hK => ?_) ?_
  have lo4 := hHeld2.1.size
  obtain ⟨⟨a4_z0, a4_c0, a4_f0⟩, ⟨a4_z1, a4_c1, a4_f1⟩, _⟩ := hHeld2.2
  (try simp at lo4); (try simp at a4_z0); (try simp at a4_z1)
  go_simp
  refine hK.out _ _ (by first | exact hHeld2.alloc _ | exact (hHeld2.alloc _).drew) (fun hHeld84 => ?_)
  (try replace zl := zl.alloc2 hHeld84)
  (try replace zh := zh.alloc2 hHeld84)
  first | have hS4 := newK2 hHeld84 | have hS4 := newK2d hHeld84
  clear hK K
  try clear hb
  try simp only [Act.put, List.setIfInBounds_toArray, List.set_cons_zero, List.set_cons_succ]
  generalize hGWA56 : World.alloc wh (.cells #[.bool false, .slice none 0 0] 81) = WA56 at *
  clear hGWA56
  refine wpAnyH_ready (rs := [6, 12]) (by kernel_rfl) (by simp) ?_
  refine AllReadyH.cons (o := ⟨some 14, _, _, _, _, _⟩) rfl (fun K hK => ?_) ?_
  go_simp
  (first | ((with_reducible refine (IL.out _).mono ?_); rintro e wl ⟨bl, Al, nl, cl, rfl, hb, zl⟩) | ((with_reducible refine (IH.out _).mono ?_); rintro e wh ⟨bh, Ah, nh, ch, rfl, hb, zh⟩) | ((with_reducible refine (AD.out _ _ _ zl zh).mono ?_); rintro e wa ⟨ba, Aa, na, ca, rfl, hb, za⟩) | ((with_reducible refine (I2.out _).mono ?_); rintro e wt ⟨bt, At, nt, ct, rfl, hb, zt⟩) | ((with_reducible refine (DV.out _ _ _ za zt).mono ?_); rintro e wd ⟨bq, Aq, nq, cq, br, Ar, nr, cr, rfl, hb, zq, zr⟩))
  refine hK.out _ _ (hHeld84.next hb) (fun hHeld85 => ?_)
  replace hS4 := hS4.next hb
  (try replace zl := zl.below hb)
  (try replace zh := zh.below hb)
  clear hK K
  try clear hb
  try simp only [Act.put, List.setIfInBounds_toArray, List.set_cons_zero, List.set_cons_succ]
  refine wpAnyH_ready (rs := [7, 12]) (by kernel_rfl) (by simp) ?_
  refine AllReadyH.cons (o := ⟨some 15, _, _, _, _, _⟩) rfl (fun K hK => ?_) ?_
  go_simp
  (first | ((with_reducible refine (IL.out _).mono ?_); rintro e wl ⟨bl, Al, nl, cl, rfl, hb, zl⟩) | ((with_reducible refine (IH.out _).mono ?_); rintro e wh ⟨bh, Ah, nh, ch, rfl, hb, zh⟩) | ((with_reducible refine (AD.out _ _ _ zl zh).mono ?_); rintro e wa ⟨ba, Aa, na, ca, rfl, hb, za⟩) | ((with_reducible refine (I2.out _).mono ?_); rintro e wt ⟨bt, At, nt, ct, rfl, hb, zt⟩) | ((with_reducible refine (DV.out _ _ _ za zt).mono ?_); rintro e wd ⟨bq, Aq, nq, cq, br, Ar, nr, cr, rfl, hb, zq, zr⟩))
  refine hK.out _ _ (hHeld85.next hb) (fun hHeld86 => ?_)
  replace hS4 := hS4.next hb
  (try replace za := za.below hb)
  clear hK K
  try clear hb
  try simp only [Act.put, List.setIfInBounds_toArray, List.set_cons_zero, List.set_cons_succ]
  refine wpAnyH_ready (rs := [8, 12]) (by kernel_rfl) (by simp) ?_
  refine AllReadyH.cons (o := ⟨some 16, _, _, _, _, _⟩) rfl (fun K hK => ?_) ?_
  go_simp
  (first | ((with_reducible refine (IL.out _).mono ?_); rintro e wl ⟨bl, Al, nl, cl, rfl, hb, zl⟩) | ((with_reducible refine (IH.out _).mono ?_); rintro e wh ⟨bh, Ah, nh, ch, rfl, hb, zh⟩) | ((with_reducible refine (AD.out _ _ _ zl zh).mono ?_); rintro e wa ⟨ba, Aa, na, ca, rfl, hb, za⟩) | ((with_reducible refine (I2.out _).mono ?_); rintro e wt ⟨bt, At, nt, ct, rfl, hb, zt⟩) | ((with_reducible refine (DV.out _ _ _ za zt).mono ?_); rintro e wd ⟨bq, Aq, nq, cq, br, Ar, nr, cr, rfl, hb, zq, zr⟩))
  refine hK.out _ _ (hHeld86.next hb) (fun hHeld87 => ?_)
  replace hS4 := hS4.next hb
  (try replace za := za.below hb)
  (try replace zt := zt.below hb)
  clear hK K
  try clear hb
  try simp only [Act.put, List.setIfInBounds_toArray, List.set_cons_zero, List.set_cons_succ]
  refine wpAnyH_take (i := 9) (oi := ⟨some 7, _, _, _, _, _⟩) (v := ?_) rfl (by kernel_rfl) (by kernel_rfl) (by kernel_rfl) (fun _ _ _ h => h) (Or.inl ⟨by rfl, ?_⟩) (by assumption) ?_
  rotate_left
  · intro wq hSw; go_simp; (try with_reducible rfl)
  try simp only [Act.put, List.setIfInBounds_toArray, List.set_cons_zero, List.set_cons_succ]
  refine wpAnyH_take (i := 10) (oi := ⟨some 17, _, _, _, _, _⟩) (v := ?_) rfl (by kernel_rfl) (by kernel_rfl) (by kernel_rfl) (fun _ _ _ h => h) (Or.inl ⟨by rfl, ?_⟩) (by assumption) ?_
  rotate_left
  · intro wq hSw; go_simp; (try with_reducible rfl)
  try simp only [Act.put, List.setIfInBounds_toArray, List.set_cons_zero, List.set_cons_succ]
  refine wpAnyH_take (i := 11) (oi := ⟨some 18, _, _, _, _, _⟩) (v := ?_) rfl (by kernel_rfl) (by kernel_rfl) (by kernel_rfl) (fun _ _ _ h => h) (Or.inl ⟨by rfl, ?_⟩) (by assumption) ?_
  rotate_left
  · intro wq hSw; go_simp; (try with_reducible rfl)
  try simp only [Act.put, List.setIfInBounds_toArray, List.set_cons_zero, List.set_cons_succ]
  refine wpAnyH_ready (rs := [12]) (by kernel_rfl) (by simp) ?_
  refine AllReadyH.cons (o := ⟨some 3, _, _, _, _, _⟩) rfl (fun K hK => ?_) AllReadyH.nil
  have hne4_3 := hS4.2.1.1
  have lo3 := hHeld87.1.size
  obtain ⟨⟨a3_z0, a3_c0, a3_f0⟩, ⟨a3_z1, a3_c1, a3_f1⟩, _⟩ := hHeld87.2
  (try simp at lo3); (try simp at hne4_3); (try simp at a3_z0); (try simp at a3_z1)
  go_simp
  refine hK.out _ _ (by first | exact hHeld87.alloc _ | exact (hHeld87.alloc _).drew) (fun hHeld88 => ?_)
  first | replace hS4 := hS4.alloc2e hHeld88 | replace hS4 := hS4.alloc2 hHeld88
  (try replace zq := zq.alloc2 hHeld88)
  first | have hS3 := newK2 hHeld88 | have hS3 := newK2d hHeld88
  clear hK K
  try clear hb
  try simp only [Act.put, List.setIfInBounds_toArray, List.set_cons_zero, List.set_cons_succ]
  generalize hGWA57 : World.alloc wd (.cells #[.bool false, .slice none 0 0] 81) = WA57 at *
  clear hGWA57
  refine wpAnyH_ready (rs := [14]) (by kernel_rfl) (by simp) ?_
  refine AllReadyH.cons (o := ⟨none, _, _, _, _, _⟩) rfl (fun K hK => ?_) AllReadyH.nil
  obtain ⟨⟨s3z0, s3c0, s3f0⟩, ⟨s3z1, s3c1, s3f1⟩, _⟩ := hS3.2
  go_simp
  refine hK.out _ _ (by (repeat (first | (with_reducible exact hHeld88) | (refine Keeps.set ?_ (by simp <;> omega) (by simp <;> omega) _)))) (fun hHeld89 => ?_)
  replace hS4 := hS4.mv2 hHeld89 (by first | omega | (simp <;> omega)) (by simp <;> omega)
  (try replace zq := zq.store2 hHeld89 s3c0 s3c1)
  replace hS3 := hHeld89.add2 s3z0 s3c0 s3f0 s3c1 s3f1
  clear s3z0 s3c0 s3f0 s3z1 s3c1 s3f1
  clear hK K
  try clear hb
  try simp only [Act.put, List.setIfInBounds_toArray, List.set_cons_zero, List.set_cons_succ]
  generalize hGWA58 : World.setCell (World.setCell WA57 ⟨wd.heap.size, 0, none⟩ (.bool bq)) ⟨wd.heap.size, 1, none⟩ (.slice Aq nq cq) = WA58 at *
  clear hGWA58
  refine wpAnyH_ready (rs := [15]) (by kernel_rfl) (by simp) ?_
  refine AllReadyH.cons (o := ⟨none, _, _, _, _, _⟩) rfl (fun K hK => ?_) AllReadyH.nil
  obtain ⟨⟨s4z0, s4c0, s4f0⟩, ⟨s4z1, s4c1, s4f1⟩, _⟩ := hS4.2
  go_simp
  refine hK.out _ _ (by (repeat (first | (with_reducible exact hHeld89) | (refine Keeps.set ?_ (by simp <;> omega) (by simp <;> omega) _)))) (fun hHeld90 => ?_)
  replace hS3 := hS3.mv2 hHeld90 (by first | omega | (simp <;> omega)) (by simp <;> omega)
  (try replace zq := zq.store2 hHeld90 s4c0 s4c1)
  replace hS4 := hHeld90.add2 s4z0 s4c0 s4f0 s4c1 s4f1
  clear s4z0 s4c0 s4f0 s4z1 s4c1 s4f1
  clear hK K
  try clear hb
  try simp only [Act.put, List.setIfInBounds_toArray, List.set_cons_zero, List.set_cons_succ]
  generalize hGWA59 : World.setCell (World.setCell WA58 ⟨wh.heap.size, 0, none⟩ (.bool br)) ⟨wh.heap.size, 1, none⟩ (.slice Ar nr cr) = WA59 at *
  clear hGWA59
  refine wpAnyH_done (by kernel_rfl) ?_ _
  have hHeld := hHeld90
  rotate_left 1
  refine AllReadyH.cons (o := ⟨some 3, _, _, _, _, _⟩) rfl (fun K hK => ?_) ?_
  have hne4_3 := hS4.2.1.1
  have lo3 := hHeld86.1.size
  obtain ⟨⟨a3_z0, a3_c0, a3_f0⟩, ⟨a3_z1, a3_c1, a3_f1⟩, _⟩ := hHeld86.2
  (try simp at lo3); (try simp at hne4_3); (try simp at a3_z0); (try simp at a3_z1)
  go_simp
  refine hK.out _ _ (by first | exact hHeld86.alloc _ | exact (hHeld86.alloc _).drew) (fun hHeld91 => ?_)
  first | replace hS4 := hS4.alloc2e hHeld91 | replace hS4 := hS4.alloc2 hHeld91
  (try replace za := za.alloc2 hHeld91)
  (try replace zt := zt.alloc2 hHeld91)
  first | have hS3 := newK2 hHeld91 | have hS3 := newK2d hHeld91
  clear hK K
  try clear hb
  try simp only [Act.put, List.setIfInBounds_toArray, List.set_cons_zero, List.set_cons_succ]
  generalize hGWA60 : World.alloc wt (.cells #[.bool false, .slice none 0 0] 81) = WA60 at *
  clear hGWA60
  refine wpAnyH_ready (rs := [8]) (by kernel_rfl) (by simp) ?_
  refine AllReadyH.cons (o := ⟨some 16, _, _, _, _, _⟩) rfl (fun K hK => ?_) AllReadyH.nil
  go_simp
  (first | ((with_reducible refine (IL.out _).mono ?_); rintro e wl ⟨bl, Al, nl, cl, rfl, hb, zl⟩) | ((with_reducible refine (IH.out _).mono ?_); rintro e wh ⟨bh, Ah, nh, ch, rfl, hb, zh⟩) | ((with_reducible refine (AD.out _ _ _ zl zh).mono ?_); rintro e wa ⟨ba, Aa, na, ca, rfl, hb, za⟩) | ((with_reducible refine (I2.out _).mono ?_); rintro e wt ⟨bt, At, nt, ct, rfl, hb, zt⟩) | ((with_reducible refine (DV.out _ _ _ za zt).mono ?_); rintro e wd ⟨bq, Aq, nq, cq, br, Ar, nr, cr, rfl, hb, zq, zr⟩))
  refine hK.out _ _ (hHeld91.next hb) (fun hHeld92 => ?_)
  replace hS4 := hS4.next hb
  replace hS3 := hS3.next hb
  (try replace za := za.below hb)
  (try replace zt := zt.below hb)
  clear hK K
  try clear hb
  try simp only [Act.put, List.setIfInBounds_toArray, List.set_cons_zero, List.set_cons_succ]
  refine wpAnyH_take (i := 9) (oi := ⟨some 7, _, _, _, _, _⟩) (v := ?_) rfl (by kernel_rfl) (by kernel_rfl) (by kernel_rfl) (fun _ _ _ h => h) (Or.inl ⟨by rfl, ?_⟩) (by assumption) ?_
  rotate_left
  · intro wq hSw; go_simp; (try with_reducible rfl)
  try simp only [Act.put, List.setIfInBounds_toArray, List.set_cons_zero, List.set_cons_succ]
  refine wpAnyH_take (i := 10) (oi := ⟨some 17, _, _, _, _, _⟩) (v := ?_) rfl (by kernel_rfl) (by kernel_rfl) (by kernel_rfl) (fun _ _ _ h => h) (Or.inl ⟨by rfl, ?_⟩) (by assumption) ?_
  rotate_left
  · intro wq hSw; go_simp; (try with_reducible rfl)
  try simp only [Act.put, List.setIfInBounds_toArray, List.set_cons_zero, List.set_cons_succ]
  refine wpAnyH_take (i := 11) (oi := ⟨some 18, _, _, _, _, _⟩) (v := ?_) rfl (by kernel_rfl) (by kernel_rfl) (by kernel_rfl) (fun _ _ _ h => h) (Or.inl ⟨by rfl, ?_⟩) (by assumption) ?_
  rotate_left
  · intro wq hSw; go_simp; (try with_reducible rfl)
  try simp only [Act.put, List.setIfInBounds_toArray, List.set_cons_zero, List.set_cons_succ]
  refine wpAnyH_ready (rs := [14]) (by kernel_rfl) (by simp) ?_
  refine AllReadyH.cons (o := ⟨none, _, _, _, _, _⟩) rfl (fun K hK => ?_) AllReadyH.nil
  obtain ⟨⟨s3z0, s3c0, s3f0⟩, ⟨s3z1, s3c1, s3f1⟩, _⟩ := hS3.2
  go_simp
  refine hK.out _ _ (by (repeat (first | (with_reducible exact hHeld92) | (refine Keeps.set ?_ (by simp <;> omega) (by simp <;> omega) _)))) (fun hHeld93 => ?_)
  replace hS4 := hS4.mv2 hHeld93 (by first | omega | (simp <;> omega)) (by simp <;> omega)
  (try replace zq := zq.store2 hHeld93 s3c0 s3c1)
  replace hS3 := hHeld93.add2 s3z0 s3c0 s3f0 s3c1 s3f1
  clear s3z0 s3c0 s3f0 s3z1 s3c1 s3f1
  clear hK K
  try clear hb
  try simp only [Act.put, List.setIfInBounds_toArray, List.set_cons_zero, List.set_cons_succ]
  generalize hGWA61 : World.setCell (World.setCell wd ⟨wt.heap.size, 0, none⟩ (.bool bq)) ⟨wt.heap.size, 1, none⟩ (.slice Aq nq cq) = WA61 at *
  clear hGWA61
  refine wpAnyH_ready (rs := [15]) (by kernel_rfl) (by simp) ?_
  refine AllReadyH.cons (o := ⟨none, _, _, _, _, _⟩) rfl (fun K hK => ?_) AllReadyH.nil
  obtain ⟨⟨s4z0, s4c0, s4f0⟩, ⟨s4z1, s4c1, s4f1⟩, _⟩ := hS4.2
  go_simp
  refine hK.out _ _ (by (repeat (first | (with_reducible exact hHeld93) | (refine Keeps.set ?_ (by simp <;> omega) (by simp <;> omega) _)))) (fun hHeld94 => ?_)
  replace hS3 := hS3.mv2 hHeld94 (by first | omega | (simp <;> omega)) (by simp <;> omega)
  (try replace zq := zq.store2 hHeld94 s4c0 s4c1)
  replace hS4 := hHeld94.add2 s4z0 s4c0 s4f0 s4c1 s4f1
  clear s4z0 s4c0 s4f0 s4z1 s4c1 s4f1
  clear hK K
  try clear hb
  try simp only [Act.put, List.setIfInBounds_toArray, List.set_cons_zero, List.set_cons_succ]
  generalize hGWA62 : World.setCell (World.setCell WA61 ⟨wh.heap.size, 0, none⟩ (.bool br)) ⟨wh.heap.size, 1, none⟩ (.slice Ar nr cr) = WA62 at *
  clear hGWA62
  refine wpAnyH_done (by kernel_rfl) ?_ _
  have hHeld := hHeld94
  rotate_left 1
  exact AllReadyH.nil
  refine AllReadyH.cons (o := ⟨some 3, _, _, _, _, _⟩) rfl (fun K hK => ?_) ?_
  have hne4_3 := hS4.2.1.1
  have lo3 := hHeld85.1.size
  obtain ⟨⟨a3_z0, a3_c0, a3_f0⟩, ⟨a3_z1, a3_c1, a3_f1⟩, _⟩ := hHeld85.2
  (try simp at lo3); (try simp at hne4_3); (try simp at a3_z0); (try simp at a3_z1)
  go_simp
  refine hK.out _ _ (by first | exact hHeld85.alloc _ | exact (hHeld85.alloc _).drew) (fun hHeld95 => ?_)
  first | replace hS4 := hS4.alloc2e hHeld95 | replace hS4 := hS4.alloc2 hHeld95
  (try replace za := za.alloc2 hHeld95)
  first | have hS3 := newK2 hHeld95 | have hS3 := newK2d hHeld95
  clear hK K
  try clear hb
  try simp only [Act.put, List.setIfInBounds_toArray, List.set_cons_zero, List.set_cons_succ]
  generalize hGWA63 : World.alloc wa (.cells #[.bool false, .slice none 0 0] 81) = WA63 at *
  clear hGWA63
  refine wpAnyH_ready (rs := [7]) (by kernel_rfl) (by simp) ?_
  refine AllReadyH.cons (o := ⟨some 15, _, _, _, _, _⟩) rfl (fun K hK => ?_) AllReadyH.nil
  go_simp
  (first | ((with_reducible refine (IL.out _).mono ?_); rintro e wl ⟨bl, Al, nl, cl, rfl, hb, zl⟩) | ((with_reducible refine (IH.out _).mono ?_); rintro e wh ⟨bh, Ah, nh, ch, rfl, hb, zh⟩) | ((with_reducible refine (AD.out _ _ _ zl zh).mono ?_); rintro e wa ⟨ba, Aa, na, ca, rfl, hb, za⟩) | ((with_reducible refine (I2.out _).mono ?_); rintro e wt ⟨bt, At, nt, ct, rfl, hb, zt⟩) | ((with_reducible refine (DV.out _ _ _ za zt).mono ?_); rintro e wd ⟨bq, Aq, nq, cq, br, Ar, nr, cr, rfl, hb, zq, zr⟩))
  refine hK.out _ _ (hHeld95.next hb) (fun hHeld96 => ?_)
  replace hS4 := hS4.next hb
  replace hS3 := hS3.next hb
  (try replace za := za.below hb)
  clear hK K
  try clear hb
  try simp only [Act.put, List.setIfInBounds_toArray, List.set_cons_zero, List.set_cons_succ]
  refine wpAnyH_ready (rs := [8]) (by kernel_rfl) (by simp) ?_
  refine AllReadyH.cons (o := ⟨some 16, _, _, _, _, _⟩) rfl (fun K hK => ?_) AllReadyH.nil
  go_simp
  (first | ((with_reducible refine (IL.out _).mono ?_); rintro e wl ⟨bl, Al, nl, cl, rfl, hb, zl⟩) | ((with_reducible refine (IH.out _).mono ?_); rintro e wh ⟨bh, Ah, nh, ch, rfl, hb, zh⟩) | ((with_reducible refine (AD.out _ _ _ zl zh).mono ?_); rintro e wa ⟨ba, Aa, na, ca, rfl, hb, za⟩) | ((with_reducible refine (I2.out _).mono ?_); rintro e wt ⟨bt, At, nt, ct, rfl, hb, zt⟩) | ((with_reducible refine (DV.out _ _ _ za zt).mono ?_); rintro e wd ⟨bq, Aq, nq, cq, br, Ar, nr, cr, rfl, hb, zq, zr⟩))
  refine hK.out _ _ (hHeld96.next hb) (fun hHeld97 => ?_)
  replace hS4 := hS4.next hb
  replace hS3 := hS3.next hb
  (try replace za := za.below hb)
  (try replace zt := zt.below hb)
  clear hK K
  try clear hb
  try simp only [Act.put, List.setIfInBounds_toArray, List.set_cons_zero, List.set_cons_succ]
  refine wpAnyH_take (i := 9) (oi := ⟨some 7, _, _, _, _, _⟩) (v := ?_) rfl (by kernel_rfl) (by kernel_rfl) (by kernel_rfl) (fun _ _ _ h => h) (Or.inl ⟨by rfl, ?_⟩) (by assumption) ?_
  rotate_left
  · intro wq hSw; go_simp; (try with_reducible rfl)
  try simp only [Act.put, List.setIfInBounds_toArray, List.set_cons_zero, List.set_cons_succ]
  refine wpAnyH_take (i := 10) (oi := ⟨some 17, _, _, _, _, _⟩) (v := ?_) rfl (by kernel_rfl) (by kernel_rfl) (by kernel_rfl) (fun _ _ _ h => h) (Or.inl ⟨by rfl, ?_⟩) (by assumption) ?_
  rotate_left
  · intro wq hSw; go_simp; (try with_reducible rfl)
  try simp only [Act.put, List.setIfInBounds_toArray, List.set_cons_zero, List.set_cons_succ]
  refine wpAnyH_take (i := 11) (oi := ⟨some 18, _, _, _, _, _⟩) (v := ?_) rfl (by kernel_rfl) (by kernel_rfl) (by kernel_rfl) (fun _ _ _ h => h) (Or.inl ⟨by rfl, ?_⟩) (by assumption) ?_
  rotate_left
  · intro wq hSw; go_simp; (try with_reducible rfl)
  try simp only [Act.put, List.setIfInBounds_toArray, List.set_cons_zero, List.set_cons_succ]
  refine wpAnyH_ready (rs := [14]) (by kernel_rfl) (by simp) ?_
  refine AllReadyH.cons (o := ⟨none, _, _, _, _, _⟩) rfl (fun K hK => ?_) AllReadyH.nil
  obtain ⟨⟨s3z0, s3c0, s3f0⟩, ⟨s3z1, s3c1, s3f1⟩, _⟩ := hS3.2
  go_simp
  refine hK.out _ _ (by (repeat (first | (with_reducible exact hHeld97) | (refine Keeps.set ?_ (by simp <;> omega) (by simp <;> omega) _)))) (fun hHeld98 => ?_)
  replace hS4 := hS4.mv2 hHeld98 (by first | omega | (simp <;> omega)) (by simp <;> omega)
  (try replace zq := zq.store2 hHeld98 s3c0 s3c1)
  replace hS3 := hHeld98.add2 s3z0 s3c0 s3f0 s3c1 s3f1
  clear s3z0 s3c0 s3f0 s3z1 s3c1 s3f1
  clear hK K
  try clear hb
  try simp only [Act.put, List.setIfInBounds_toArray, List.set_cons_zero, List.set_cons_succ]
  generalize hGWA64 : World.setCell (World.setCell wd ⟨wa.heap.size, 0, none⟩ (.bool bq)) ⟨wa.heap.size, 1, none⟩ (.slice Aq nq cq) = WA64 at *
  clear hGWA64
  refine wpAnyH_ready (rs := [15]) (by kernel_rfl) (by simp) ?_
  refine AllReadyH.cons (o := ⟨none, _, _, _, _, _⟩) rfl (fun K hK => ?_) AllReadyH.nil
  obtain ⟨⟨s4z0, s4c0, s4f0⟩, ⟨s4z1, s4c1, s4f1⟩, _⟩ := hS4.2
  go_simp
  refine hK.out _ _ (by (repeat (first | (with_reducible exact hHeld98) | (refine Keeps.set ?_ (by simp <;> omega) (by simp <;> omega) _)))) (fun hHeld99 => ?_)
  replace hS3 := hS3.mv2 hHeld99 (by first | omega | (simp <;> omega)) (by simp <;> omega)
  (try replace zq := zq.store2 hHeld99 s4c0 s4c1)
  replace hS4 := hHeld99.add2 s4z0 s4c0 s4f0 s4c1 s4f1
  clear s4z0 s4c0 s4f0 s4z1 s4c1 s4f1
  clear hK K
  try clear hb
  try simp only [Act.put, List.setIfInBounds_toArray, List.set_cons_zero, List.set_cons_succ]
  generalize hGWA65 : World.setCell (World.setCell WA64 ⟨wh.heap.size, 0, none⟩ (.bool br)) ⟨wh.heap.size, 1, none⟩ (.slice Ar nr cr) = WA65 at *
  clear hGWA65
  refine wpAnyH_done (by kernel_rfl) ?_ _
  have hHeld := hHeld99
  rotate_left 1
  exact AllReadyH.nil
  refine AllReadyH.cons (o := ⟨some 3, _, _, _, _, _⟩) rfl (fun K hK => ?_) ?_
  have hne4_3 := hS4.2.1.1
  have lo3 := hHeld84.1.size
  obtain ⟨⟨a3_z0, a3_c0, a3_f0⟩, ⟨a3_z1, a3_c1, a3_f1⟩, _⟩ := hHeld84.2
  (try simp at lo3); (try simp at hne4_3); (try simp at a3_z0); (try simp at a3_z1)
  go_simp
  refine hK.out _ _ (by first | exact hHeld84.alloc _ | exact (hHeld84.alloc _).drew) (fun hHeld100 => ?_)
  first | replace hS4 := hS4.alloc2e hHeld100 | replace hS4 := hS4.alloc2 hHeld100
  (try replace zl := zl.alloc2 hHeld100)
  (try replace zh := zh.alloc2 hHeld100)
  first | have hS3 := newK2 hHeld100 | have hS3 := newK2d hHeld100
  clear hK K
  try clear hb
  try simp only [Act.put, List.setIfInBounds_toArray, List.set_cons_zero, List.set_cons_succ]
  generalize hGWA66 : World.alloc WA56 (.cells #[.bool false, .slice none 0 0] 81) = WA66 at *
  clear hGWA66
  refine wpAnyH_ready (rs := [6]) (by kernel_rfl) (by simp) ?_
  refine AllReadyH.cons (o := ⟨some 14, _, _, _, _, _⟩) rfl (fun K hK => ?_) AllReadyH.nil
  go_simp
  (first | ((with_reducible refine (IL.out _).mono ?_); rintro e wl ⟨bl, Al, nl, cl, rfl, hb, zl⟩) | ((with_reducible refine (IH.out _).mono ?_); rintro e wh ⟨bh, Ah, nh, ch, rfl, hb, zh⟩) | ((with_reducible refine (AD.out _ _ _ zl zh).mono ?_); rintro e wa ⟨ba, Aa, na, ca, rfl, hb, za⟩) | ((with_reducible refine (I2.out _).mono ?_); rintro e wt ⟨bt, At, nt, ct, rfl, hb, zt⟩) | ((with_reducible refine (DV.out _ _ _ za zt).mono ?_); rintro e wd ⟨bq, Aq, nq, cq, br, Ar, nr, cr, rfl, hb, zq, zr⟩))
  refine hK.out _ _ (hHeld100.next hb) (fun hHeld101 => ?_)
  replace hS4 := hS4.next hb
  replace hS3 := hS3.next hb
  (try replace zl := zl.below hb)
  (try replace zh := zh.below hb)
  clear hK K
  try clear hb
  try simp only [Act.put, List.setIfInBounds_toArray, List.set_cons_zero, List.set_cons_succ]
  refine wpAnyH_ready (rs := [7]) (by kernel_rfl) (by simp) ?_
  refine AllReadyH.cons (o := ⟨some 15, _, _, _, _, _⟩) rfl (fun K hK => ?_) AllReadyH.nil
  go_simp
  (first | ((with_reducible refine (IL.out _).mono ?_); rintro e wl ⟨bl, Al, nl, cl, rfl, hb, zl⟩) | ((with_reducible refine (IH.out _).mono ?_); rintro e wh ⟨bh, Ah, nh, ch, rfl, hb, zh⟩) | ((with_reducible refine (AD.out _ _ _ zl zh).mono ?_); rintro e wa ⟨ba, Aa, na, ca, rfl, hb, za⟩) | ((with_reducible refine (I2.out _).mono ?_); rintro e wt ⟨bt, At, nt, ct, rfl, hb, zt⟩) | ((with_reducible refine (DV.out _ _ _ za zt).mono ?_); rintro e wd ⟨bq, Aq, nq, cq, br, Ar, nr, cr, rfl, hb, zq, zr⟩))
  refine hK.out _ _ (hHeld101.next hb) (fun hHeld102 => ?_)
  replace hS4 := hS4.next hb
  replace hS3 := hS3.next hb
  (try replace za := za.below hb)
  clear hK K
  try clear hb
  try simp only [Act.put, List.setIfInBounds_toArray, List.set_cons_zero, List.set_cons_succ]
  refine wpAnyH_ready (rs := [8]) (by kernel_rfl) (by simp) ?_
  refine AllReadyH.cons (o := ⟨some 16, _, _, _, _, _⟩) rfl (fun K hK => ?_) AllReadyH.nil
  go_simp
  (first | ((with_reducible refine (IL.out _).mono ?_); rintro e wl ⟨bl, Al, nl, cl, rfl, hb, zl⟩) | ((with_reducible refine (IH.out _).mono ?_); rintro e wh ⟨bh, Ah, nh, ch, rfl, hb, zh⟩) | ((with_reducible refine (AD.out _ _ _ zl zh).mono ?_); rintro e wa ⟨ba, Aa, na, ca, rfl, hb, za⟩) | ((with_reducible refine (I2.out _).mono ?_); rintro e wt ⟨bt, At, nt, ct, rfl, hb, zt⟩) | ((with_reducible refine (DV.out _ _ _ za zt).mono ?_); rintro e wd ⟨bq, Aq, nq, cq, br, Ar, nr, cr, rfl, hb, zq, zr⟩))
  refine hK.out _ _ (hHeld102.next hb) (fun hHeld103 => ?_)
  replace hS4 := hS4.next hb
  replace hS3 := hS3.next hb
  (try replace za := za.below hb)
  (try replace zt := zt.below hb)
  clear hK K
  try clear hb
  try simp only [Act.put, List.setIfInBounds_toArray, List.set_cons_zero, List.set_cons_succ]
  refine wpAnyH_take (i := 9) (oi := ⟨some 7, _, _, _, _, _⟩) (v := ?_) rfl (by kernel_rfl) (by kernel_rfl) (by kernel_rfl) (fun _ _ _ h => h) (Or.inl ⟨by rfl, ?_⟩) (by assumption) ?_
  rotate_left
  · intro wq hSw; go_simp; (try with_reducible rfl)
  try simp only [Act.put, List.setIfInBounds_toArray, List.set_cons_zero, List.set_cons_succ]
  refine wpAnyH_take (i := 10) (oi := ⟨some 17, _, _, _, _, _⟩) (v := ?_) rfl (by kernel_rfl) (by kernel_rfl) (by kernel_rfl) (fun _ _ _ h => h) (Or.inl ⟨by rfl, ?_⟩) (by assumption) ?_
  rotate_left
  · intro wq hSw; go_simp; (try with_reducible rfl)
  try simp only [Act.put, List.setIfInBounds_toArray, List.set_cons_zero, List.set_cons_succ]
  refine wpAnyH_take (i := 11) (oi := ⟨some 18, _, _, _, _, _⟩) (v := ?_) rfl (by kernel_rfl) (by kernel_rfl) (by kernel_rfl) (fun _ _ _ h => h) (Or.inl ⟨by rfl, ?_⟩) (by assumption) ?_
  rotate_left
  · intro wq hSw; go_simp; (try with_reducible rfl)
  try simp only [Act.put, List.setIfInBounds_toArray, List.set_cons_zero, List.set_cons_succ]
  refine wpAnyH_ready (rs := [14]) (by kernel_rfl) (by simp) ?_
  refine AllReadyH.cons (o := ⟨none, _, _, _, _, _⟩) rfl (fun K hK => ?_) AllReadyH.nil
  obtain ⟨⟨s3z0, s3c0, s3f0⟩, ⟨s3z1, s3c1, s3f1⟩, _⟩ := hS3.2
  go_simp
  refine hK.out _ _ (by (repeat (first | (with_reducible exact hHeld103) | (refine Keeps.set ?_ (by simp <;> omega) (by simp <;> omega) _)))) (fun hHeld104 => ?_)
  replace hS4 := hS4.mv2 hHeld104 (by first | omega | (simp <;> omega)) (by simp <;> omega)
  (try replace zq := zq.store2 hHeld104 s3c0 s3c1)
  replace hS3 := hHeld104.add2 s3z0 s3c0 s3f0 s3c1 s3f1
  clear s3z0 s3c0 s3f0 s3z1 s3c1 s3f1
  clear hK K
  try clear hb
  try simp only [Act.put, List.setIfInBounds_toArray, List.set_cons_zero, List.set_cons_succ]
  generalize hGWA67 : World.setCell (World.setCell wd ⟨WA56.heap.size, 0, none⟩ (.bool bq)) ⟨WA56.heap.size, 1, none⟩ (.slice Aq nq cq) = WA67 at *
  clear hGWA67
  refine wpAnyH_ready (rs := [15]) (by kernel_rfl) (by simp) ?_
  refine AllReadyH.cons (o := ⟨none, _, _, _, _, _⟩) rfl (fun K hK => ?_) AllReadyH.nil
  obtain ⟨⟨s4z0, s4c0, s4f0⟩, ⟨s4z1, s4c1, s4f1⟩, _⟩ := hS4.2
  go_simp
  refine hK.out _ _ (by (repeat (first | (with_reducible exact hHeld104) | (refine Keeps.set ?_ (by simp <;> omega) (by simp <;> omega) _)))) (fun hHeld105 => ?_)
  replace hS3 := hS3.mv2 hHeld105 (by first | omega | (simp <;> omega)) (by simp <;> omega)
  (try replace zq := zq.store2 hHeld105 s4c0 s4c1)
  replace hS4 := hHeld105.add2 s4z0 s4c0 s4f0 s4c1 s4f1
  clear s4z0 s4c0 s4f0 s4z1 s4c1 s4f1
  clear hK K
  try clear hb
  try simp only [Act.put, List.setIfInBounds_toArray, List.set_cons_zero, List.set_cons_succ]
  generalize hGWA68 : World.setCell (World.setCell WA67 ⟨wh.heap.size, 0, none⟩ (.bool br)) ⟨wh.heap.size, 1, none⟩ (.slice Ar nr cr) = WA68 at *
  clear hGWA68
  refine wpAnyH_done (by kernel_rfl) ?_ _
  have hHeld := hHeld105
  rotate_left 1
  exact AllReadyH.nil
  exact AllReadyH.nil
  refine AllReadyH.cons (o := ⟨some 3, _, _, _, _, _⟩) rfl (fun K hK => ?_) ?_
  have lo3 := hHeld1.1.size
  obtain ⟨⟨a3_z0, a3_c0, a3_f0⟩, ⟨a3_z1, a3_c1, a3_f1⟩, _⟩ := hHeld1.2
  (try simp at lo3); (try simp at a3_z0); (try simp at a3_z1)
  go_simp
  refine hK.out _ _ (by first | exact hHeld1.alloc _ | exact (hHeld1.alloc _).drew) (fun hHeld106 => ?_)
  (try replace zl := zl.alloc2 hHeld106)
  first | have hS3 := newK2 hHeld106 | have hS3 := newK2d hHeld106
  clear hK K
  try clear hb
  try simp only [Act.put, List.setIfInBounds_toArray, List.set_cons_zero, List.set_cons_succ]
  generalize hGWA69 : World.alloc wl (.cells #[.bool false, .slice none 0 0] 81) = WA69 at *
  clear hGWA69
  refine wpAnyH_ready (rs := [5, 13]) (by kernel_rfl) (by simp) ?_
  refine AllReadyH.cons (o := ⟨some 13, _, _, _, _, _⟩) rfl (fun K hK => ?_) ?_
  go_simp
  (first | ((with_reducible refine (IL.out _).mono ?_); rintro e wl ⟨bl, Al, nl, cl, rfl, hb, zl⟩) | ((with_reducible refine (IH.out _).mono ?_); rintro e wh ⟨bh, Ah, nh, ch, rfl, hb, zh⟩) | ((with_reducible refine (AD.out _ _ _ zl zh).mono ?_); rintro e wa ⟨ba, Aa, na, ca, rfl, hb, za⟩) | ((with_reducible refine (I2.out _).mono ?_); rintro e wt ⟨bt, At, nt, ct, rfl, hb, zt⟩) | ((with_reducible refine (DV.out _ _ _ za zt).mono ?_); rintro e wd ⟨bq, Aq, nq, cq, br, Ar, nr, cr, rfl, hb, zq, zr⟩))
  refine hK.out _ _ (hHeld106.next hb) (fun hHeld107 => ?_)
  replace hS3 := hS3.next hb
  (try replace zl := zl.below hb)
  clear hK K
  try clear hb
  try simp only [Act.put, List.setIfInBounds_toArray, List.set_cons_zero, List.set_cons_succ]
  refine wpAnyH_ready (rs := [6, 13]) (by kernel_rfl) (by simp) ?_
  refine AllReadyH.cons (o := ⟨some 14, _, _, _, _, _⟩) rfl (fun K hK => ?_) ?_
  go_simp
  (first | ((with_reducible refine (IL.out _).mono ?_); rintro e wl ⟨bl, Al, nl, cl, rfl, hb, zl⟩) | ((with_reducible refine (IH.out _).mono ?_); rintro e wh ⟨bh, Ah, nh, ch, rfl, hb, zh⟩) | ((with_reducible refine (AD.out _ _ _ zl zh).mono ?_); rintro e wa ⟨ba, Aa, na, ca, rfl, hb, za⟩) | ((with_reducible refine (I2.out _).mono ?_); rintro e wt ⟨bt, At, nt, ct, rfl, hb, zt⟩) | ((with_reducible refine (DV.out _ _ _ za zt).mono ?_); rintro e wd ⟨bq, Aq, nq, cq, br, Ar, nr, cr, rfl, hb, zq, zr⟩))
  refine hK.out _ _ (hHeld107.next hb) (fun hHeld108 => ?_)
  replace hS3 := hS3.next hb
  (try replace zl := zl.below hb)
  (try replace zh := zh.below hb)
  clear hK K
  try clear hb
  try simp only [Act.put, List.setIfInBounds_toArray, List.set_cons_zero, List.set_cons_succ]
  refine wpAnyH_ready (rs := [7, 13]) (by kernel_rfl) (by simp) ?_
  refine AllReadyH.cons (o := ⟨some 15, _, _, _, _, _⟩) rfl (fun K hK => ?_) ?_
  go_simp
  (first | ((with_reducible refine (IL.out _).mono ?_); rintro e wl ⟨bl, Al, nl, cl, rfl, hb, zl⟩) | ((with_reducible refine (IH.out _).mono ?_); rintro e wh ⟨bh, Ah, nh, ch, rfl, hb, zh⟩) | ((with_reducible refine (AD.out _ _ _ zl zh).mono ?_); rintro e wa ⟨ba, Aa, na, ca, rfl, hb, za⟩) | ((with_reducible refine (I2.out _).mono ?_); rintro e wt ⟨bt, At, nt, ct, rfl, hb, zt⟩) | ((with_reducible refine (DV.out _ _ _ za zt).mono ?_); rintro e wd ⟨bq, Aq, nq, cq, br, Ar, nr, cr, rfl, hb, zq, zr⟩))
  refine hK.out _ _ (hHeld108.next hb) (fun hHeld109 => ?_)
  replace hS3 := hS3.next hb
  (try replace za := za.below hb)
  clear hK K
  try clear hb
  try simp only [Act.put, List.setIfInBounds_toArray, List.set_cons_zero, List.set_cons_succ]
  refine wpAnyH_ready (rs := [8, 13]) (by kernel_rfl) (by simp) ?_
  refine AllReadyH.cons (o := ⟨some 16, _, _, _, _, _⟩) rfl (fun K hK => ?_) ?_
  go_simp
  (first | ((with_reducible refine (IL.out _).mono ?_); rintro e wl ⟨bl, Al, nl, cl, rfl, hb, zl⟩) | ((with_reducible refine (IH.out _).mono ?_); rintro e wh ⟨bh, Ah, nh, ch, rfl, hb, zh⟩) | ((with_reducible refine (AD.out _ _ _ zl zh).mono ?_); rintro e wa ⟨ba, Aa, na, ca, rfl, hb, za⟩) | ((with_reducible refine (I2.out _).mono ?_); rintro e wt ⟨bt, At, nt, ct, rfl, hb, zt⟩) | ((with_reducible refine (DV.out _ _ _ za zt).mono ?_); rintro e wd ⟨bq, Aq, nq, cq, br, Ar, nr, cr, rfl, hb, zq, zr⟩))
  refine hK.out _ _ (hHeld109.next hb) (fun hHeld110 => ?_)
  replace hS3 := hS3.next hb
  (try replace za := za.below hb)
  (try replace zt := zt.below hb)
  clear hK K
  try clear hb
  try simp only [Act.put, List.setIfInBounds_toArray, List.set_cons_zero, List.set_cons_succ]
  refine wpAnyH_take (i := 9) (oi := ⟨some 7, _, _, _, _, _⟩) (v := ?_) rfl (by kernel_rfl) (by kernel_rfl) (by kernel_rfl) (fun _ _ _ h => h) (Or.inl ⟨by rfl, ?_⟩) (by assumption) ?_
  rotate_left
  · intro wq hSw; go_simp; (try with_reducible rfl)
  try simp only [Act.put, List.setIfInBounds_toArray, List.set_cons_zero, List.set_cons_succ]
  refine wpAnyH_take (i := 10) (oi := ⟨some 17, _, _, _, _, _⟩) (v := ?_) rfl (by kernel_rfl) (by kernel_rfl) (by kernel_rfl) (fun _ _ _ h => h) (Or.inl ⟨by rfl, ?_⟩) (by assumption) ?_
  rotate_left
  · intro wq hSw; go_simp; (try with_reducible rfl)
  try simp only [Act.put, List.setIfInBounds_toArray, List.set_cons_zero, List.set_cons_succ]
  refine wpAnyH_take (i := 11) (oi := ⟨some 18, _, _, _, _, _⟩) (v := ?_) rfl (by kernel_rfl) (by kernel_rfl) (by kernel_rfl) (fun _ _ _ h => h) (Or.inl ⟨by rfl, ?_⟩) (by assumption) ?_
  rotate_left
  · intro wq hSw; go_simp; (try with_reducible rfl)
  try simp only [Act.put, List.setIfInBounds_toArray, List.set_cons_zero, List.set_cons_succ]
  refine wpAnyH_ready (rs := [13]) (by kernel_rfl) (by simp) ?_
  refine AllReadyH.cons (o := ⟨some 4, _, _, _, _, _⟩) rfl (fun K hK => ?_) AllReadyH.nil
  have hne3_4 := hS3.2.1.1
  have lo4 := hHeld110.1.size
  obtain ⟨⟨a4_z0, a4_c0, a4_f0⟩, ⟨a4_z1, a4_c1, a4_f1⟩, _⟩ := hHeld110.2
  (try simp at lo4); (try simp at hne3_4); (try simp at a4_z0); (try simp at a4_z1)
  go_simp
  refine hK.out _ _ (by first | exact hHeld110.alloc _ | exact (hHeld110.alloc _).drew) (fun hHeld111 => ?_)
  first | replace hS3 := hS3.alloc2e hHeld111 | replace hS3 := hS3.alloc2 hHeld111
  (try replace zq := zq.alloc2 hHeld111)
  first | have hS4 := newK2 hHeld111 | have hS4 := newK2d hHeld111
  clear hK K
  try clear hb
  try simp only [Act.put, List.setIfInBounds_toArray, List.set_cons_zero, List.set_cons_succ]
  generalize hGWA70 : World.alloc wd (.cells #[.bool false, .slice none 0 0] 81) = WA70 at *
  clear hGWA70
  refine wpAnyH_ready (rs := [14]) (by kernel_rfl) (by simp) ?_
  refine AllReadyH.cons (o := ⟨none, _, _, _, _, _⟩) rfl (fun K hK => ?_) AllReadyH.nil
  obtain ⟨⟨s3z0, s3c0, s3f0⟩, ⟨s3z1, s3c1, s3f1⟩, _⟩ := hS3.2
  go_simp
  refine hK.out _ _ (by (repeat (first | (with_reducible exact hHeld111) | (refine Keeps.set ?_ (by simp <;> omega) (by simp <;> omega) _)))) (fun hHeld112 => ?_)
  replace hS4 := hS4.mv2 hHeld112 (by first | omega | (simp <;> omega)) (by simp <;> omega)
  (try replace zq := zq.store2 hHeld112 s3c0 s3c1)
  replace hS3 := hHeld112.add2 s3z0 s3c0 s3f0 s3c1 s3f1
  clear s3z0 s3c0 s3f0 s3z1 s3c1 s3f1
  clear hK K
  try clear hb
  try simp only [Act.put, List.setIfInBounds_toArray, List.set_cons_zero, List.set_cons_succ]
  generalize hGWA71 : World.setCell (World.setCell WA70 ⟨wl.heap.size, 0, none⟩ (.bool bq)) ⟨wl.heap.size, 1, none⟩ (.slice Aq nq cq) = WA71 at *
  clear hGWA71
  refine wpAnyH_ready (rs := [15]) (by kernel_rfl) (by simp) ?_
  refine AllReadyH.cons (o := ⟨none, _, _, _, _, _⟩) rfl (fun K hK => ?_) AllReadyH.nil
  obtain ⟨⟨s4z0, s4c0, s4f0⟩, ⟨s4z1, s4c1, s4f1⟩, _⟩ := hS4.2
  go_simp
  refine hK.out _ _ (by (repeat (first | (with_reducible exact hHeld112) | (refine Keeps.set ?_ (by simp <;> omega) (by simp <;> omega) _)))) (fun hHeld113 => ?_)
  replace hS3 := hS3.mv2 hHeld113 (by first | omega | (simp <;> omega)) (by simp <;> omega)
  (try replace zq := zq.store2 hHeld113 s4c0 s4c1)
  replace hS4 := hHeld113.add2 s4z0 s4c0 s4f0 s4c1 s4f1
  clear s4z0 s4c0 s4f0 s4z1 s4c1 s4f1
  clear hK K
  try clear hb
  try simp only [Act.put, List.setIfInBounds_toArray, List.set_cons_zero, List.set_cons_succ]
  generalize hGWA72 : World.setCell (World.setCell WA71 ⟨wd.heap.size, 0, none⟩ (.bool br)) ⟨wd.heap.size, 1, none⟩ (.slice Ar nr cr) = WA72 at *
  clear hGWA72
  refine wpAnyH_done (by kernel_rfl) ?_ _
  have hHeld := hHeld113
  rotate_left 1
  refine AllReadyH.cons (o := ⟨some 4, _, _, _, _, _⟩) rfl (fun K hK => ?_) ?_
  have hne3_4 := hS3.2.1.1
  have lo4 := hHeld109.1.size
  obtain ⟨⟨a4_z0, a4_c0, a4_f0⟩, ⟨a4_z1, a4_c1, a4_f1⟩, _⟩ := hHeld109.2
  (try simp at lo4); (try simp at hne3_4); (try simp at a4_z0); (try simp at a4_z1)
  go_simp
  refine hK.out _ _ (by first | exact hHeld109.alloc _ | exact (hHeld109.alloc _).drew) (fun hHeld114 => ?_)
  first | replace hS3 := hS3.alloc2e hHeld114 | replace hS3 := hS3.alloc2 hHeld114
  (try replace za := za.alloc2 hHeld114)
  (try replace zt := zt.alloc2 hHeld114)
  first | have hS4 := newK2 hHeld114 | have hS4 := newK2d hHeld114
  clear hK K
  try clear hb
  try simp only [Act.put, List.setIfInBounds_toArray, List.set_cons_zero, List.set_cons_succ]
  generalize hGWA73 : World.alloc wt (.cells #[.bool false, .slice none 0 0] 81) = WA73 at *
  clear hGWA73
  refine wpAnyH_ready (rs := [8]) (by kernel_rfl) (by simp) ?_
  refine AllReadyH.cons (o := ⟨some 16, _, _, _, _, _⟩) rfl (fun K hK => ?_) AllReadyH.nil
  go_simp
  (first | ((with_reducible refine (IL.out _).mono ?_); rintro e wl ⟨bl, Al, nl, cl, rfl, hb, zl⟩) | ((with_reducible refine (IH.out _).mono ?_); rintro e wh ⟨bh, Ah, nh, ch, rfl, hb, zh⟩) | ((with_reducible refine (AD.out _ _ _ zl zh).mono ?_); rintro e wa ⟨ba, Aa, na, ca, rfl, hb, za⟩) | ((with_reducible refine (I2.out _).mono ?_); rintro e wt ⟨bt, At, nt, ct, rfl, hb, zt⟩) | ((with_reducible refine (DV.out _ _ _ za zt).mono ?_); rintro e wd ⟨bq, Aq, nq, cq, br, Ar, nr, cr, rfl, hb, zq, zr⟩))
  refine hK.out _ _ (hHeld114.next hb) (fun hHeld115 => ?_)
  replace hS3 := hS3.next hb
  replace hS4 := hS4.next hb
  (try replace za := za.below hb)
  (try replace zt := zt.below hb)
  clear hK K
  try clear hb
  try simp only [Act.put, List.setIfInBounds_toArray, List.set_cons_zero, List.set_cons_succ]
  refine wpAnyH_take (i := 9) (oi := ⟨some 7, _, _, _, _, _⟩) (v := ?_) rfl (by kernel_rfl) (by kernel_rfl) (by kernel_rfl) (fun _ _ _ h => h) (Or.inl ⟨by rfl, ?_⟩) (by assumption) ?_
  rotate_left
  · intro wq hSw; go_simp; (try with_reducible rfl)
  try simp only [Act.put, List.setIfInBounds_toArray, List.set_cons_zero, List.set_cons_succ]
  refine wpAnyH_take (i := 10) (oi := ⟨some 17, _, _, _, _, _⟩) (v := ?_) rfl (by kernel_rfl) (by kernel_rfl) (by kernel_rfl) (fun _ _ _ h => h) (Or.inl ⟨by rfl, ?_⟩) (by assumption) ?_
  rotate_left
  · intro wq hSw; go_simp; (try with_reducible rfl)
  try simp only [Act.put, List.setIfInBounds_toArray, List.set_cons_zero, List.set_cons_succ]
  refine wpAnyH_take (i := 11) (oi := ⟨some 18, _, _, _, _, _⟩) (v := ?_) rfl (by kernel_rfl) (by kernel_rfl) (by kernel_rfl) (fun _ _ _ h => h) (Or.inl ⟨by rfl, ?_⟩) (by assumption) ?_
  rotate_left
  · intro wq hSw; go_simp; (try with_reducible rfl)
  try simp only [Act.put, List.setIfInBounds_toArray, List.set_cons_zero, List.set_cons_succ]
  refine wpAnyH_ready (rs := [14]) (by kernel_rfl) (by simp) ?_
  refine AllReadyH.cons (o := ⟨none, _, _, _, _, _⟩) rfl (fun K hK => ?_) AllReadyH.nil
  obtain ⟨⟨s3z0, s3c0, s3f0⟩, ⟨s3z1, s3c1, s3f1⟩, _⟩ := hS3.2
  go_simp
  refine hK.out _ _ (by (repeat (first | (with_reducible exact hHeld115) | (refine Keeps.set ?_ (by simp <;> omega) (by simp <;> omega) _)))) (fun hHeld116 => ?_)
  replace hS4 := hS4.mv2 hHeld116 (by first | omega | (simp <;> omega)) (by simp <;> omega)
  (try replace zq := zq.store2 hHeld116 s3c0 s3c1)
  replace hS3 := hHeld116.add2 s3z0 s3c0 s3f0 s3c1 s3f1
  clear s3z0 s3c0 s3f0 s3z1 s3c1 s3f1
  clear hK K
  try clear hb
  try simp only [Act.put, List.setIfInBounds_toArray, List.set_cons_zero, List.set_cons_succ]
  generalize hGWA74 : World.setCell (World.setCell wd ⟨wl.heap.size, 0, none⟩ (.bool bq)) ⟨wl.heap.size, 1, none⟩ (.slice Aq nq cq) = WA74 at *
  clear hGWA74
  refine wpAnyH_ready (rs := [15]) (by kernel_rfl) (by simp) ?_
  refine AllReadyH.cons (o := ⟨none, _, _, _, _, _⟩) rfl (fun K hK => ?_) AllReadyH.nil
  obtain ⟨⟨s4z0, s4c0, s4f0⟩, ⟨s4z1, s4c1, s4f1⟩, _⟩ := hS4.2
  go_simp
  refine hK.out _ _ (by (repeat (first | (with_reducible exact hHeld116) | (refine Keeps.set ?_ (by simp <;> omega) (by simp <;> omega) _)))) (fun hHeld117 => ?_)
  replace hS3 := hS3.mv2 hHeld117 (by first | omega | (simp <;> omega)) (by simp <;> omega)
  (try replace zq := zq.store2 hHeld117 s4c0 s4c1)
  replace hS4 := hHeld117.add2 s4z0 s4c0 s4f0 s4c1 s4f1
  clear s4z0 s4c0 s4f0 s4z1 s4c1 s4f1
  clear hK K
  try clear hb
  try simp only [Act.put, List.setIfInBounds_toArray, List.set_cons_zero, List.set_cons_succ]
  generalize hGWA75 : World.setCell (World.setCell WA74 ⟨wt.heap.size, 0, none⟩ (.bool br)) ⟨wt.heap.size, 1, none⟩ (.slice Ar nr cr) = WA75 at *
  clear hGWA75
  refine wpAnyH_done (by kernel_rfl) ?_ _
  have hHeld := hHeld117
  rotate_left 1
  exact AllReadyH.nil
  refine AllReadyH.cons (o := ⟨some 4, _, _, _, _, _⟩) rfl (fun K hK => ?_) ?_
  have hne3_4 := hS3.2.1.1
  have lo4 := hHeld108.1.size
  obtain ⟨⟨a4_z0, a4_c0, a4_f0⟩, ⟨a4_z1, a4_c1, a4_f1⟩, _⟩ := hHeld108.2
  (try simp at lo4); (try simp at hne3_4); (try simp at a4_z0); (try simp at a4_z1)
  go_simp
  refine hK.out _ _ (by first | exact hHeld108.alloc _ | exact (hHeld108.alloc _).drew) (fun hHeld118 => ?_)
  first | replace hS3 := hS3.alloc2e hHeld118 | replace hS3 := hS3.alloc2 hHeld118
  (try replace za := za.alloc2 hHeld118)
  first | have hS4 := newK2 hHeld118 | have hS4 := newK2d hHeld118
  clear hK K
  try clear hb
  try simp only [Act.put, List.setIfInBounds_toArray, List.set_cons_zero, List.set_cons_succ]
  generalize hGWA76 : World.alloc wa (.cells #[.bool false, .slice none 0 0] 81) = WA76 at *
  clear hGWA76
  refine wpAnyH_ready (rs := [7]) (by kernel_rfl) (by simp) ?_
  refine AllReadyH.cons (o := ⟨some 15, _, _, _, _, _⟩) rfl (fun K hK => ?_) AllReadyH.nil
  go_simp
  (first | ((with_reducible refine (IL.out _).mono ?_); rintro e wl ⟨bl, Al, nl, cl, rfl, hb, zl⟩) | ((with_reducible refine (IH.out _).mono ?_); rintro e wh ⟨bh, Ah, nh, ch, rfl, hb, zh⟩) | ((with_reducible refine (AD.out _ _ _ zl zh).mono ?_); rintro e wa ⟨ba, Aa, na, ca, rfl, hb, za⟩) | ((with_reducible refine (I2.out _).mono ?_); rintro e wt ⟨bt, At, nt, ct, rfl, hb, zt⟩) | ((with_reducible refine (DV.out _ _ _ za zt).mono ?_); rintro e wd ⟨bq, Aq, nq, cq, br, Ar, nr, cr, rfl, hb, zq, zr⟩))
  refine hK.out _ _ (hHeld118.next hb) (fun hHeld119 => ?_)
  replace hS3 := hS3.next hb
  replace hS4 := hS4.next hb
  (try replace za := za.below hb)
  clear hK K
  try clear hb
  try simp only [Act.put, List.setIfInBounds_toArray, List.set_cons_zero, List.set_cons_succ]
  refine wpAnyH_ready (rs := [8]) (by kernel_rfl) (by simp) ?_
  refine AllReadyH.cons (o := ⟨some 16, _, _, _, _, _⟩) rfl (fun K hK => ?_) AllReadyH.nil
  go_simp
  (first | ((with_reducible refine (IL.out _).mono ?_); rintro e wl ⟨bl, Al, nl, cl, rfl, hb, zl⟩) | ((with_reducible refine (IH.out _).mono ?_); rintro e wh ⟨bh, Ah, nh, ch, rfl, hb, zh⟩) | ((with_reducible refine (AD.out _ _ _ zl zh).mono ?_); rintro e wa ⟨ba, Aa, na, ca, rfl, hb, za⟩) | ((with_reducible refine (I2.out _).mono ?_); rintro e wt ⟨bt, At, nt, ct, rfl, hb, zt⟩) | ((with_reducible refine (DV.out _ _ _ za zt).mono ?_); rintro e wd ⟨bq, Aq, nq, cq, br, Ar, nr, cr, rfl, hb, zq, zr⟩))
  refine hK.out _ _ (hHeld119.next hb) (fun hHeld120 => ?_)
  replace hS3 := hS3.next hb
  replace hS4 := hS4.next hb
  (try replace za := za.below hb)
  (try replace zt := zt.below hb)
  clear hK K
  try clear hb
  try simp only [Act.put, List.setIfInBounds_toArray, List.set_cons_zero, List.set_cons_succ]
  refine wpAnyH_take (i := 9) (oi := ⟨some 7, _, _, _, _, _⟩) (v := ?_) rfl (by kernel_rfl) (by kernel_rfl) (by kernel_rfl) (fun _ _ _ h => h) (Or.inl ⟨by rfl, ?_⟩) (by assumption) ?_
  rotate_left
  · intro wq hSw; go_simp; (try with_reducible rfl)
  try simp only [Act.put, List.setIfInBounds_toArray, List.set_cons_zero, List.set_cons_succ]
  refine wpAnyH_take (i := 10) (oi := ⟨some 17, _, _, _, _, _⟩) (v := ?_) rfl (by kernel_rfl) (by kernel_rfl) (by kernel_rfl) (fun _ _ _ h => h) (Or.inl ⟨by rfl, ?_⟩) (by assumption) ?_
  rotate_left
  · intro wq hSw; go_simp; (try with_reducible rfl)
  try simp only [Act.put, List.setIfInBounds_toArray, List.set_cons_zero, List.set_cons_succ]
  refine wpAnyH_take (i := 11) (oi := ⟨some 18, _, _, _, _, _⟩) (v := ?_) rfl (by kernel_rfl) (by kernel_rfl) (by kernel_rfl) (fun _ _ _ h => h) (Or.inl ⟨by rfl, ?_⟩) (by assumption) ?_
  rotate_left
  · intro wq hSw; go_simp; (try with_reducible rfl)
  try simp only [Act.put, List.setIfInBounds_toArray, List.set_cons_zero, List.set_cons_succ]
  refine wpAnyH_ready (rs := [14]) (by kernel_rfl) (by simp) ?_
  refine AllReadyH.cons (o := ⟨none, _, _, _, _, _⟩) rfl (fun K hK => ?_) AllReadyH.nil
  obtain ⟨⟨s3z0, s3c0, s3f0⟩, ⟨s3z1, s3c1, s3f1⟩, _⟩ := hS3.2
  go_simp
  refine hK.out _ _ (by (repeat (first | (with_reducible exact hHeld120) | (refine Keeps.set ?_ (by simp <;> omega) (by simp <;> omega) _)))) (fun hHeld121 => ?_)
  replace hS4 := hS4.mv2 hHeld121 (by first | omega | (simp <;> omega)) (by simp <;> omega)
  (try replace zq := zq.store2 hHeld121 s3c0 s3c1)
  replace hS3 := hHeld121.add2 s3z0 s3c0 s3f0 s3c1 s3f1
  clear s3z0 s3c0 s3f0 s3z1 s3c1 s3f1
  clear hK K
  try clear hb
  try simp only [Act.put, List.setIfInBounds_toArray, List.set_cons_zero, List.set_cons_succ]
  generalize hGWA77 : World.setCell (World.setCell wd ⟨wl.heap.size, 0, none⟩ (.bool bq)) ⟨wl.heap.size, 1, none⟩ (.slice Aq nq cq) = WA77 at *
  clear hGWA77
  refine wpAnyH_ready (rs := [15]) (by kernel_rfl) (by simp) ?_
  refine AllReadyH.cons (o := ⟨none, _, _, _, _, _⟩) rfl (fun K hK => ?_) AllReadyH.nil
  obtain ⟨⟨s4z0, s4c0, s4f0⟩, ⟨s4z1, s4c1, s4f1⟩, _⟩ := hS4.2
  go_simp
  refine hK.out _ _ (by (repeat (first | (with_reducible exact hHeld121) | (refine Keeps.set ?_ (by simp <;> omega) (by simp <;> omega) _)))) (fun hHeld122 => ?_)
  replace hS3 := hS3.mv2 hHeld122 (by first | omega | (simp <;> omega)) (by simp <;> omega)
  (try replace zq := zq.store2 hHeld122 s4c0 s4c1)
  replace hS4 := hHeld122.add2 s4z0 s4c0 s4f0 s4c1 s4f1
  clear s4z0 s4c0 s4f0 s4z1 s4c1 s4f1
  clear hK K
  try clear hb
  try simp only [Act.put, List.setIfInBounds_toArray, List.set_cons_zero, List.set_cons_succ]
  generalize hGWA78 : World.setCell (World.setCell WA77 ⟨wa.heap.size, 0, none⟩ (.bool br)) ⟨wa.heap.size, 1, none⟩ (.slice Ar nr cr) = WA78 at *
  clear hGWA78
  refine wpAnyH_done (by kernel_rfl) ?_ _
  have hHeld := hHeld122
  rotate_left 1
  exact AllReadyH.nil
  refine AllReadyH.cons (o := ⟨some 4, _, _, _, _, _⟩) rfl (fun K hK => ?_) ?_
  have hne3_4 := hS3.2.1.1
  have lo4 := hHeld107.1.size
  obtain ⟨⟨a4_z0, a4_c0, a4_f0⟩, ⟨a4_z1, a4_c1, a4_f1⟩, _⟩ := hHeld107.2
  (try simp at lo4); (try simp at hne3_4); (try simp at a4_z0); (try simp at a4_z1)
  go_simp
  refine hK.out _ _ (by first | exact hHeld107.alloc _ | exact (hHeld107.alloc _).drew) (fun hHeld123 => ?_)
  first | replace hS3 := hS3.alloc2e hHeld123 | replace hS3 := hS3.alloc2 hHeld123
  (try replace zl := zl.alloc2 hHeld123)
  (try replace zh := zh.alloc2 hHeld123)
  first | have hS4 := newK2 hHeld123 | have hS4 := newK2d hHeld123
  clear hK K
  try clear hb
  try simp only [Act.put, List.setIfInBounds_toArray, List.set_cons_zero, List.set_cons_succ]
  generalize hGWA79 : World.alloc wh (.cells #[.bool false, .slice none 0 0] 81) = WA79 at *
  clear hGWA79
  refine wpAnyH_ready (rs := [6]) (by kernel_rfl) (by simp) ?_
  refine AllReadyH.cons (o := ⟨some 14, _, _, _, _, _⟩) rfl (fun K hK => ?_) AllReadyH.nil
  go_simp
  (first | ((with_reducible refine (IL.out _).mono ?_); rintro e wl ⟨bl, Al, nl, cl, rfl, hb, zl⟩) | ((with_reducible refine (IH.out _).mono ?_); rintro e wh ⟨bh, Ah, nh, ch, rfl, hb, zh⟩) | ((with_reducible refine (AD.out _ _ _ zl zh).mono ?_); rintro e wa ⟨ba, Aa, na, ca, rfl, hb, za⟩) | ((with_reducible refine (I2.out _).mono ?_); rintro e wt ⟨bt, At, nt, ct, rfl, hb, zt⟩) | ((with_reducible refine (DV.out _ _ _ za zt).mono ?_); rintro e wd ⟨bq, Aq, nq, cq, br, Ar, nr, cr, rfl, hb, zq, zr⟩))
  refine hK.out _ _ (hHeld123.next hb) (fun hHeld124 => ?_)
  replace hS3 := hS3.next hb
  replace hS4 := hS4.next hb
  (try replace zl := zl.below hb)
  (try replace zh := zh.below hb)
  clear hK K
  try clear hb
  try simp only [Act.put, List.setIfInBounds_toArray, List.set_cons_zero, List.set_cons_succ]
  refine wpAnyH_ready (rs := [7]) (by kernel_rfl) (by simp) ?_
  refine AllReadyH.cons (o := ⟨some 15, _, _, _, _, _⟩) rfl (fun K hK => ?_) AllReadyH.nil
  go_simp
  (first | ((with_reducible refine (IL.out _).mono ?_); rintro e wl ⟨bl, Al, nl, cl, rfl, hb, zl⟩) | ((with_reducible refine (IH.out _).mono ?_); rintro e wh ⟨bh, Ah, nh, ch, rfl, hb, zh⟩) | ((with_reducible refine (AD.out _ _ _ zl zh).mono ?_); rintro e wa ⟨ba, Aa, na, ca, rfl, hb, za⟩) | ((with_reducible refine (I2.out _).mono ?_); rintro e wt ⟨bt, At, nt, ct, rfl, hb, zt⟩) | ((with_reducible refine (DV.out _ _ _ za zt).mono ?_); rintro e wd ⟨bq, Aq, nq, cq, br, Ar, nr, cr, rfl, hb, zq, zr⟩))
  refine hK.out _ _ (hHeld124.next hb) (fun hHeld125 => ?_)
  replace hS3 := hS3.next hb
  replace hS4 := hS4.next hb
  (try replace za := za.below hb)
  clear hK K
  try clear hb
  try simp only [Act.put, List.setIfInBounds_toArray, List.set_cons_zero, List.set_cons_succ]
  refine wpAnyH_ready (rs := [8]) (by kernel_rfl) (by simp) ?_
  refine AllReadyH.cons (o := ⟨some 16, _, _, _, _, _⟩) rfl (fun K hK => ?_) AllReadyH.nil
  go_simp
  (first | ((with_reducible refine (IL.out _).mono ?_); rintro e wl ⟨bl, Al, nl, cl, rfl, hb, zl⟩) | ((with_reducible refine (IH.out _).mono ?_); rintro e wh ⟨bh, Ah, nh, ch, rfl, hb, zh⟩) | ((with_reducible refine (AD.out _ _ _ zl zh).mono ?_); rintro e wa ⟨ba, Aa, na, ca, rfl, hb, za⟩) | ((with_reducible refine (I2.out _).mono ?_); rintro e wt ⟨bt, At, nt, ct, rfl, hb, zt⟩) | ((with_reducible refine (DV.out _ _ _ za zt).mono ?_); rintro e wd ⟨bq, Aq, nq, cq, br, Ar, nr, cr, rfl, hb, zq, zr⟩))
  refine hK.out _ _ (hHeld125.next hb) (fun hHeld126 => ?_)
  replace hS3 := hS3.next hb
  replace hS4 := hS4.next hb
  (try replace za := za.below hb)
  (try replace zt := zt.below hb)
  clear hK K
  try clear hb
  try simp only [Act.put, List.setIfInBounds_toArray, List.set_cons_zero, List.set_cons_succ]
  refine wpAnyH_take (i := 9) (oi := ⟨some 7, _, _, _, _, _⟩) (v := ?_) rfl (by kernel_rfl) (by kernel_rfl) (by kernel_rfl) (fun _ _ _ h => h) (Or.inl ⟨by rfl, ?_⟩) (by assumption) ?_
  rotate_left
  · intro wq hSw; go_simp; (try with_reducible rfl)
  try simp only [Act.put, List.setIfInBounds_toArray, List.set_cons_zero, List.set_cons_succ]
  refine wpAnyH_take (i := 10) (oi := ⟨some 17, _, _, _, _, _⟩) (v := ?_) rfl (by kernel_rfl) (by kernel_rfl) (by kernel_rfl) (fun _ _ _ h => h) (Or.inl ⟨by rfl, ?_⟩) (by assumption) ?_
  rotate_left
  · intro wq hSw; go_simp; (try with_reducible rfl)
  try simp only [Act.put, List.setIfInBounds_toArray, List.set_cons_zero, List.set_cons_succ]
  refine wpAnyH_take (i := 11) (oi := ⟨some 18, _, _, _, _, _⟩) (v := ?_) rfl (by kernel_rfl) (by kernel_rfl) (by kernel_rfl) (fun _ _ _ h => h) (Or.inl ⟨by rfl, ?_⟩) (by assumption) ?_
  rotate_left
  · intro wq hSw; go_simp; (try with_reducible rfl)
  try simp only [Act.put, List.setIfInBounds_toArray, List.set_cons_zero, List.set_cons_succ]
  refine wpAnyH_ready (rs := [14]) (by kernel_rfl) (by simp) ?_
  refine AllReadyH.cons (o := ⟨none, _, _, _, _, _⟩) rfl (fun K hK => ?_) AllReadyH.nil
  obtain ⟨⟨s3z0, s3c0, s3f0⟩, ⟨s3z1, s3c1, s3f1⟩, _⟩ := hS3.2
  go_simp
  refine hK.out _ _ (by (repeat (first | (with_reducible exact hHeld126) | (refine Keeps.set ?_ (by simp <;> omega) (by simp <;> omega) _)))) (fun hHeld127 => ?_)
  replace hS4 := hS4.mv2 hHeld127 (by first | omega | (simp <;> omega)) (by simp <;> omega)
  (try replace zq := zq.store2 hHeld127 s3c0 s3c1)
  replace hS3 := hHeld127.add2 s3z0 s3c0 s3f0 s3c1 s3f1
  clear s3z0 s3c0 s3f0 s3z1 s3c1 s3f1
  clear hK K
  try clear hb
  try simp only [Act.put, List.setIfInBounds_toArray, List.set_cons_zero, List.set_cons_succ]
  generalize hGWA80 : World.setCell (World.setCell wd ⟨wl.heap.size, 0, none⟩ (.bool bq)) ⟨wl.heap.size, 1, none⟩ (.slice Aq nq cq) = WA80 at *
  clear hGWA80
  refine wpAnyH_ready (rs := [15]) (by kernel_rfl) (by simp) ?_
  refine AllReadyH.cons (o := ⟨none, _, _, _, _, _⟩) rfl (fun K hK => ?_) AllReadyH.nil
  obtain ⟨⟨s4z0, s4c0, s4f0⟩, ⟨s4z1, s4c1, s4f1⟩, _⟩ := hS4.2
  go_simp
  refine hK.out _ _ (by (repeat (first | (with_reducible exact hHeld127) | (refine Keeps.set ?_ (by simp <;> omega) (by simp <;> omega) _)))) (fun hHeld128 => ?_)
  replace hS3 := hS3.mv2 hHeld128 (by first | omega | (simp <;> omega)) (by simp <;> omega)
  (try replace zq := zq.store2 hHeld128 s4c0 s4c1)
  replace hS4 := hHeld128.add2 s4z0 s4c0 s4f0 s4c1 s4f1
  clear s4z0 s4c0 s4f0 s4z1 s4c1 s4f1
  clear hK K
  try clear hb
  try simp only [Act.put, List.setIfInBounds_toArray, List.set_cons_zero, List.set_cons_succ]
  generalize hGWA81 : World.setCell (World.setCell WA80 ⟨wh.heap.size, 0, none⟩ (.bool br)) ⟨wh.heap.size, 1, none⟩ (.slice Ar nr cr) = WA81 at *
  clear hGWA81
  refine wpAnyH_done (by kernel_rfl) ?_ _
  have hHeld := hHeld128
  rotate_left 1
  exact AllReadyH.nil
  refine AllReadyH.cons (o := ⟨some 4, _, _, _, _, _⟩) rfl (fun K hK => ?_) ?_
  have hne3_4 := hS3.2.1.1
  have lo4 := hHeld106.1.size
  obtain ⟨⟨a4_z0, a4_c0, a4_f0⟩, ⟨a4_z1, a4_c1, a4_f1⟩, _⟩ := hHeld106.2
  (try simp at lo4); (try simp at hne3_4); (try simp at a4_z0); (try simp at a4_z1)
  go_simp
  refine hK.out _ _ (by first | exact hHeld106.alloc _ | exact (hHeld106.alloc _).drew) (fun hHeld129 => ?_)
  first | replace hS3 := hS3.alloc2e hHeld129 | replace hS3 := hS3.alloc2 hHeld129
  (try replace zl := zl.alloc2 hHeld129)
  first | have hS4 := newK2 hHeld129 | have hS4 := newK2d hHeld129
  clear hK K
  try clear hb
  try simp only [Act.put, List.setIfInBounds_toArray, List.set_cons_zero, List.set_cons_succ]
  generalize hGWA82 : World.alloc WA69 (.cells #[.bool false, .slice none 0 0] 81) = WA82 at *
  clear hGWA82
  refine wpAnyH_ready (rs := [5]) (by kernel_rfl) (by simp) ?_
  refine AllReadyH.cons (o := ⟨some 13, _, _, _, _, _⟩) rfl (fun K hK => ?_) AllReadyH.nil
  go_simp
  (first | ((with_reducible refine (IL.out _).mono ?_); rintro e wl ⟨bl, Al, nl, cl, rfl, hb, zl⟩) | ((with_reducible refine (IH.out _).mono ?_); rintro e wh ⟨bh, Ah, nh, ch, rfl, hb, zh⟩) | ((with_reducible refine (AD.out _ _ _ zl zh).mono ?_); rintro e wa ⟨ba, Aa, na, ca, rfl, hb, za⟩) | ((with_reducible refine (I2.out _).mono ?_); rintro e wt ⟨bt, At, nt, ct, rfl, hb, zt⟩) | ((with_reducible refine (DV.out _ _ _ za zt).mono ?_); rintro e wd ⟨bq, Aq, nq, cq, br, Ar, nr, cr, rfl, hb, zq, zr⟩))
  refine hK.out _ _ (hHeld129.next hb) (fun hHeld130 => ?_)
  replace hS3 := hS3.next hb
  replace hS4 := hS4.next hb
  (try replace zl := zl.below hb)
  clear hK K
  try clear hb
  try simp only [Act.put, List.setIfInBounds_toArray, List.set_cons_zero, List.set_cons_succ]
  refine wpAnyH_ready (rs := [6]) (by kernel_rfl) (by simp) ?_
  refine AllReadyH.cons (o := ⟨some 14, _, _, _, _, _⟩) rfl (fun K hK => ?_) AllReadyH.nil
  go_simp
  (first | ((with_reducible refine (IL.out _).mono ?_); rintro e wl ⟨bl, Al, nl, cl, rfl, hb, zl⟩) | ((with_reducible refine (IH.out _).mono ?_); rintro e wh ⟨bh, Ah, nh, ch, rfl, hb, zh⟩) | ((with_reducible refine (AD.out _ _ _ zl zh).mono ?_); rintro e wa ⟨ba, Aa, na, ca, rfl, hb, za⟩) | ((with_reducible refine (I2.out _).mono ?_); rintro e wt ⟨bt, At, nt, ct, rfl, hb, zt⟩) | ((with_reducible refine (DV.out _ _ _ za zt).mono ?_); rintro e wd ⟨bq, Aq, nq, cq, br, Ar, nr, cr, rfl, hb, zq, zr⟩))
  refine hK.out _ _ (hHeld130.next hb) (fun hHeld131 => ?_)
  replace hS3 := hS3.next hb
  replace hS4 := hS4.next hb
  (try replace zl := zl.below hb)
  (try replace zh := zh.below hb)
  clear hK K
  try clear hb
  try simp only [Act.put, List.setIfInBounds_toArray, List.set_cons_zero, List.set_cons_succ]
  refine wpAnyH_ready (rs := [7]) (by kernel_rfl) (by simp) ?_
  refine AllReadyH.cons (o := ⟨some 15, _, _, _, _, _⟩) rfl (fun K hK => ?_) AllReadyH.nil
  go_simp
  (first | ((with_reducible refine (IL.out _).mono ?_); rintro e wl ⟨bl, Al, nl, cl, rfl, hb, zl⟩) | ((with_reducible refine (IH.out _).mono ?_); rintro e wh ⟨bh, Ah, nh, ch, rfl, hb, zh⟩) | ((with_reducible refine (AD.out _ _ _ zl zh).mono ?_); rintro e wa ⟨ba, Aa, na, ca, rfl, hb, za⟩) | ((with_reducible refine (I2.out _).mono ?_); rintro e wt ⟨bt, At, nt, ct, rfl, hb, zt⟩) | ((with_reducible refine (DV.out _ _ _ za zt).mono ?_); rintro e wd ⟨bq, Aq, nq, cq, br, Ar, nr, cr, rfl, hb, zq, zr⟩))
  refine hK.out _ _ (hHeld131.next hb) (fun hHeld132 => ?_)
  replace hS3 := hS3.next hb
  replace hS4 := hS4.next hb
  (try replace za := za.below hb)
  clear hK K
  try clear hb
  try simp only [Act.put, List.setIfInBounds_toArray, List.set_cons_zero, List.set_cons_succ]
  refine wpAnyH_ready (rs := [8]) (by kernel_rfl) (by simp) ?_
  refine AllReadyH.cons (o := ⟨some 16, _, _, _, _, _⟩) rfl (fun K hK => ?_) AllReadyH.nil
  go_simp
  (first | ((with_reducible refine (IL.out _).mono ?_); rintro e wl ⟨bl, Al, nl, cl, rfl, hb, zl⟩) | ((with_reducible refine (IH.out _).mono ?_); rintro e wh ⟨bh, Ah, nh, ch, rfl, hb, zh⟩) | ((with_reducible refine (AD.out _ _ _ zl zh).mono ?_); rintro e wa ⟨ba, Aa, na, ca, rfl, hb, za⟩) | ((with_reducible refine (I2.out _).mono ?_); rintro e wt ⟨bt, At, nt, ct, rfl, hb, zt⟩) | ((with_reducible refine (DV.out _ _ _ za zt).mono ?_); rintro e wd ⟨bq, Aq, nq, cq, br, Ar, nr, cr, rfl, hb, zq, zr⟩))
  refine hK.out _ _ (hHeld132.next hb) (fun hHeld133 => ?_)
  replace hS3 := hS3.next hb
  replace hS4 := hS4.next hb
  (try replace za := za.below hb)
  (try replace zt := zt.below hb)
  clear hK K
  try clear hb
  try simp only [Act.put, List.setIfInBounds_toArray, List.set_cons_zero, List.set_cons_succ]
  refine wpAnyH_take (i := 9) (oi := ⟨some 7, _, _, _, _, _⟩) (v := ?_) rfl (by kernel_rfl) (by kernel_rfl) (by kernel_rfl) (fun _ _ _ h => h) (Or.inl ⟨by rfl, ?_⟩) (by assumption) ?_
  rotate_left
  · intro wq hSw; go_simp; (try with_reducible rfl)
  try simp only [Act.put, List.setIfInBounds_toArray, List.set_cons_zero, List.set_cons_succ]
  refine wpAnyH_take (i := 10) (oi := ⟨some 17, _, _, _, _, _⟩) (v := ?_) rfl (by kernel_rfl) (by kernel_rfl) (by kernel_rfl) (fun _ _ _ h => h) (Or.inl ⟨by rfl, ?_⟩) (by assumption) ?_
  rotate_left
  · intro wq hSw; go_simp; (try with_reducible rfl)
  try simp only [Act.put, List.setIfInBounds_toArray, List.set_cons_zero, List.set_cons_succ]
  refine wpAnyH_take (i := 11) (oi := ⟨some 18, _, _, _, _, _⟩) (v := ?_) rfl (by kernel_rfl) (by kernel_rfl) (by kernel_rfl) (fun _ _ _ h => h) (Or.inl ⟨by rfl, ?_⟩) (by assumption) ?_
  rotate_left
  · intro wq hSw; go_simp; (try with_reducible rfl)
  try simp only [Act.put, List.setIfInBounds_toArray, List.set_cons_zero, List.set_cons_succ]
  refine wpAnyH_ready (rs := [14]) (by kernel_rfl) (by simp) ?_
  refine AllReadyH.cons (o := ⟨none, _, _, _, _, _⟩) rfl (fun K hK => ?_) AllReadyH.nil
  obtain ⟨⟨s3z0, s3c0, s3f0⟩, ⟨s3z1, s3c1, s3f1⟩, _⟩ := hS3.2
  go_simp
  refine hK.out _ _ (by (repeat (first | (with_reducible exact hHeld133) | (refine Keeps.set ?_ (by simp <;> omega) (by simp <;> omega) _)))) (fun hHeld134 => ?_)
  replace hS4 := hS4.mv2 hHeld134 (by first | omega | (simp <;> omega)) (by simp <;> omega)
  (try replace zq := zq.store2 hHeld134 s3c0 s3c1)
  replace hS3 := hHeld134.add2 s3z0 s3c0 s3f0 s3c1 s3f1
  clear s3z0 s3c0 s3f0 s3z1 s3c1 s3f1
  clear hK K
  try clear hb
  try simp only [Act.put, List.setIfInBounds_toArray, List.set_cons_zero, List.set_cons_succ]
  generalize hGWA83 : World.setCell (World.setCell wd ⟨wl.heap.size, 0, none⟩ (.bool bq)) ⟨wl.heap.size, 1, none⟩ (.slice Aq nq cq) = WA83 at *
  clear hGWA83
  refine wpAnyH_ready (rs := [15]) (by kernel_rfl) (by simp) ?_
  refine AllReadyH.cons (o := ⟨none, _, _, _, _, _⟩) rfl (fun K hK => ?_) AllReadyH.nil
  obtain ⟨⟨s4z0, s4c0, s4f0⟩, ⟨s4z1, s4c1, s4f1⟩, _⟩ := hS4.2
  go_simp
  refine hK.out _ _ (by (repeat (first | (with_reducible exact hHeld134) | (refine Keeps.set ?_ (by simp <;> omega) (by simp <;> omega) _)))) (fun hHeld135 => ?_)
  replace hS3 := hS3.mv2 hHeld135 (by first | omega | (simp <;> omega)) (by simp <;> omega)
  (try replace zq := zq.store2 hHeld135 s4c0 s4c1)
  replace hS4 := hHeld135.add2 s4z0 s4c0 s4f0 s4c1 s4f1
  clear s4z0 s4c0 s4f0 s4z1 s4c1 s4f1
  clear hK K
  try clear hb
  try simp only [Act.put, List.setIfInBounds_toArray, List.set_cons_zero, List.set_cons_succ]
  generalize hGWA84 : World.setCell (World.setCell WA83 ⟨WA69.heap.size, 0, none⟩ (.bool br)) ⟨WA69.heap.size, 1, none⟩ (.slice Ar nr cr) = WA84 at *
  clear hGWA84
  refine wpAnyH_done (by kernel_rfl) ?_ _
  have hHeld := hHeld135
  rotate_left 1
  exact AllReadyH.nil
  refine AllReadyH.cons (o := ⟨some 4, _, _, _, _, _⟩) rfl (fun K hK => ?_) ?_
  have lo4 := hHeld1.1.size
  obtain ⟨⟨a4_z0, a4_c0, a4_f0⟩, ⟨a4_z1, a4_c1, a4_f1⟩, _⟩ := hHeld1.2
  (try simp at lo4); (try simp at a4_z0); (try simp at a4_z1)
  go_simp
  refine hK.out _ _ (by first | exact hHeld1.alloc _ | exact (hHeld1.alloc _).drew) (fun hHeld136 => ?_)
  (try replace zl := zl.alloc2 hHeld136)
  first | have hS4 := newK2 hHeld136 | have hS4 := newK2d hHeld136
  clear hK K
  try clear hb
  try simp only [Act.put, List.setIfInBounds_toArray, List.set_cons_zero, List.set_cons_succ]
  generalize hGWA85 : World.alloc wl (.cells #[.bool false, .slice none 0 0] 81) = WA85 at *
  clear hGWA85
  refine wpAnyH_ready (rs := [5, 12]) (by kernel_rfl) (by simp) ?_
  refine AllReadyH.cons (o := ⟨some 13, _, _, _, _, _⟩) rfl (fun K hK => ?_) ?_
  go_simp
  (first | ((with_reducible refine (IL.out _).mono ?_); rintro e wl ⟨bl, Al, nl, cl, rfl, hb, zl⟩) | ((with_reducible refine (IH.out _).mono ?_); rintro e wh ⟨bh, Ah, nh, ch, rfl, hb, zh⟩) | ((with_reducible refine (AD.out _ _ _ zl zh).mono ?_); rintro e wa ⟨ba, Aa, na, ca, rfl, hb, za⟩) | ((with_reducible refine (I2.out _).mono ?_); rintro e wt ⟨bt, At, nt, ct, rfl, hb, zt⟩) | ((with_reducible refine (DV.out _ _ _ za zt).mono ?_); rintro e wd ⟨bq, Aq, nq, cq, br, Ar, nr, cr, rfl, hb, zq, zr⟩))
  refine hK.out _ _ (hHeld136.next hb) (fun hHeld137 => ?_)
  replace hS4 := hS4.next hb
  (try replace zl := zl.below hb)
  clear hK K
  try clear hb
  try simp only [Act.put, List.setIfInBounds_toArray, List.set_cons_zero, List.set_cons_succ]
  refine wpAnyH_ready (rs := [6, 12]) (by kernel_rfl) (by simp) ?_
  refine AllReadyH.cons (o := ⟨some 14, _, _, _, _, _⟩) rfl (fun K hK => ?_) ?_
  go_simp
  (first | ((with_reducible refine (IL.out _).mono ?_); rintro e wl ⟨bl, Al, nl, cl, rfl, hb, zl⟩) | ((with_reducible refine (IH.out _).mono ?_); rintro e wh ⟨bh, Ah, nh, ch, rfl, hb, zh⟩) | ((with_reducible refine (AD.out _ _ _ zl zh).mono ?_); rintro e wa ⟨ba, Aa, na, ca, rfl, hb, za⟩) | ((with_reducible refine (I2.out _).mono ?_); rintro e wt ⟨bt, At, nt, ct, rfl, hb, zt⟩) | ((with_reducible refine (DV.out _ _ _ za zt).mono ?_); rintro e wd ⟨bq, Aq, nq, cq, br, Ar, nr, cr, rfl, hb, zq, zr⟩))
  refine hK.out _ _ (hHeld137.next hb) (fun hHeld138 => ?_)
  replace hS4 := hS4.next hb
  (try replace zl := zl.below hb)
  (try replace zh := zh.below hb)
  clear hK K
  try clear hb
  try simp only [Act.put, List.setIfInBounds_toArray, List.set_cons_zero, List.set_cons_succ]
  refine wpAnyH_ready (rs := [7, 12]) (by kernel_rfl) (by simp) ?_
  refine AllReadyH.cons (o := ⟨some 15, _, _, _, _, _⟩) rfl (fun K hK => ?_) ?_
  go_simp
  (first | ((with_reducible refine (IL.out _).mono ?_); rintro e wl ⟨bl, Al, nl, cl, rfl, hb, zl⟩) | ((with_reducible refine (IH.out _).mono ?_); rintro e wh ⟨bh, Ah, nh, ch, rfl, hb, zh⟩) | ((with_reducible refine (AD.out _ _ _ zl zh).mono ?_); rintro e wa ⟨ba, Aa, na, ca, rfl, hb, za⟩) | ((with_reducible refine (I2.out _).mono ?_); rintro e wt ⟨bt, At, nt, ct, rfl, hb, zt⟩) | ((with_reducible refine (DV.out _ _ _ za zt).mono ?_); rintro e wd ⟨bq, Aq, nq, cq, br, Ar, nr, cr, rfl, hb, zq, zr⟩))
  refine hK.out _ _ (hHeld138.next hb) (fun hHeld139 => ?_)
  replace hS4 := hS4.next hb
  (try replace za := za.below hb)
  clear hK K
  try clear hb
  try simp only [Act.put, List.setIfInBounds_toArray, List.set_cons_zero, List.set_cons_succ]
  refine wpAnyH_ready (rs := [8, 12]) (by kernel_rfl) (by simp) ?_
  refine AllReadyH.cons (o := ⟨some 16, _, _, _, _, _⟩) rfl (fun K hK => ?_) ?_
  go_simp
  (first | ((with_reducible refine (IL.out _).mono ?_); rintro e wl ⟨bl, Al, nl, cl, rfl, hb, zl⟩) | ((with_reducible refine (IH.out _).mono ?_); rintro e wh ⟨bh, Ah, nh, ch, rfl, hb, zh⟩) | ((with_reducible refine (AD.out _ _ _ zl zh).mono ?_); rintro e wa ⟨ba, Aa, na, ca, rfl, hb, za⟩) | ((with_reducible refine (I2.out _).mono ?_); rintro e wt ⟨bt, At, nt, ct, rfl, hb, zt⟩) | ((with_reducible refine (DV.out _ _ _ za zt).mono ?_); rintro e wd ⟨bq, Aq, nq, cq, br, Ar, nr, cr, rfl, hb, zq, zr⟩))
  refine hK.out _ _ (hHeld139.next hb) (fun hHeld140 => ?_)
  replace hS4 := hS4.next hb
  (try replace za := za.below hb)
  (try replace zt := zt.below hb)
  clear hK K
  try clear hb
  try simp only [Act.put, List.setIfInBounds_toArray, List.set_cons_zero, List.set_cons_succ]
  refine wpAnyH_take (i := 9) (oi := ⟨some 7, _, _, _, _, _⟩) (v := ?_) rfl (by kernel_rfl) (by kernel_rfl) (by kernel_rfl) (fun _ _ _ h => h) (Or.inl ⟨by rfl, ?_⟩) (by assumption) ?_
  rotate_left
  · intro wq hSw; go_simp; (try with_reducible rfl)
  try simp only [Act.put, List.setIfInBounds_toArray, List.set_cons_zero, List.set_cons_succ]
  refine wpAnyH_take (i := 10) (oi := ⟨some 17, _, _, _, _, _⟩) (v := ?_) rfl (by kernel_rfl) (by kernel_rfl) (by kernel_rfl) (fun _ _ _ h => h) (Or.inl ⟨by rfl, ?_⟩) (by assumption) ?_
  rotate_left
  · intro wq hSw; go_simp; (try with_reducible rfl)
  try simp only [Act.put, List.setIfInBounds_toArray, List.set_cons_zero, List.set_cons_succ]
  refine wpAnyH_take (i := 11) (oi := ⟨some 18, _, _, _, _, _⟩) (v := ?_) rfl (by kernel_rfl) (by kernel_rfl) (by kernel_rfl) (fun _ _ _ h => h) (Or.inl ⟨by rfl, ?_⟩) (by assumption) ?_
  rotate_left
  · intro wq hSw; go_simp; (try with_reducible rfl)
  try simp only [Act.put, List.setIfInBounds_toArray, List.set_cons_zero, List.set_cons_succ]
  refine wpAnyH_ready (rs := [12]) (by kernel_rfl) (by simp) ?_
  refine AllReadyH.cons (o := ⟨some 3, _, _, _, _, _⟩) rfl (fun K hK => ?_) AllReadyH.nil
  have hne4_3 := hS4.2.1.1
  have lo3 := hHeld140.1.size
  obtain ⟨⟨a3_z0, a3_c0, a3_f0⟩, ⟨a3_z1, a3_c1, a3_f1⟩, _⟩ := hHeld140.2
  (try simp at lo3); (try simp at hne4_3); (try simp at a3_z0); (try simp at a3_z1)
  go_simp
  refine hK.out _ _ (by first | exact hHeld140.alloc _ | exact (hHeld140.alloc _).drew) (fun hHeld141 => ?_)
  first | replace hS4 := hS4.alloc2e hHeld141 | replace hS4 := hS4.alloc2 hHeld141
  (try replace zq := zq.alloc2 hHeld141)
  first | have hS3 := newK2 hHeld141 | have hS3 := newK2d hHeld141
  clear hK K
  try clear hb
  try simp only [Act.put, List.setIfInBounds_toArray, List.set_cons_zero, List.set_cons_succ]
  generalize hGWA86 : World.alloc wd (.cells #[.bool false, .slice none 0 0] 81) = WA86 at *
  clear hGWA86
  refine wpAnyH_ready (rs := [14]) (by kernel_rfl) (by simp) ?_
  refine AllReadyH.cons (o := ⟨none, _, _, _, _, _⟩) rfl (fun K hK => ?_) AllReadyH.nil
  obtain ⟨⟨s3z0, s3c0, s3f0⟩, ⟨s3z1, s3c1, s3f1⟩, _⟩ := hS3.2
  go_simp
  refine hK.out _ _ (by (repeat (first | (with_reducible exact hHeld141) | (refine Keeps.set ?_ (by simp <;> omega) (by simp <;> omega) _)))) (fun hHeld142 => ?_)
  replace hS4 := hS4.mv2 hHeld142 (by first | omega | (simp <;> omega)) (by simp <;> omega)
  (try replace zq := zq.store2 hHeld142 s3c0 s3c1)
  replace hS3 := hHeld142.add2 s3z0 s3c0 s3f0 s3c1 s3f1
  clear s3z0 s3c0 s3f0 s3z1 s3c1 s3f1
  clear hK K
  try clear hb
  try simp only [Act.put, List.setIfInBounds_toArray, List.set_cons_zero, List.set_cons_succ]
  generalize hGWA87 : World.setCell (World.setCell WA86 ⟨wd.heap.size, 0, none⟩ (.bool bq)) ⟨wd.heap.size, 1, none⟩ (.slice Aq nq cq) = WA87 at *
  clear hGWA87
  refine wpAnyH_ready (rs := [15]) (by kernel_rfl) (by simp) ?_
  refine AllReadyH.cons (o := ⟨none, _, _, _, _, _⟩) rfl (fun K hK => ?_) AllReadyH.nil
  obtain ⟨⟨s4z0, s4c0, s4f0⟩, ⟨s4z1, s4c1, s4f1⟩, _⟩ := hS4.2
  go_simp
  refine hK.out _ _ (by (repeat (first | (with_reducible exact hHeld142) | (refine Keeps.set ?_ (by simp <;> omega) (by simp <;> omega) _)))) (fun hHeld143 => ?_)
  replace hS3 := hS3.mv2 hHeld143 (by first | omega | (simp <;> omega)) (by simp <;> omega)
  (try replace zq := zq.store2 hHeld143 s4c0 s4c1)
  replace hS4 := hHeld143.add2 s4z0 s4c0 s4f0 s4c1 s4f1
  clear s4z0 s4c0 s4f0 s4z1 s4c1 s4f1
  clear hK K
  try clear hb
  try simp only [Act.put, List.setIfInBounds_toArray, List.set_cons_zero, List.set_cons_succ]
  generalize hGWA88 : World.setCell (World.setCell WA87 ⟨wl.heap.size, 0, none⟩ (.bool br)) ⟨wl.heap.size, 1, none⟩ (.slice Ar nr cr) = WA88 at *
  clear hGWA88
  refine wpAnyH_done (by kernel_rfl) ?_ _
  have hHeld := hHeld143
  rotate_left 1
  refine AllReadyH.cons (o := ⟨some 3, _, _, _, _, _⟩) rfl (fun K hK => ?_) ?_
  have hne4_3 := hS4.2.1.1
  have lo3 := hHeld139.1.size
  obtain ⟨⟨a3_z0, a3_c0, a3_f0⟩, ⟨a3_z1, a3_c1, a3_f1⟩, _⟩ := hHeld139.2
  (try simp at lo3); (try simp at hne4_3); (try simp at a3_z0); (try simp at a3_z1)
  go_simp
  refine hK.out _ _ (by first | exact hHeld139.alloc _ | exact (hHeld139.alloc _).drew) (fun hHeld144 => ?_)
  first | replace hS4 := hS4.alloc2e hHeld144 | replace hS4 := hS4.alloc2 hHeld144
  (try replace za := za.alloc2 hHeld144)
  (try replace zt := zt.alloc2 hHeld144)
  first | have hS3 := newK2 hHeld144 | have hS3 := newK2d hHeld144
  clear hK K
  try clear hb
  try simp only [Act.put, List.setIfInBounds_toArray, List.set_cons_zero, List.set_cons_succ]
  generalize hGWA89 : World.alloc wt (.cells #[.bool false, .slice none 0 0] 81) = WA89 at *
  clear hGWA89
  refine wpAnyH_ready (rs := [8]) (by kernel_rfl) (by simp) ?_
  refine AllReadyH.cons (o := ⟨some 16, _, _, _, _, _⟩) rfl (fun K hK => ?_) AllReadyH.nil
  go_simp
  (first | ((with_reducible refine (IL.out _).mono ?_); rintro e wl ⟨bl, Al, nl, cl, rfl, hb, zl⟩) | ((with_reducible refine (IH.out _).mono ?_); rintro e wh ⟨bh, Ah, nh, ch, rfl, hb, zh⟩) | ((with_reducible refine (AD.out _ _ _ zl zh).mono ?_); rintro e wa ⟨ba, Aa, na, ca, rfl, hb, za⟩) | ((with_reducible refine (I2.out _).mono ?_); rintro e wt ⟨bt, At, nt, ct, rfl, hb, zt⟩) | ((with_reducible refine (DV.out _ _ _ za zt).mono ?_); rintro e wd ⟨bq, Aq, nq, cq, br, Ar, nr, cr, rfl, hb, zq, zr⟩))
  refine hK.out _ _ (hHeld144.next hb) (fun hHeld145 => ?_)
  replace hS4 := hS4.next hb
  replace hS3 := hS3.next hb
  (try replace za := za.below hb)
  (try replace zt := zt.below hb)
  clear hK K
  try clear hb
  try simp only [Act.put, List.setIfInBounds_toArray, List.set_cons_zero, List.set_cons_succ]
  refine wpAnyH_take (i := 9) (oi := ⟨some 7, _, _, _, _, _⟩) (v := ?_) rfl (by kernel_rfl) (by kernel_rfl) (by kernel_rfl) (fun _ _ _ h => h) (Or.inl ⟨by rfl, ?_⟩) (by assumption) ?_
  rotate_left
  · intro wq hSw; go_simp; (try with_reducible rfl)
  try simp only [Act.put, List.setIfInBounds_toArray, List.set_cons_zero, List.set_cons_succ]
  refine wpAnyH_take (i := 10) (oi := ⟨some 17, _, _, _, _, _⟩) (v := ?_) rfl (by kernel_rfl) (by kernel_rfl) (by kernel_rfl) (fun _ _ _ h => h) (Or.inl ⟨by rfl, ?_⟩) (by assumption) ?_
  rotate_left
  · intro wq hSw; go_simp; (try with_reducible rfl)
  try simp only [Act.put, List.setIfInBounds_toArray, List.set_cons_zero, List.set_cons_succ]
  refine wpAnyH_take (i := 11) (oi := ⟨some 18, _, _, _, _, _⟩) (v := ?_) rfl (by kernel_rfl) (by kernel_rfl) (by kernel_rfl) (fun _ _ _ h => h) (Or.inl ⟨by rfl, ?_⟩) (by assumption) ?_
  rotate_left
  · intro wq hSw; go_simp; (try with_reducible rfl)
  try simp only [Act.put, List.setIfInBounds_toArray, List.set_cons_zero, List.set_cons_succ]
  refine wpAnyH_ready (rs := [14]) (by kernel_rfl) (by simp) ?_
  refine AllReadyH.cons (o := ⟨none, _, _, _, _, _⟩) rfl (fun K hK => ?_) AllReadyH.nil
  obtain ⟨⟨s3z0, s3c0, s3f0⟩, ⟨s3z1, s3c1, s3f1⟩, _⟩ := hS3.2
  go_simp
  refine hK.out _ _ (by (repeat (first | (with_reducible exact hHeld145) | (refine Keeps.set ?_ (by simp <;> omega) (by simp <;> omega) _)))) (fun hHeld146 => ?_)
  replace hS4 := hS4.mv2 hHeld146 (by first | omega | (simp <;> omega)) (by simp <;> omega)
  (try replace zq := zq.store2 hHeld146 s3c0 s3c1)
  replace hS3 := hHeld146.add2 s3z0 s3c0 s3f0 s3c1 s3f1
  clear s3z0 s3c0 s3f0 s3z1 s3c1 s3f1
  clear hK K
  try clear hb
  try simp only [Act.put, List.setIfInBounds_toArray, List.set_cons_zero, List.set_cons_succ]
  generalize hGWA90 : World.setCell (World.setCell wd ⟨wt.heap.size, 0, none⟩ (.bool bq)) ⟨wt.heap.size, 1, none⟩ (.slice Aq nq cq) = WA90 at *
  clear hGWA90
  refine wpAnyH_ready (rs := [15]) (by kernel_rfl) (by simp) ?_
  refine AllReadyH.cons (o := ⟨none, _, _, _, _, _⟩) rfl (fun K hK => ?_) AllReadyH.nil
  obtain ⟨⟨s4z0, s4c0, s4f0⟩, ⟨s4z1, s4c1, s4f1⟩, _⟩ := hS4.2
  go_simp
  refine hK.out _ _ (by (repeat (first | (with_reducible exact hHeld146) | (refine Keeps.set ?_ (by simp <;> omega) (by simp <;> omega) _)))) (fun hHeld147 => ?_)
  replace hS3 := hS3.mv2 hHeld147 (by first | omega | (simp <;> omega)) (by simp <;> omega)
  (try replace zq := zq.store2 hHeld147 s4c0 s4c1)
  replace hS4 := hHeld147.add2 s4z0 s4c0 s4f0 s4c1 s4f1
  clear s4z0 s4c0 s4f0 s4z1 s4c1 s4f1
  clear hK K
  try clear hb
  try simp only [Act.put, List.setIfInBounds_toArray, List.set_cons_zero, List.set_cons_succ]
  generalize hGWA91 : World.setCell (World.setCell WA90 ⟨wl.heap.size, 0, none⟩ (.bool br)) ⟨wl.heap.size, 1, none⟩ (.slice Ar nr cr) = WA91 at *
  clear hGWA91
  refine wpAnyH_done (by kernel_rfl) ?_ _
  have hHeld := hHeld147
  rotate_left 1
  exact AllReadyH.nil
  refine AllReadyH.cons (o := ⟨some 3, _, _, _, _, _⟩) rfl (fun K hK => ?_) ?_
  have hne4_3 := hS4.2.1.1
  have lo3 := hHeld138.1.size
  obtain ⟨⟨a3_z0, a3_c0, a3_f0⟩, ⟨a3_z1, a3_c1, a3_f1⟩, _⟩ := hHeld138.2
  (try simp at lo3); (try simp at hne4_3); (try simp at a3_z0); (try simp at a3_z1)
  go_simp
  refine hK.out _ _ (by first | exact hHeld138.alloc _ | exact (hHeld138.alloc _).drew) (fun hHeld148 => ?_)
  first | replace hS4 := hS4.alloc2e hHeld148 | replace hS4 := hS4.alloc2 hHeld148
  (try replace za := za.alloc2 hHeld148)
  first | have hS3 := newK2 hHeld148 | have hS3 := newK2d hHeld148
  clear hK K
  try clear hb
  try simp only [Act.put, List.setIfInBounds_toArray, List.set_cons_zero, List.set_cons_succ]
  generalize hGWA92 : World.alloc wa (.cells #[.bool false, .slice none 0 0] 81) = WA92 at *
  clear hGWA92
  refine wpAnyH_ready (rs := [7]) (by kernel_rfl) (by simp) ?_
  refine AllReadyH.cons (o := ⟨some 15, _, _, _, _, _⟩) rfl (fun K hK => ?_) AllReadyH.nil
  go_simp
  (first | ((with_reducible refine (IL.out _).mono ?_); rintro e wl ⟨bl, Al, nl, cl, rfl, hb, zl⟩) | ((with_reducible refine (IH.out _).mono ?_); rintro e wh ⟨bh, Ah, nh, ch, rfl, hb, zh⟩) | ((with_reducible refine (AD.out _ _ _ zl zh).mono ?_); rintro e wa ⟨ba, Aa, na, ca, rfl, hb, za⟩) | ((with_reducible refine (I2.out _).mono ?_); rintro e wt ⟨bt, At, nt, ct, rfl, hb, zt⟩) | ((with_reducible refine (DV.out _ _ _ za zt).mono ?_); rintro e wd ⟨bq, Aq, nq, cq, br, Ar, nr, cr, rfl, hb, zq, zr⟩))
  refine hK.out _ _ (hHeld148.next hb) (fun hHeld149 => ?_)
  replace hS4 := hS4.next hb
  replace hS3 := hS3.next hb
  (try replace za := za.below hb)
  clear hK K
  try clear hb
  try simp only [Act.put, List.setIfInBounds_toArray, List.set_cons_zero, List.set_cons_succ]
  refine wpAnyH_ready (rs := [8]) (by kernel_rfl) (by simp) ?_
  refine AllReadyH.cons (o := ⟨some 16, _, _, _, _, _⟩) rfl (fun K hK => ?_) AllReadyH.nil
  go_simp
  (first | ((with_reducible refine (IL.out _).mono ?_); rintro e wl ⟨bl, Al, nl, cl, rfl, hb, zl⟩) | ((with_reducible refine (IH.out _).mono ?_); rintro e wh ⟨bh, Ah, nh, ch, rfl, hb, zh⟩) | ((with_reducible refine (AD.out _ _ _ zl zh).mono ?_); rintro e wa ⟨ba, Aa, na, ca, rfl, hb, za⟩) | ((with_reducible refine (I2.out _).mono ?_); rintro e wt ⟨bt, At, nt, ct, rfl, hb, zt⟩) | ((with_reducible refine (DV.out _ _ _ za zt).mono ?_); rintro e wd ⟨bq, Aq, nq, cq, br, Ar, nr, cr, rfl, hb, zq, zr⟩))
  refine hK.out _ _ (hHeld149.next hb) (fun hHeld150 => ?_)
  replace hS4 := hS4.next hb
  replace hS3 := hS3.next hb
  (try replace za := za.below hb)
  (try replace zt := zt.below hb)
  clear hK K
  try clear hb
  try simp only [Act.put, List.setIfInBounds_toArray, List.set_cons_zero, List.set_cons_succ]
  refine wpAnyH_take (i := 9) (oi := ⟨some 7, _, _, _, _, _⟩) (v := ?_) rfl (by kernel_rfl) (by kernel_rfl) (by kernel_rfl) (fun _ _ _ h => h) (Or.inl ⟨by rfl, ?_⟩) (by assumption) ?_
  rotate_left
  · intro wq hSw; go_simp; (try with_reducible rfl)
  try simp only [Act.put, List.setIfInBounds_toArray, List.set_cons_zero, List.set_cons_succ]
  refine wpAnyH_take (i := 10) (oi := ⟨some 17, _, _, _, _, _⟩) (v := ?_) rfl (by kernel_rfl) (by kernel_rfl) (by kernel_rfl) (fun _ _ _ h => h) (Or.inl ⟨by rfl, ?_⟩) (by assumption) ?_
  rotate_left
  · intro wq hSw; go_simp; (try with_reducible rfl)
  try simp only [Act.put, List.setIfInBounds_toArray, List.set_cons_zero, List.set_cons_succ]
  refine wpAnyH_take (i := 11) (oi := ⟨some 18, _, _, _, _, _⟩) (v := ?_) rfl (by kernel_rfl) (by kernel_rfl) (by kernel_rfl) (fun _ _ _ h => h) (Or.inl ⟨by rfl, ?_⟩) (by assumption) ?_
  rotate_left
  · intro wq hSw; go_simp; (try with_reducible rfl)
  try simp only [Act.put, List.setIfInBounds_toArray, List.set_cons_zero, List.set_cons_succ]
  refine wpAnyH_ready (rs := [14]) (by kernel_rfl) (by simp) ?_
  refine AllReadyH.cons (o := ⟨none, _, _, _, _, _⟩) rfl (fun K hK => ?_) AllReadyH.nil
  obtain ⟨⟨s3z0, s3c0, s3f0⟩, ⟨s3z1, s3c1, s3f1⟩, _⟩ := hS3.2
  go_simp
  refine hK.out _ _ (by (repeat (first | (with_reducible exact hHeld150) | (refine Keeps.set ?_ (by simp <;> omega) (by simp <;> omega) _)))) (fun hHeld151 => ?_)
  replace hS4 := hS4.mv2 hHeld151 (by first | omega | (simp <;> omega)) (by simp <;> omega)
  (try replace zq := zq.store2 hHeld151 s3c0 s3c1)
  replace hS3 := hHeld151.add2 s3z0 s3c0 s3f0 s3c1 s3f1
  clear s3z0 s3c0 s3f0 s3z1 s3c1 s3f1
  clear hK K
  try clear hb
  try simp only [Act.put, List.setIfInBounds_toArray, List.set_cons_zero, List.set_cons_succ]
  generalize hGWA93 : World.setCell (World.setCell wd ⟨wa.heap.size, 0, none⟩ (.bool bq)) ⟨wa.heap.size, 1, none⟩ (.slice Aq nq cq) = WA93 at *
  clear hGWA93
  refine wpAnyH_ready (rs := [15]) (by kernel_rfl) (by simp) ?_
  refine AllReadyH.cons (o := ⟨none, _, _, _, _, _⟩) rfl (fun K hK => ?_) AllReadyH.nil
  obtain ⟨⟨s4z0, s4c0, s4f0⟩, ⟨s4z1, s4c1, s4f1⟩, _⟩ := hS4.2
  go_simp
  refine hK.out _ _ (by (repeat (first | (with_reducible exact hHeld151) | (refine Keeps.set ?_ (by simp <;> omega) (by simp <;> omega) _)))) (fun hHeld152 => ?_)
  replace hS3 := hS3.mv2 hHeld152 (by first | omega | (simp <;> omega)) (by simp <;> omega)
  (try replace zq := zq.store2 hHeld152 s4c0 s4c1)
  replace hS4 := hHeld152.add2 s4z0 s4c0 s4f0 s4c1 s4f1
  clear s4z0 s4c0 s4f0 s4z1 s4c1 s4f1
  clear hK K
  try clear hb
  try simp only [Act.put, List.setIfInBounds_toArray, List.set_cons_zero, List.set_cons_succ]
  generalize hGWA94 : World.setCell (World.setCell WA93 ⟨wl.heap.size, 0, none⟩ (.bool br)) ⟨wl.heap.size, 1, none⟩ (.slice Ar nr cr) = WA94 at *
  clear hGWA94
  refine wpAnyH_done (by kernel_rfl) ?_ _
  have hHeld := hHeld152
  rotate_left 1
  exact AllReadyH.nil
  refine AllReadyH.cons (o := ⟨some 3, _, _, _, _, _⟩) rfl (fun K hK => ?_) ?_
  have hne4_3 := hS4.2.1.1
  have lo3 := hHeld137.1.size
  obtain ⟨⟨a3_z0, a3_c0, a3_f0⟩, ⟨a3_z1, a3_c1, a3_f1⟩, _⟩ := hHeld137.2
  (try simp at lo3); (try simp at hne4_3); (try simp at a3_z0); (try simp at a3_z1)
  go_simp
  refine hK.out _ _ (by first | exact hHeld137.alloc _ | exact (hHeld137.alloc _).drew) (fun hHeld153 => ?_)
  first | replace hS4 := hS4.alloc2e hHeld153 | replace hS4 := hS4.alloc2 hHeld153
  (try replace zl := zl.alloc2 hHeld153)
  (try replace zh := zh.alloc2 hHeld153)
  first | have hS3 := newK2 hHeld153 | have hS3 := newK2d hHeld153
  clear hK K
  try clear hb
  try simp only [Act.put, List.setIfInBounds_toArray, List.set_cons_zero, List.set_cons_succ]
  generalize hGWA95 : World.alloc wh (.cells #[.bool false, .slice none 0 0] 81) = WA95 at *
  clear hGWA95
  refine wpAnyH_ready (rs := [6]) (by kernel_rfl) (by simp) ?_
  refine AllReadyH.cons (o := ⟨some 14, _, _, _, _, _⟩) rfl (fun K hK => ?_) AllReadyH.nil
  go_simp
  (first | ((with_reducible refine (IL.out _).mono ?_); rintro e wl ⟨bl, Al, nl, cl, rfl, hb, zl⟩) | ((with_reducible refine (IH.out _).mono ?_); rintro e wh ⟨bh, Ah, nh, ch, rfl, hb, zh⟩) | ((with_reducible refine (AD.out _ _ _ zl zh).mono ?_); rintro e wa ⟨ba, Aa, na, ca, rfl, hb, za⟩) | ((with_reducible refine (I2.out _).mono ?_); rintro e wt ⟨bt, At, nt, ct, rfl, hb, zt⟩) | ((with_reducible refine (DV.out _ _ _ za zt).mono ?_); rintro e wd ⟨bq, Aq, nq, cq, br, Ar, nr, cr, rfl, hb, zq, zr⟩))
  refine hK.out _ _ (hHeld153.next hb) (fun hHeld154 => ?_)
  replace hS4 := hS4.next hb
  replace hS3 := hS3.next hb
  (try replace zl := zl.below hb)
  (try replace zh := zh.below hb)
  clear hK K
  try clear hb
  try simp only [Act.put, List.setIfInBounds_toArray, List.set_cons_zero, List.set_cons_succ]
  refine wpAnyH_ready (rs := [7]) (by kernel_rfl) (by simp) ?_
  refine AllReadyH.cons (o := ⟨some 15, _, _, _, _, _⟩) rfl (fun K hK => ?_) AllReadyH.nil
  go_simp
  (first | ((with_reducible refine (IL.out _).mono ?_); rintro e wl ⟨bl, Al, nl, cl, rfl, hb, zl⟩) | ((with_reducible refine (IH.out _).mono ?_); rintro e wh ⟨bh, Ah, nh, ch, rfl, hb, zh⟩) | ((with_reducible refine (AD.out _ _ _ zl zh).mono ?_); rintro e wa ⟨ba, Aa, na, ca, rfl, hb, za⟩) | ((with_reducible refine (I2.out _).mono ?_); rintro e wt ⟨bt, At, nt, ct, rfl, hb, zt⟩) | ((with_reducible refine (DV.out _ _ _ za zt).mono ?_); rintro e wd ⟨bq, Aq, nq, cq, br, Ar, nr, cr, rfl, hb, zq, zr⟩))
  refine hK.out _ _ (hHeld154.next hb) (fun hHeld155 => ?_)
  replace hS4 := hS4.next hb
  replace hS3 := hS3.next hb
  (try replace za := za.below hb)
  clear hK K
  try clear hb
  try simp only [Act.put, List.setIfInBounds_toArray, List.set_cons_zero, List.set_cons_succ]
  refine wpAnyH_ready (rs := [8]) (by kernel_rfl) (by simp) ?_
  refine AllReadyH.cons (o := ⟨some 16, _, _, _, _, _⟩) rfl (fun K hK => ?_) AllReadyH.nil
  go_simp
  (first | ((with_reducible refine (IL.out _).mono ?_); rintro e wl ⟨bl, Al, nl, cl, rfl, hb, zl⟩) | ((with_reducible refine (IH.out _).mono ?_); rintro e wh ⟨bh, Ah, nh, ch, rfl, hb, zh⟩) | ((with_reducible refine (AD.out _ _ _ zl zh).mono ?_); rintro e wa ⟨ba, Aa, na, ca, rfl, hb, za⟩) | ((with_reducible refine (I2.out _).mono ?_); rintro e wt ⟨bt, At, nt, ct, rfl, hb, zt⟩) | ((with_reducible refine (DV.out _ _ _ za zt).mono ?_); rintro e wd ⟨bq, Aq, nq, cq, br, Ar, nr, cr, rfl, hb, zq, zr⟩))
  refine hK.out _ _ (hHeld155.next hb) (fun hHeld156 => ?_)
  replace hS4 := hS4.next hb
  replace hS3 := hS3.next hb
  (try replace za := za.below hb)
  (try replace zt := zt.below hb)
  clear hK K
  try clear hb
  try simp only [Act.put, List.setIfInBounds_toArray, List.set_cons_zero, List.set_cons_succ]
  refine wpAnyH_take (i := 9) (oi := ⟨some 7, _, _, _, _, _⟩) (v := ?_) rfl (by kernel_rfl) (by kernel_rfl) (by kernel_rfl) (fun _ _ _ h => h) (Or.inl ⟨by rfl, ?_⟩) (by assumption) ?_
  rotate_left
  · intro wq hSw; go_simp; (try with_reducible rfl)
  try simp only [Act.put, List.setIfInBounds_toArray, List.set_cons_zero, List.set_cons_succ]
  refine wpAnyH_take (i := 10) (oi := ⟨some 17, _, _, _, _, _⟩) (v := ?_) rfl (by kernel_rfl) (by kernel_rfl) (by kernel_rfl) (fun _ _ _ h => h) (Or.inl ⟨by rfl, ?_⟩) (by assumption) ?_
  rotate_left
  · intro wq hSw; go_simp; (try with_reducible rfl)
  try simp only [Act.put, List.setIfInBounds_toArray, List.set_cons_zero, List.set_cons_succ]
  refine wpAnyH_take (i := 11) (oi := ⟨some 18, _, _, _, _, _⟩) (v := ?_) rfl (by kernel_rfl) (by kernel_rfl) (by kernel_rfl) (fun _ _ _ h => h) (Or.inl ⟨by rfl, ?_⟩) (by assumption) ?_
  rotate_left
  · intro wq hSw; go_simp; (try with_reducible rfl)
  try simp only [Act.put, List.setIfInBounds_toArray, List.set_cons_zero, List.set_cons_succ]
  refine wpAnyH_ready (rs := [14]) (by kernel_rfl) (by simp) ?_
  refine AllReadyH.cons (o := ⟨none, _, _, _, _, _⟩) rfl (fun K hK => ?_) AllReadyH.nil
  obtain ⟨⟨s3z0, s3c0, s3f0⟩, ⟨s3z1, s3c1, s3f1⟩, _⟩ := hS3.2
  go_simp
  refine hK.out _ _ (by (repeat (first | (with_reducible exact hHeld156) | (refine Keeps.set ?_ (by simp <;> omega) (by simp <;> omega) _)))) (fun hHeld157 => ?_)
  replace hS4 := hS4.mv2 hHeld157 (by first | omega | (simp <;> omega)) (by simp <;> omega)
  (try replace zq := zq.store2 hHeld157 s3c0 s3c1)
  replace hS3 := hHeld157.add2 s3z0 s3c0 s3f0 s3c1 s3f1
  clear s3z0 s3c0 s3f0 s3z1 s3c1 s3f1
  clear hK K
  try clear hb
  try simp only [Act.put, List.setIfInBounds_toArray, List.set_cons_zero, List.set_cons_succ]
  generalize hGWA96 : World.setCell (World.setCell wd ⟨wh.heap.size, 0, none⟩ (.bool bq)) ⟨wh.heap.size, 1, none⟩ (.slice Aq nq cq) = WA96 at *
  clear hGWA96
  refine wpAnyH_ready (rs := [15]) (by kernel_rfl) (by simp) ?_
  refine AllReadyH.cons (o := ⟨none, _, _, _, _, _⟩) rfl (fun K hK => ?_) AllReadyH.nil
  obtain ⟨⟨s4z0, s4c0, s4f0⟩, ⟨s4z1, s4c1, s4f1⟩, _⟩ := hS4.2
  go_simp
  refine hK.out _ _ (by (repeat (first | (with_reducible exact hHeld157) | (refine Keeps.set ?_ (by simp <;> omega) (by simp <;> omega) _)))) (fun hHeld158 => ?_)
  replace hS3 := hS3.mv2 hHeld158 (by first | omega | (simp <;> omega)) (by simp <;> omega)
  (try replace zq := zq.store2 hHeld158 s4c0 s4c1)
  replace hS4 := hHeld158.add2 s4z0 s4c0 s4f0 s4c1 s4f1
  clear s4z0 s4c0 s4f0 s4z1 s4c1 s4f1
  clear hK K
  try clear hb
  try simp only [Act.put, List.setIfInBounds_toArray, List.set_cons_zero, List.set_cons_succ]
  generalize hGWA97 : World.setCell (World.setCell WA96 ⟨wl.heap.size, 0, none⟩ (.bool br)) ⟨wl.heap.size, 1, none⟩ (.slice Ar nr cr) = WA97 at *
  clear hGWA97
  refine wpAnyH_done (by kernel_rfl) ?_ _
  have hHeld := hHeld158
  rotate_left 1
  exact AllReadyH.nil
  refine AllReadyH.cons (o := ⟨some 3, _, _, _, _, _⟩) rfl (fun K hK => ?_) ?_
  have hne4_3 := hS4.2.1.1
  have lo3 := hHeld136.1.size
  obtain ⟨⟨a3_z0, a3_c0, a3_f0⟩, ⟨a3_z1, a3_c1, a3_f1⟩, _⟩ := hHeld136.2
  (try simp at lo3); (try simp at hne4_3); (try simp at a3_z0); (try simp at a3_z1)
  go_simp
  refine hK.out _ _ (by first | exact hHeld136.alloc _ | exact (hHeld136.alloc _).drew) (fun hHeld159 => ?_)
  first | replace hS4 := hS4.alloc2e hHeld159 | replace hS4 := hS4.alloc2 hHeld159
  (try replace zl := zl.alloc2 hHeld159)
  first | have hS3 := newK2 hHeld159 | have hS3 := newK2d hHeld159
  clear hK K
  try clear hb
  try simp only [Act.put, List.setIfInBounds_toArray, List.set_cons_zero, List.set_cons_succ]
  generalize hGWA98 : World.alloc WA85 (.cells #[.bool false, .slice none 0 0] 81) = WA98 at *
  clear hGWA98
  refine wpAnyH_ready (rs := [5]) (by kernel_rfl) (by simp) ?_
  refine AllReadyH.cons (o := ⟨some 13, _, _, _, _, _⟩) rfl (fun K hK => ?_) AllReadyH.nil
  go_simp
  (first | ((with_reducible refine (IL.out _).mono ?_); rintro e wl ⟨bl, Al, nl, cl, rfl, hb, zl⟩) | ((with_reducible refine (IH.out _).mono ?_); rintro e wh ⟨bh, Ah, nh, ch, rfl, hb, zh⟩) | ((with_reducible refine (AD.out _ _ _ zl zh).mono ?_); rintro e wa ⟨ba, Aa, na, ca, rfl, hb, za⟩) | ((with_reducible refine (I2.out _).mono ?_); rintro e wt ⟨bt, At, nt, ct, rfl, hb, zt⟩) | ((with_reducible refine (DV.out _ _ _ za zt).mono ?_); rintro e wd ⟨bq, Aq, nq, cq, br, Ar, nr, cr, rfl, hb, zq, zr⟩))
  refine hK.out _ _ (hHeld159.next hb) (fun hHeld160 => ?_)
  replace hS4 := hS4.next hb
  replace hS3 := hS3.next hb
  (try replace zl := zl.below hb)
  clear hK K
  try clear hb
  try simp only [Act.put, List.setIfInBounds_toArray, List.set_cons_zero, List.set_cons_succ]
  refine wpAnyH_ready (rs := [6]) (by kernel_rfl) (by simp) ?_
  refine AllReadyH.cons (o := ⟨some 14, _, _, _, _, _⟩) rfl (fun K hK => ?_) AllReadyH.nil
  go_simp
  (first | ((with_reducible refine (IL.out _).mono ?_); rintro e wl ⟨bl, Al, nl, cl, rfl, hb, zl⟩) | ((with_reducible refine (IH.out _).mono ?_); rintro e wh ⟨bh, Ah, nh, ch, rfl, hb, zh⟩) | ((with_reducible refine (AD.out _ _ _ zl zh).mono ?_); rintro e wa ⟨ba, Aa, na, ca, rfl, hb, za⟩) | ((with_reducible refine (I2.out _).mono ?_); rintro e wt ⟨bt, At, nt, ct, rfl, hb, zt⟩) | ((with_reducible refine (DV.out _ _ _ za zt).mono ?_); rintro e wd ⟨bq, Aq, nq, cq, br, Ar, nr, cr, rfl, hb, zq, zr⟩))
  refine hK.out _ _ (hHeld160.next hb) (fun hHeld161 => ?_)
  replace hS4 := hS4.next hb
  replace hS3 := hS3.next hb
  (try replace zl := zl.below hb)
  (try replace zh := zh.below hb)
  clear hK K
  try clear hb
  try simp only [Act.put, List.setIfInBounds_toArray, List.set_cons_zero, List.set_cons_succ]
  refine wpAnyH_ready (rs := [7]) (by kernel_rfl) (by simp) ?_
  refine AllReadyH.cons (o := ⟨some 15, _, _, _, _, _⟩) rfl (fun K hK => ?_) AllReadyH.nil
  go_simp
  (first | ((with_reducible refine (IL.out _).mono ?_); rintro e wl ⟨bl, Al, nl, cl, rfl, hb, zl⟩) | ((with_reducible refine (IH.out _).mono ?_); rintro e wh ⟨bh, Ah, nh, ch, rfl, hb, zh⟩) | ((with_reducible refine (AD.out _ _ _ zl zh).mono ?_); rintro e wa ⟨ba, Aa, na, ca, rfl, hb, za⟩) | ((with_reducible refine (I2.out _).mono ?_); rintro e wt ⟨bt, At, nt, ct, rfl, hb, zt⟩) | ((with_reducible refine (DV.out _ _ _ za zt).mono ?_); rintro e wd ⟨bq, Aq, nq, cq, br, Ar, nr, cr, rfl, hb, zq, zr⟩))
  refine hK.out _ _ (hHeld161.next hb) (fun hHeld162 => ?_)
  replace hS4 := hS4.next hb
  replace hS3 := hS3.next hb
  (try replace za := za.below hb)
  clear hK K
  try clear hb
  try simp only [Act.put, List.setIfInBounds_toArray, List.set_cons_zero, List.set_cons_succ]
  refine wpAnyH_ready (rs := [8]) (by kernel_rfl) (by simp) ?_
  refine AllReadyH.cons (o := ⟨some 16, _, _, _, _, _⟩) rfl (fun K hK => ?_) AllReadyH.nil
  go_simp
  (first | ((with_reducible refine (IL.out _).mono ?_); rintro e wl ⟨bl, Al, nl, cl, rfl, hb, zl⟩) | ((with_reducible refine (IH.out _).mono ?_); rintro e wh ⟨bh, Ah, nh, ch, rfl, hb, zh⟩) | ((with_reducible refine (AD.out _ _ _ zl zh).mono ?_); rintro e wa ⟨ba, Aa, na, ca, rfl, hb, za⟩) | ((with_reducible refine (I2.out _).mono ?_); rintro e wt ⟨bt, At, nt, ct, rfl, hb, zt⟩) | ((with_reducible refine (DV.out _ _ _ za zt).mono ?_); rintro e wd ⟨bq, Aq, nq, cq, br, Ar, nr, cr, rfl, hb, zq, zr⟩))
  refine hK.out _ _ (hHeld162.next hb) (fun hHeld163 => ?_)
  replace hS4 := hS4.next hb
  replace hS3 := hS3.next hb
  (try replace za := za.below hb)
  (try replace zt := zt.below hb)
  clear hK K
  try clear hb
  try simp only [Act.put, List.setIfInBounds_toArray, List.set_cons_zero, List.set_cons_succ]
  refine wpAnyH_take (i := 9) (oi := ⟨some 7, _, _, _, _, _⟩) (v := ?_) rfl (by kernel_rfl) (by kernel_rfl) (by kernel_rfl) (fun _ _ _ h => h) (Or.inl ⟨by rfl, ?_⟩) (by assumption) ?_
  rotate_left
  · intro wq hSw; go_simp; (try with_reducible rfl)
  try simp only [Act.put, List.setIfInBounds_toArray, List.set_cons_zero, List.set_cons_succ]
  refine wpAnyH_take (i := 10) (oi := ⟨some 17, _, _, _, _, _⟩) (v := ?_) rfl (by kernel_rfl) (by kernel_rfl) (by kernel_rfl) (fun _ _ _ h => h) (Or.inl ⟨by rfl, ?_⟩) (by assumption) ?_
  rotate_left
  · intro wq hSw; go_simp; (try with_reducible rfl)
  try simp only [Act.put, List.setIfInBounds_toArray, List.set_cons_zero, List.set_cons_succ]
  refine wpAnyH_take (i := 11) (oi := ⟨some 18, _, _, _, _, _⟩) (v := ?_) rfl (by kernel_rfl) (by kernel_rfl) (by kernel_rfl) (fun _ _ _ h => h) (Or.inl ⟨by rfl, ?_⟩) (by assumption) ?_
  rotate_left
  · intro wq hSw; go_simp; (try with_reducible rfl)
  try simp only [Act.put, List.setIfInBounds_toArray, List.set_cons_zero, List.set_cons_succ]
  refine wpAnyH_ready (rs := [14]) (by kernel_rfl) (by simp) ?_
  refine AllReadyH.cons (o := ⟨none, _, _, _, _, _⟩) rfl (fun K hK => ?_) AllReadyH.nil
  obtain ⟨⟨s3z0, s3c0, s3f0⟩, ⟨s3z1, s3c1, s3f1⟩, _⟩ := hS3.2
  go_simp
  refine hK.out _ _ (by (repeat (first | (with_reducible exact hHeld163) | (refine Keeps.set ?_ (by simp <;> omega) (by simp <;> omega) _)))) (fun hHeld164 => ?_)
  replace hS4 := hS4.mv2 hHeld164 (by first | omega | (simp <;> omega)) (by simp <;> omega)
  (try replace zq := zq.store2 hHeld164 s3c0 s3c1)
  replace hS3 := hHeld164.add2 s3z0 s3c0 s3f0 s3c1 s3f1
  clear s3z0 s3c0 s3f0 s3z1 s3c1 s3f1
  clear hK K
  try clear hb
  try simp only [Act.put, List.setIfInBounds_toArray, List.set_cons_zero, List.set_cons_succ]
  generalize hGWA99 : World.setCell (World.setCell wd ⟨WA85.heap.size, 0, none⟩ (.bool bq)) ⟨WA85.heap.size, 1, none⟩ (.slice Aq nq cq) = WA99 at *
  clear hGWA99
  refine wpAnyH_ready (rs := [15]) (by kernel_rfl) (by simp) ?_
  refine AllReadyH.cons (o := ⟨none, _, _, _, _, _⟩) rfl (fun K hK => ?_) AllReadyH.nil
  obtain ⟨⟨s4z0, s4c0, s4f0⟩, ⟨s4z1, s4c1, s4f1⟩, _⟩ := hS4.2
  go_simp
  refine hK.out _ _ (by (repeat (first | (with_reducible exact hHeld164) | (refine Keeps.set ?_ (by simp <;> omega) (by simp <;> omega) _)))) (fun hHeld165 => ?_)
  replace hS3 := hS3.mv2 hHeld165 (by first | omega | (simp <;> omega)) (by simp <;> omega)
  (try replace zq := zq.store2 hHeld165 s4c0 s4c1)
  replace hS4 := hHeld165.add2 s4z0 s4c0 s4f0 s4c1 s4f1
  clear s4z0 s4c0 s4f0 s4z1 s4c1 s4f1
  clear hK K
  try clear hb
  try simp only [Act.put, List.setIfInBounds_toArray, List.set_cons_zero, List.set_cons_succ]
  generalize hGWA100 : World.setCell (World.setCell WA99 ⟨wl.heap.size, 0, none⟩ (.bool br)) ⟨wl.heap.size, 1, none⟩ (.slice Ar nr cr) = WA100 at *
  clear hGWA100
  refine wpAnyH_done (by kernel_rfl) ?_ _
  have hHeld := hHeld165
  rotate_left 1
  exact AllReadyH.nil
  exact AllReadyH.nil
  refine AllReadyH.cons (o := ⟨some 3, _, _, _, _, _⟩) rfl (fun K hK => ?_) ?_
  have lo3 := hHeld0.1.size
  obtain ⟨⟨a3_z0, a3_c0, a3_f0⟩, ⟨a3_z1, a3_c1, a3_f1⟩, _⟩ := hHeld0.2
  (try simp at lo3); (try simp at a3_z0); (try simp at a3_z1)
  go_simp
  refine hK.out _ _ (by first | exact hHeld0.alloc _ | exact (hHeld0.alloc _).drew) (fun hHeld166 => ?_)
  first | have hS3 := newK2 hHeld166 | have hS3 := newK2d hHeld166
  clear hK K
  try clear hb
  try simp only [Act.put, List.setIfInBounds_toArray, List.set_cons_zero, List.set_cons_succ]
  generalize hGWA101 : World.alloc wi (.cells #[.bool false, .slice none 0 0] 81) = WA101 at *
  clear hGWA101
  refine wpAnyH_ready (rs := [2, 13]) (by kernel_rfl) (by simp) ?_
  refine AllReadyH.cons (o := ⟨some 10, _, _, _, _, _⟩) rfl (fun K hK => ?_) ?_
  go_simp
  (first | ((with_reducible refine (IL.out _).mono ?_); rintro e wl ⟨bl, Al, nl, cl, rfl, hb, zl⟩) | ((with_reducible refine (IH.out _).mono ?_); rintro e wh ⟨bh, Ah, nh, ch, rfl, hb, zh⟩) | ((with_reducible refine (AD.out _ _ _ zl zh).mono ?_); rintro e wa ⟨ba, Aa, na, ca, rfl, hb, za⟩) | ((with_reducible refine (I2.out _).mono ?_); rintro e wt ⟨bt, At, nt, ct, rfl, hb, zt⟩) | ((with_reducible refine (DV.out _ _ _ za zt).mono ?_); rintro e wd ⟨bq, Aq, nq, cq, br, Ar, nr, cr, rfl, hb, zq, zr⟩))
  refine hK.out _ _ (hHeld166.next hb) (fun hHeld167 => ?_)
  replace hS3 := hS3.next hb
  clear hK K
  try clear hb
  try simp only [Act.put, List.setIfInBounds_toArray, List.set_cons_zero, List.set_cons_succ]
  refine wpAnyH_ready (rs := [5, 13]) (by kernel_rfl) (by simp) ?_
  refine AllReadyH.cons (o := ⟨some 13, _, _, _, _, _⟩) rfl (fun K hK => ?_) ?_
  go_simp
  (first | ((with_reducible refine (IL.out _).mono ?_); rintro e wl ⟨bl, Al, nl, cl, rfl, hb, zl⟩) | ((with_reducible refine (IH.out _).mono ?_); rintro e wh ⟨bh, Ah, nh, ch, rfl, hb, zh⟩) | ((with_reducible refine (AD.out _ _ _ zl zh).mono ?_); rintro e wa ⟨ba, Aa, na, ca, rfl, hb, za⟩) | ((with_reducible refine (I2.out _).mono ?_); rintro e wt ⟨bt, At, nt, ct, rfl, hb, zt⟩) | ((with_reducible refine (DV.out _ _ _ za zt).mono ?_); rintro e wd ⟨bq, Aq, nq, cq, br, Ar, nr, cr, rfl, hb, zq, zr⟩))
  refine hK.out _ _ (hHeld167.next hb) (fun hHeld168 => ?_)
  replace hS3 := hS3.next hb
  (try replace zl := zl.below hb)
  clear hK K
  try clear hb
  try simp only [Act.put, List.setIfInBounds_toArray, List.set_cons_zero, List.set_cons_succ]
  refine wpAnyH_ready (rs := [6, 13]) (by kernel_rfl) (by simp) ?_
  refine AllReadyH.cons (o := ⟨some 14, _, _, _, _, _⟩) rfl (fun K hK => ?_) ?_
  go_simp
  (first | ((with_reducible refine (IL.out _).mono ?_); rintro e wl ⟨bl, Al, nl, cl, rfl, hb, zl⟩) | ((with_reducible refine (IH.out _).mono ?_); rintro e wh ⟨bh, Ah, nh, ch, rfl, hb, zh⟩) | ((with_reducible refine (AD.out _ _ _ zl zh).mono ?_); rintro e wa ⟨ba, Aa, na, ca, rfl, hb, za⟩) | ((with_reducible refine (I2.out _).mono ?_); rintro e wt ⟨bt, At, nt, ct, rfl, hb, zt⟩) | ((with_reducible refine (DV.out _ _ _ za zt).mono ?_); rintro e wd ⟨bq, Aq, nq, cq, br, Ar, nr, cr, rfl, hb, zq, zr⟩))
  refine hK.out _ _ (hHeld168.next hb) (fun hHeld169 => ?_)
  replace hS3 := hS3.next hb
  (try replace zl := zl.below hb)
  (try replace zh := zh.below hb)
  clear hK K
  try clear hb
  try simp only [Act.put, List.setIfInBounds_toArray, List.set_cons_zero, List.set_cons_succ]
  refine wpAnyH_ready (rs := [7, 13]) (by kernel_rfl) (by simp) ?_
  refine AllReadyH.cons (o := ⟨some 15, _, _, _, _, _⟩) rfl (fun K hK => ?_) ?_
  go_simp
  (first | ((with_reducible refine (IL.out _).mono ?_); rintro e wl ⟨bl, Al, nl, cl, rfl, hb, zl⟩) | ((with_reducible refine (IH.out _).mono ?_); rintro e wh ⟨bh, Ah, nh, ch, rfl, hb, zh⟩) | ((with_reducible refine (AD.out _ _ _ zl zh).mono ?_); rintro e wa ⟨ba, Aa, na, ca, rfl, hb, za⟩) | ((with_reducible refine (I2.out _).mono ?_); rintro e wt ⟨bt, At, nt, ct, rfl, hb, zt⟩) | ((with_reducible refine (DV.out _ _ _ za zt).mono ?_); rintro e wd ⟨bq, Aq, nq, cq, br, Ar, nr, cr, rfl, hb, zq, zr⟩))
  refine hK.out _ _ (hHeld169.next hb) (fun hHeld170 => ?_)
  replace hS3 := hS3.next hb
  (try replace za := za.below hb)
  clear hK K
  try clear hb
  try simp only [Act.put, List.setIfInBounds_toArray, List.set_cons_zero, List.set_cons_succ]
  refine wpAnyH_ready (rs := [8, 13]) (by kernel_rfl) (by simp) ?_
  refine AllReadyH.cons (o := ⟨some 16, _, _, _, _, _⟩) rfl (fun K hK => ?_) ?_
  go_simp
  (first | ((with_reducible refine (IL.out _).mono ?_); rintro e wl ⟨bl, Al, nl, cl, rfl, hb, zl⟩) | ((with_reducible refine (IH.out _).mono ?_); rintro e wh ⟨bh, Ah, nh, ch, rfl, hb, zh⟩) | ((with_reducible refine (AD.out _ _ _ zl zh).mono ?_); rintro e wa ⟨ba, Aa, na, ca, rfl, hb, za⟩) | ((with_reducible refine (I2.out _).mono ?_); rintro e wt ⟨bt, At, nt, ct, rfl, hb, zt⟩) | ((with_reducible refine (DV.out _ _ _ za zt).mono ?_); rintro e wd ⟨bq, Aq, nq, cq, br, Ar, nr, cr, rfl, hb, zq, zr⟩))
  refine hK.out _ _ (hHeld170.next hb) (fun hHeld171 => ?_)
  replace hS3 := hS3.next hb
  (try replace za := za.below hb)
  (try replace zt := zt.below hb)
  clear hK K
  try clear hb
  try simp only [Act.put, List.setIfInBounds_toArray, List.set_cons_zero, List.set_cons_succ]
  refine wpAnyH_take (i := 9) (oi := ⟨some 7, _, _, _, _, _⟩) (v := ?_) rfl (by kernel_rfl) (by kernel_rfl) (by kernel_rfl) (fun _ _ _ h => h) (Or.inl ⟨by rfl, ?_⟩) (by assumption) ?_
  rotate_left
  · intro wq hSw; go_simp; (try with_reducible rfl)
  try simp only [Act.put, List.setIfInBounds_toArray, List.set_cons_zero, List.set_cons_succ]
  refine wpAnyH_take (i := 10) (oi := ⟨some 17, _, _, _, _, _⟩) (v := ?_) rfl (by kernel_rfl) (by kernel_rfl) (by kernel_rfl) (fun _ _ _ h => h) (Or.inl ⟨by rfl, ?_⟩) (by assumption) ?_
  rotate_left
  · intro wq hSw; go_simp; (try with_reducible rfl)
  try simp only [Act.put, List.setIfInBounds_toArray, List.set_cons_zero, List.set_cons_succ]
  refine wpAnyH_take (i := 11) (oi := ⟨some 18, _, _, _, _, _⟩) (v := ?_) rfl (by kernel_rfl) (by kernel_rfl) (by kernel_rfl) (fun _ _ _ h => h) (Or.inl ⟨by rfl, ?_⟩) (by assumption) ?_
  rotate_left
  · intro wq hSw; go_simp; (try with_reducible rfl)
  try simp only [Act.put, List.setIfInBounds_toArray, List.set_cons_zero, List.set_cons_succ]
  refine wpAnyH_ready (rs := [13]) (by kernel_rfl) (by simp) ?_
  refine AllReadyH.cons (o := ⟨some 4, _, _, _, _, _⟩) rfl (fun K hK => ?_) AllReadyH.nil
  have hne3_4 := hS3.2.1.1
  have lo4 := hHeld171.1.size
  obtain ⟨⟨a4_z0, a4_c0, a4_f0⟩, ⟨a4_z1, a4_c1, a4_f1⟩, _⟩ := hHeld171.2
  (try simp at lo4); (try simp at hne3_4); (try simp at a4_z0); (try simp at a4_z1)
  go_simp
  refine hK.out _ _ (by first | exact hHeld171.alloc _ | exact (hHeld171.alloc _).drew) (fun hHeld172 => ?_)
  first | replace hS3 := hS3.alloc2e hHeld172 | replace hS3 := hS3.alloc2 hHeld172
  (try replace zq := zq.alloc2 hHeld172)
  first | have hS4 := newK2 hHeld172 | have hS4 := newK2d hHeld172
  clear hK K
  try clear hb
  try simp only [Act.put, List.setIfInBounds_toArray, List.set_cons_zero, List.set_cons_succ]
  generalize hGWA102 : World.alloc wd (.cells #[.bool false, .slice none 0 0] 81) = WA102 at *
  clear hGWA102
  refine wpAnyH_ready (rs := [14]) (by kernel_rfl) (by simp) ?_
  refine AllReadyH.cons (o := ⟨none, _, _, _, _, _⟩) rfl (fun K hK => ?_) AllReadyH.nil
  obtain ⟨⟨s3z0, s3c0, s3f0⟩, ⟨s3z1, s3c1, s3f1⟩, _⟩ := hS3.2
  go_simp
  refine hK.out _ _ (by (repeat (first | (with_reducible exact hHeld172) | (refine Keeps.set ?_ (by simp <;> omega) (by simp <;> omega) _)))) (fun hHeld173 => ?_)
  replace hS4 := hS4.mv2 hHeld173 (by first | omega | (simp <;> omega)) (by simp <;> omega)
  (try replace zq := zq.store2 hHeld173 s3c0 s3c1)
  replace hS3 := hHeld173.add2 s3z0 s3c0 s3f0 s3c1 s3f1
  clear s3z0 s3c0 s3f0 s3z1 s3c1 s3f1
  clear hK K
  try clear hb
  try simp only [Act.put, List.setIfInBounds_toArray, List.set_cons_zero, List.set_cons_succ]
  generalize hGWA103 : World.setCell (World.setCell WA102 ⟨wi.heap.size, 0, none⟩ (.bool bq)) ⟨wi.heap.size, 1, none⟩ (.slice Aq nq cq) = WA103 at *
  clear hGWA103
  refine wpAnyH_ready (rs := [15]) (by kernel_rfl) (by simp) ?_
  refine AllReadyH.cons (o := ⟨none, _, _, _, _, _⟩) rfl (fun K hK => ?_) AllReadyH.nil
  obtain ⟨⟨s4z0, s4c0, s4f0⟩, ⟨s4z1, s4c1, s4f1⟩, _⟩ := hS4.2
  go_simp
  refine hK.out _ _ (by (repeat (first | (with_reducible exact hHeld173) | (refine Keeps.set ?_ (by simp <;> omega) (by simp <;> omega) _)))) (fun hHeld174 => ?_)
  replace hS3 := hS3.mv2 hHeld174 (by first | omega | (simp <;> omega)) (by simp <;> omega)
  (try replace zq := zq.store2 hHeld174 s4c0 s4c1)
  replace hS4 := hHeld174.add2 s4z0 s4c0 s4f0 s4c1 s4f1
  clear s4z0 s4c0 s4f0 s4z1 s4c1 s4f1
  clear hK K
  try clear hb
  try simp only [Act.put, List.setIfInBounds_toArray, List.set_cons_zero, List.set_cons_succ]
  generalize hGWA104 : World.setCell (World.setCell WA103 ⟨wd.heap.size, 0, none⟩ (.bool br)) ⟨wd.heap.size, 1, none⟩ (.slice Ar nr cr) = WA104 at *
  clear hGWA104
  refine wpAnyH_done (by kernel_rfl) ?_ _
  have hHeld := hHeld174
  rotate_left 1
  refine AllReadyH.cons (o := ⟨some 4, _, _, _, _, _⟩) rfl (fun K hK => ?_) ?_
  have hne3_4 := hS3.2.1.1
  have lo4 := hHeld170.1.size
  obtain ⟨⟨a4_z0, a4_c0, a4_f0⟩, ⟨a4_z1, a4_c1, a4_f1⟩, _⟩ := hHeld170.2
  (try simp at lo4); (try simp at hne3_4); (try simp at a4_z0); (try simp at a4_z1)
  go_simp
  refine hK.out _ _ (by first | exact hHeld170.alloc _ | exact (hHeld170.alloc _).drew) (fun hHeld175 => ?_)
  first | replace hS3 := hS3.alloc2e hHeld175 | replace hS3 := hS3.alloc2 hHeld175
  (try replace za := za.alloc2 hHeld175)
  (try replace zt := zt.alloc2 hHeld175)
  first | have hS4 := newK2 hHeld175 | have hS4 := newK2d hHeld175
  clear hK K
  try clear hb
  try simp only [Act.put, List.setIfInBounds_toArray, List.set_cons_zero, List.set_cons_succ]
  generalize hGWA105 : World.alloc wt (.cells #[.bool false, .slice none 0 0] 81) = WA105 at *
  clear hGWA105
  refine wpAnyH_ready (rs := [8]) (by kernel_rfl) (by simp) ?_
  refine AllReadyH.cons (o := ⟨some 16, _, _, _, _, _⟩) rfl (fun K hK => ?_) AllReadyH.nil
  go_simp
  (first | ((with_reducible refine (IL.out _).mono ?_); rintro e wl ⟨bl, Al, nl, cl, rfl, hb, zl⟩) | ((with_reducible refine (IH.out _).mono ?_); rintro e wh ⟨bh, Ah, nh, ch, rfl, hb, zh⟩) | ((with_reducible refine (AD.out _ _ _ zl zh).mono ?_); rintro e wa ⟨ba, Aa, na, ca, rfl, hb, za⟩) | ((with_reducible refine (I2.out _).mono ?_); rintro e wt ⟨bt, At, nt, ct, rfl, hb, zt⟩) | ((with_reducible refine (DV.out _ _ _ za zt).mono ?_); rintro e wd ⟨bq, Aq, nq, cq, br, Ar, nr, cr, rfl, hb, zq, zr⟩))
  refine hK.out _ _ (hHeld175.next hb) (fun hHeld176 => ?_)
  replace hS3 := hS3.next hb
  replace hS4 := hS4.next hb
  (try replace za := za.below hb)
  (try replace zt := zt.below hb)
  clear hK K
  try clear hb
  try simp only [Act.put, List.setIfInBounds_toArray, List.set_cons_zero, List.set_cons_succ]
  refine wpAnyH_take (i := 9) (oi := ⟨some 7, _, _, _, _, _⟩) (v := ?_) rfl (by kernel_rfl) (by kernel_rfl) (by kernel_rfl) (fun _ _ _ h => h) (Or.inl ⟨by rfl, ?_⟩) (by assumption) ?_
  rotate_left
  · intro wq hSw; go_simp; (try with_reducible rfl)
  try simp only [Act.put, List.setIfInBounds_toArray, List.set_cons_zero, List.set_cons_succ]
  refine wpAnyH_take (i := 10) (oi := ⟨some 17, _, _, _, _, _⟩) (v := ?_) rfl (by kernel_rfl) (by kernel_rfl) (by kernel_rfl) (fun _ _ _ h => h) (Or.inl ⟨by rfl, ?_⟩) (by assumption) ?_
  rotate_left
  · intro wq hSw; go_simp; (try with_reducible rfl)
  try simp only [Act.put, List.setIfInBounds_toArray, List.set_cons_zero, List.set_cons_succ]
  refine wpAnyH_take (i := 11) (oi := ⟨some 18, _, _, _, _, _⟩) (v := ?_) rfl (by kernel_rfl) (by kernel_rfl) (by kernel_rfl) (fun _ _ _ h => h) (Or.inl ⟨by rfl, ?_⟩) (by assumption) ?_
  rotate_left
  · intro wq hSw; go_simp; (try with_reducible rfl)
  try simp only [Act.put, List.setIfInBounds_toArray, List.set_cons_zero, List.set_cons_succ]
  refine wpAnyH_ready (rs := [14]) (by kernel_rfl) (by simp) ?_
  refine AllReadyH.cons (o := ⟨none, _, _, _, _, _⟩) rfl (fun K hK => ?_) AllReadyH.nil
  obtain ⟨⟨s3z0, s3c0, s3f0⟩, ⟨s3z1, s3c1, s3f1⟩, _⟩ := hS3.2
  go_simp
  refine hK.out _ _ (by (repeat (first | (with_reducible exact hHeld176) | (refine Keeps.set ?_ (by simp <;> omega) (by simp <;> omega) _)))) (fun hHeld177 => ?_)
  replace hS4 := hS4.mv2 hHeld177 (by first | omega | (simp <;> omega)) (by simp <;> omega)
  (try replace zq := zq.store2 hHeld177 s3c0 s3c1)
  replace hS3 := hHeld177.add2 s3z0 s3c0 s3f0 s3c1 s3f1
  clear s3z0 s3c0 s3f0 s3z1 s3c1 s3f1
  clear hK K
  try clear hb
  try simp only [Act.put, List.setIfInBounds_toArray, List.set_cons_zero, List.set_cons_succ]
  generalize hGWA106 : World.setCell (World.setCell wd ⟨wi.heap.size, 0, none⟩ (.bool bq)) ⟨wi.heap.size, 1, none⟩ (.slice Aq nq cq) = WA106 at *
  clear hGWA106
  refine wpAnyH_ready (rs := [15]) (by kernel_rfl) (by simp) ?_
  refine AllReadyH.cons (o := ⟨none, _, _, _, _, _⟩) rfl (fun K hK => ?_) AllReadyH.nil
  obtain ⟨⟨s4z0, s4c0, s4f0⟩, ⟨s4z1, s4c1, s4f1⟩, _⟩ := hS4.2
  go_simp
  refine hK.out _ _ (by (repeat (first | (with_reducible exact hHeld177) | (refine Keeps.set ?_ (by simp <;> omega) (by simp <;> omega) _)))) (fun hHeld178 => ?_)
  replace hS3 := hS3.mv2 hHeld178 (by first | omega | (simp <;> omega)) (by simp <;> omega)
  (try replace zq := zq.store2 hHeld178 s4c0 s4c1)
  replace hS4 := hHeld178.add2 s4z0 s4c0 s4f0 s4c1 s4f1
  clear s4z0 s4c0 s4f0 s4z1 s4c1 s4f1
  clear hK K
  try clear hb
  try simp only [Act.put, List.setIfInBounds_toArray, List.set_cons_zero, List.set_cons_succ]
  generalize hGWA107 : World.setCell (World.setCell WA106 ⟨wt.heap.size, 0, none⟩ (.bool br)) ⟨wt.heap.size, 1, none⟩ (.slice Ar nr cr) = WA107 at *
  clear hGWA107
  refine wpAnyH_done (by kernel_rfl) ?_ _
  have hHeld := hHeld178
  rotate_left 1
  exact AllReadyH.nil
  refine AllReadyH.cons (o := ⟨some 4, _, _, _, _, _⟩) rfl (fun K hK => ?_) ?_
  have hne3_4 := hS3.2.1.1
  have lo4 := hHeld169.1.size
  obtain ⟨⟨a4_z0, a4_c0, a4_f0⟩, ⟨a4_z1, a4_c1, a4_f1⟩, _⟩ := hHeld169.2
  (try simp at lo4); (try simp at hne3_4); (try simp at a4_z0); (try simp at a4_z1)
  go_simp
  refine hK.out _ _ (by first | exact hHeld169.alloc _ | exact (hHeld169.alloc _).drew) (fun hHeld179 => ?_)
  first | replace hS3 := hS3.alloc2e hHeld179 | replace hS3 := hS3.alloc2 hHeld179
  (try replace za := za.alloc2 hHeld179)
  first | have hS4 := newK2 hHeld179 | have hS4 := newK2d hHeld179
  clear hK K
  try clear hb
  try simp only [Act.put, List.setIfInBounds_toArray, List.set_cons_zero, List.set_cons_succ]
  generalize hGWA108 : World.alloc wa (.cells #[.bool false, .slice none 0 0] 81) = WA108 at *
  clear hGWA108
  refine wpAnyH_ready (rs := [7]) (by kernel_rfl) (by simp) ?_
  refine AllReadyH.cons (o := ⟨some 15, _, _, _, _, _⟩) rfl (fun K hK => ?_) AllReadyH.nil
  go_simp
  (first | ((with_reducible refine (IL.out _).mono ?_); rintro e wl ⟨bl, Al, nl, cl, rfl, hb, zl⟩) | ((with_reducible refine (IH.out _).mono ?_); rintro e wh ⟨bh, Ah, nh, ch, rfl, hb, zh⟩) | ((with_reducible refine (AD.out _ _ _ zl zh).mono ?_); rintro e wa ⟨ba, Aa, na, ca, rfl, hb, za⟩) | ((with_reducible refine (I2.out _).mono ?_); rintro e wt ⟨bt, At, nt, ct, rfl, hb, zt⟩) | ((with_reducible refine (DV.out _ _ _ za zt).mono ?_); rintro e wd ⟨bq, Aq, nq, cq, br, Ar, nr, cr, rfl, hb, zq, zr⟩))
  refine hK.out _ _ (hHeld179.next hb) (fun hHeld180 => ?_)
  replace hS3 := hS3.next hb
  replace hS4 := hS4.next hb
  (try replace za := za.below hb)
  clear hK K
  try clear hb
  try simp only [Act.put, List.setIfInBounds_toArray, List.set_cons_zero, List.set_cons_succ]
  refine wpAnyH_ready (rs := [8]) (by kernel_rfl) (by simp) ?_
  refine AllReadyH.cons (o := ⟨some 16, _, _, _, _, _⟩) rfl (fun K hK => ?_) AllReadyH.nil
  go_simp
  (first | ((with_reducible refine (IL.out _).mono ?_); rintro e wl ⟨bl, Al, nl, cl, rfl, hb, zl⟩) | ((with_reducible refine (IH.out _).mono ?_); rintro e wh ⟨bh, Ah, nh, ch, rfl, hb, zh⟩) | ((with_reducible refine (AD.out _ _ _ zl zh).mono ?_); rintro e wa ⟨ba, Aa, na, ca, rfl, hb, za⟩) | ((with_reducible refine (I2.out _).mono ?_); rintro e wt ⟨bt, At, nt, ct, rfl, hb, zt⟩) | ((with_reducible refine (DV.out _ _ _ za zt).mono ?_); rintro e wd ⟨bq, Aq, nq, cq, br, Ar, nr, cr, rfl, hb, zq, zr⟩))
  refine hK.out _ _ (hHeld180.next hb) (fun hHeld181 => ?_)
  replace hS3 := hS3.next hb
  replace hS4 := hS4.next hb
  (try replace za := za.below hb)
  (try replace zt := zt.below hb)
  clear hK K
  try clear hb
  try simp only [Act.put, List.setIfInBounds_toArray, List.set_cons_zero, List.set_cons_succ]
  refine wpAnyH_take (i := 9) (oi := ⟨some 7, _, _, _, _, _⟩) (v := ?_) rfl (by kernel_rfl) (by kernel_rfl) (by kernel_rfl) (fun _ _ _ h => h) (Or.inl ⟨by rfl, ?_⟩) (by assumption) ?_
  rotate_left
  · intro wq hSw; go_simp; (try with_reducible rfl)
  try simp only [Act.put, List.setIfInBounds_toArray, List.set_cons_zero, List.set_cons_succ]
  refine wpAnyH_take (i := 10) (oi := ⟨some 17, _, _, _, _, _⟩) (v := ?_) rfl (by kernel_rfl) (by kernel_rfl) (by kernel_rfl) (fun _ _ _ h => h) (Or.inl ⟨by rfl, ?_⟩) (by assumption) ?_
  rotate_left
  · intro wq hSw; go_simp; (try with_reducible rfl)
  try simp only [Act.put, List.setIfInBounds_toArray, List.set_cons_zero, List.set_cons_succ]
  refine wpAnyH_take (i := 11) (oi := ⟨some 18, _, _, _, _, _⟩) (v := ?_) rfl (by kernel_rfl) (by kernel_rfl) (by kernel_rfl) (fun _ _ _ h => h) (Or.inl ⟨by rfl, ?_⟩) (by assumption) ?_
  rotate_left
  · intro wq hSw; go_simp; (try with_reducible rfl)
  try simp only [Act.put, List.setIfInBounds_toArray, List.set_cons_zero, List.set_cons_succ]
  refine wpAnyH_ready (rs := [14]) (by kernel_rfl) (by simp) ?_
  refine AllReadyH.cons (o := ⟨none, _, _, _, _, _⟩) rfl (fun K hK => ?_) AllReadyH.nil
  obtain ⟨⟨s3z0, s3c0, s3f0⟩, ⟨s3z1, s3c1, s3f1⟩, _⟩ := hS3.2
  go_simp
  refine hK.out _ _ (by (repeat (first | (with_reducible exact hHeld181) | (refine Keeps.set ?_ (by simp <;> omega) (by simp <;> omega) _)))) (fun hHeld182 => ?_)
  replace hS4 := hS4.mv2 hHeld182 (by first | omega | (simp <;> omega)) (by simp <;> omega)
  (try replace zq := zq.store2 hHeld182 s3c0 s3c1)
  replace hS3 := hHeld182.add2 s3z0 s3c0 s3f0 s3c1 s3f1
  clear s3z0 s3c0 s3f0 s3z1 s3c1 s3f1
  clear hK K
  try clear hb
  try simp only [Act.put, List.setIfInBounds_toArray, List.set_cons_zero, List.set_cons_succ]
  generalize hGWA109 : World.setCell (World.setCell wd ⟨wi.heap.size, 0, none⟩ (.bool bq)) ⟨wi.heap.size, 1, none⟩ (.slice Aq nq cq) = WA109 at *
  clear hGWA109
  refine wpAnyH_ready (rs := [15]) (by kernel_rfl) (by simp) ?_
  refine AllReadyH.cons (o := ⟨none, _, _, _, _, _⟩) rfl (fun K hK => ?_) AllReadyH.nil
  obtain ⟨⟨s4z0, s4c0, s4f0⟩, ⟨s4z1, s4c1, s4f1⟩, _⟩ := hS4.2
  go_simp
  refine hK.out _ _ (by (repeat (first | (with_reducible exact hHeld182) | (refine Keeps.set ?_ (by simp <;> omega) (by simp <;> omega) _)))) (fun hHeld183 => ?_)
  replace hS3 := hS3.mv2 hHeld183 (by first | omega | (simp <;> omega)) (by simp <;> omega)
  (try replace zq := zq.store2 hHeld183 s4c0 s4c1)
  replace hS4 := hHeld183.add2 s4z0 s4c0 s4f0 s4c1 s4f1
  clear s4z0 s4c0 s4f0 s4z1 s4c1 s4f1
  clear hK K
  try clear hb
  try simp only [Act.put, List.setIfInBounds_toArray, List.set_cons_zero, List.set_cons_succ]
  generalize hGWA110 : World.setCell (World.setCell WA109 ⟨wa.heap.size, 0, none⟩ (.bool br)) ⟨wa.heap.size, 1, none⟩ (.slice Ar nr cr) = WA110 at *
  clear hGWA110
  refine wpAnyH_done (by kernel_rfl) ?_ _
  have hHeld := hHeld183
  rotate_left 1
  exact AllReadyH.nil
  refine AllReadyH.cons (o := ⟨some 4, _, _, _, _, _⟩) rfl (fun K hK => ?_) ?_
  have hne3_4 := hS3.2.1.1
  have lo4 := hHeld168.1.size
  obtain ⟨⟨a4_z0, a4_c0, a4_f0⟩, ⟨a4_z1, a4_c1, a4_f1⟩, _⟩ := hHeld168.2
  (try simp at lo4); (try simp at hne3_4); (try simp at a4_z0); (try simp at a4_z1)
  go_simp
  refine hK.out _ _ (by first | exact hHeld168.alloc _ | exact (hHeld168.alloc _).drew) (fun hHeld184 => ?_)
  first | replace hS3 := hS3.alloc2e hHeld184 | replace hS3 := hS3.alloc2 hHeld184
  (try replace zl := zl.alloc2 hHeld184)
  (try replace zh := zh.alloc2 hHeld184)
  first | have hS4 := newK2 hHeld184 | have hS4 := newK2d hHeld184
  clear hK K
  try clear hb
  try simp only [Act.put, List.setIfInBounds_toArray, List.set_cons_zero, List.set_cons_succ]
  generalize hGWA111 : World.alloc wh (.cells #[.bool false, .slice none 0 0] 81) = WA111 at *
  clear hGWA111
  refine wpAnyH_ready (rs := [6]) (by kernel_rfl) (by simp) ?_
  refine AllReadyH.cons (o := ⟨some 14, _, _, _, _, _⟩) rfl (fun K hK => ?_) AllReadyH.nil
  go_simp
  (first | ((with_reducible refine (IL.out _).mono ?_); rintro e wl ⟨bl, Al, nl, cl, rfl, hb, zl⟩) | ((with_reducible refine (IH.out _).mono ?_); rintro e wh ⟨bh, Ah, nh, ch, rfl, hb, zh⟩) | ((with_reducible refine (AD.out _ _ _ zl zh).mono ?_); rintro e wa ⟨ba, Aa, na, ca, rfl, hb, za⟩) | ((with_reducible refine (I2.out _).mono ?_); rintro e wt ⟨bt, At, nt, ct, rfl, hb, zt⟩) | ((with_reducible refine (DV.out _ _ _ za zt).mono ?_); rintro e wd ⟨bq, Aq, nq, cq, br, Ar, nr, cr, rfl, hb, zq, zr⟩))
  refine hK.out _ _ (hHeld184.next hb) (fun hHeld185 => ?_)
  replace hS3 := hS3.next hb
  replace hS4 := hS4.next hb
  (try replace zl := zl.below hb)
  (try replace zh := zh.below hb)
  clear hK K
  try clear hb
  try simp only [Act.put, List.setIfInBounds_toArray, List.set_cons_zero, List.set_cons_succ]
  refine wpAnyH_ready (rs := [7]) (by kernel_rfl) (by simp) ?_
  refine AllReadyH.cons (o := ⟨some 15, _, _, _, _, _⟩) rfl (fun K hK => ?_) AllReadyH.nil
  go_simp
  (first | ((with_reducible refine (IL.out _).mono ?_); rintro e wl ⟨bl, Al, nl, cl, rfl, hb, zl⟩) | ((with_reducible refine (IH.out _).mono ?_); rintro e wh ⟨bh, Ah, nh, ch, rfl, hb, zh⟩) | ((with_reducible refine (AD.out _ _ _ zl zh).mono ?_); rintro e wa ⟨ba, Aa, na, ca, rfl, hb, za⟩) | ((with_reducible refine (I2.out _).mono ?_); rintro e wt ⟨bt, At, nt, ct, rfl, hb, zt⟩) | ((with_reducible refine (DV.out _ _ _ za zt).mono ?_); rintro e wd ⟨bq, Aq, nq, cq, br, Ar, nr, cr, rfl, hb, zq, zr⟩))
  refine hK.out _ _ (hHeld185.next hb) (fun hHeld186 => ?_)
  replace hS3 := hS3.next hb
  replace hS4 := hS4.next hb
  (try replace za := za.below hb)
  clear hK K
  try clear hb
  try simp only [Act.put, List.setIfInBounds_toArray, List.set_cons_zero, List.set_cons_succ]
  refine wpAnyH_ready (rs := [8]) (by kernel_rfl) (by simp) ?_
  refine AllReadyH.cons (o := ⟨some 16, _, _, _, _, _⟩) rfl (fun K hK => ?_) AllReadyH.nil
  go_simp
  (first | ((with_reducible refine (IL.out _).mono ?_); rintro e wl ⟨bl, Al, nl, cl, rfl, hb, zl⟩) | ((with_reducible refine (IH.out _).mono ?_); rintro e wh ⟨bh, Ah, nh, ch, rfl, hb, zh⟩) | ((with_reducible refine (AD.out _ _ _ zl zh).mono ?_); rintro e wa ⟨ba, Aa, na, ca, rfl, hb, za⟩) | ((with_reducible refine (I2.out _).mono ?_); rintro e wt ⟨bt, At, nt, ct, rfl, hb, zt⟩) | ((with_reducible refine (DV.out _ _ _ za zt).mono ?_); rintro e wd ⟨bq, Aq, nq, cq, br, Ar, nr, cr, rfl, hb, zq, zr⟩))
  refine hK.out _ _ (hHeld186.next hb) (fun hHeld187 => ?_)
  replace hS3 := hS3.next hb
  replace hS4 := hS4.next hb
  (try replace za := za.below hb)
  (try replace zt := zt.below hb)
  clear hK K
  try clear hb
  try simp only [Act.put, List.setIfInBounds_toArray, List.set_cons_zero, List.set_cons_succ]
  refine wpAnyH_take (i := 9) (oi := ⟨some 7, _, _, _, _, _⟩) (v := ?_) rfl (by kernel_rfl) (by kernel_rfl) (by kernel_rfl) (fun _ _ _ h => h) (Or.inl ⟨by rfl, ?_⟩) (by assumption) ?_
  rotate_left
  · intro wq hSw; go_simp; (try with_reducible rfl)
  try simp only [Act.put, List.setIfInBounds_toArray, List.set_cons_zero, List.set_cons_succ]
  refine wpAnyH_take (i := 10) (oi := ⟨some 17, _, _, _, _, _⟩) (v := ?_) rfl (by kernel_rfl) (by kernel_rfl) (by kernel_rfl) (fun _ _ _ h => h) (Or.inl ⟨by rfl, ?_⟩) (by assumption) ?_
  rotate_left
  · intro wq hSw; go_simp; (try with_reducible rfl)
  try simp only [Act.put, List.setIfInBounds_toArray, List.set_cons_zero, List.set_cons_succ]
  refine wpAnyH_take (i := 11) (oi := ⟨some 18, _, _, _, _, _⟩) (v := ?_) rfl (by kernel_rfl) (by kernel_rfl) (by kernel_rfl) (fun _ _ _ h => h) (Or.inl ⟨by rfl, ?_⟩) (by assumption) ?_
  rotate_left
  · intro wq hSw; go_simp; (try with_reducible rfl)
  try simp only [Act.put, List.setIfInBounds_toArray, List.set_cons_zero, List.set_cons_succ]
  refine wpAnyH_ready (rs := [14]) (by kernel_rfl) (by simp) ?_
  refine AllReadyH.cons (o := ⟨none, _, _, _, _, _⟩) rfl (fun K hK => ?_) AllReadyH.nil
  obtain ⟨⟨s3z0, s3c0, s3f0⟩, ⟨s3z1, s3c1, s3f1⟩, _⟩ := hS3.2
  go_simp
  refine hK.out _ _ (by (repeat (first | (with_reducible exact hHeld187) | (refine Keeps.set ?_ (by simp <;> omega) (by simp <;> omega) _)))) (fun hHeld188 => ?_)
  replace hS4 := hS4.mv2 hHeld188 (by first | omega | (simp <;> omega)) (by simp <;> omega)
  (try replace zq := zq.store2 hHeld188 s3c0 s3c1)
  replace hS3 := hHeld188.add2 s3z0 s3c0 s3f0 s3c1 s3f1
  clear s3z0 s3c0 s3f0 s3z1 s3c1 s3f1
  clear hK K
  try clear hb
  try simp only [Act.put, List.setIfInBounds_toArray, List.set_cons_zero, List.set_cons_succ]
  generalize hGWA112 : World.setCell (World.setCell wd ⟨wi.heap.size, 0, none⟩ (.bool bq)) ⟨wi.heap.size, 1, none⟩ (.slice Aq nq cq) = WA112 at *
  clear hGWA112
  refine wpAnyH_ready (rs := [15]) (by kernel_rfl) (by simp) ?_
  refine AllReadyH.cons (o := ⟨none, _, _, _, _, _⟩) rfl (fun K hK => ?_) AllReadyH.nil
  obtain ⟨⟨s4z0, s4c0, s4f0⟩, ⟨s4z1, s4c1, s4f1⟩, _⟩ := hS4.2
  go_simp
  refine hK.out _ _ (by (repeat (first | (with_reducible exact hHeld188) | (refine Keeps.set ?_ (by simp <;> omega) (by simp <;> omega) _)))) (fun hHeld189 => ?_)
  replace hS3 := hS3.mv2 hHeld189 (by first | omega | (simp <;> omega)) (by simp <;> omega)
  (try replace zq := zq.store2 hHeld189 s4c0 s4c1)
  replace hS4 := hHeld189.add2 s4z0 s4c0 s4f0 s4c1 s4f1
  clear s4z0 s4c0 s4f0 s4z1 s4c1 s4f1
  clear hK K
  try clear hb
  try simp only [Act.put, List.setIfInBounds_toArray, List.set_cons_zero, List.set_cons_succ]
  generalize hGWA113 : World.setCell (World.setCell WA112 ⟨wh.heap.size, 0, none⟩ (.bool br)) ⟨wh.heap.size, 1, none⟩ (.slice Ar nr cr) = WA113 at *
  clear hGWA113
  refine wpAnyH_done (by kernel_rfl) ?_ _
  have hHeld := hHeld189
  rotate_left 1
  exact AllReadyH.nil
  refine AllReadyH.cons (o := ⟨some 4, _, _, _, _, _⟩) rfl (fun K hK => ?_) ?_
  have hne3_4 := hS3.2.1.1
  have lo4 := hHeld167.1.size
  obtain ⟨⟨a4_z0, a4_c0, a4_f0⟩, ⟨a4_z1, a4_c1, a4_f1⟩, _⟩ := hHeld167.2
  (try simp at lo4); (try simp at hne3_4); (try simp at a4_z0); (try simp at a4_z1)
  go_simp
  refine hK.out _ _ (by first | exact hHeld167.alloc _ | exact (hHeld167.alloc _).drew) (fun hHeld190 => ?_)
  first | replace hS3 := hS3.alloc2e hHeld190 | replace hS3 := hS3.alloc2 hHeld190
  (try replace zl := zl.alloc2 hHeld190)
  first | have hS4 := newK2 hHeld190 | have hS4 := newK2d hHeld190
  clear hK K
  try clear hb
  try simp only [Act.put, List.setIfInBounds_toArray, List.set_cons_zero, List.set_cons_succ]
  generalize hGWA114 : World.alloc wl (.cells #[.bool false, .slice none 0 0] 81) = WA114 at *
  clear hGWA114
  refine wpAnyH_ready (rs := [5]) (by kernel_rfl) (by simp) ?_
  refine AllReadyH.cons (o := ⟨some 13, _, _, _, _, _⟩) rfl (fun K hK => ?_) AllReadyH.nil
  go_simp
  (first | ((with_reducible refine (IL.out _).mono ?_); rintro e wl ⟨bl, Al, nl, cl, rfl, hb, zl⟩) | ((with_reducible refine (IH.out _).mono ?_); rintro e wh ⟨bh, Ah, nh, ch, rfl, hb, zh⟩) | ((with_reducible refine (AD.out _ _ _ zl zh).mono ?_); rintro e wa ⟨ba, Aa, na, ca, rfl, hb, za⟩) | ((with_reducible refine (I2.out _).mono ?_); rintro e wt ⟨bt, At, nt, ct, rfl, hb, zt⟩) | ((with_reducible refine (DV.out _ _ _ za zt).mono ?_); rintro e wd ⟨bq, Aq, nq, cq, br, Ar, nr, cr, rfl, hb, zq, zr⟩))
  refine hK.out _ _ (hHeld190.next hb) (fun hHeld191 => ?_)
  replace hS3 := hS3.next hb
  replace hS4 := hS4.next hb
  (try replace zl := zl.below hb)
  clear hK K
  try clear hb
  try simp only [Act.put, List.setIfInBounds_toArray, List.set_cons_zero, List.set_cons_succ]
  refine wpAnyH_ready (rs := [6]) (by kernel_rfl) (by simp) ?_
  refine AllReadyH.cons (o := ⟨some 14, _, _, _, _, _⟩) rfl (fun K hK => ?_) AllReadyH.nil
  go_simp
  (first | ((with_reducible refine (IL.out _).mono ?_); rintro e wl ⟨bl, Al, nl, cl, rfl, hb, zl⟩) | ((with_reducible refine (IH.out _).mono ?_); rintro e wh ⟨bh, Ah, nh, ch, rfl, hb, zh⟩) | ((with_reducible refine (AD.out _ _ _ zl zh).mono ?_); rintro e wa ⟨ba, Aa, na, ca, rfl, hb, za⟩) | ((with_reducible refine (I2.out _).mono ?_); rintro e wt ⟨bt, At, nt, ct, rfl, hb, zt⟩) | ((with_reducible refine (DV.out _ _ _ za zt).mono ?_); rintro e wd ⟨bq, Aq, nq, cq, br, Ar, nr, cr, rfl, hb, zq, zr⟩))
  refine hK.out _ _ (hHeld191.next hb) (fun hHeld192 => ?_)
  replace hS3 := hS3.next hb
  replace hS4 := hS4.next hb
  (try replace zl := zl.below hb)
  (try replace zh := zh.below hb)
  clear hK K
  try clear hb
  try simp only [Act.put, List.setIfInBounds_toArray, List.set_cons_zero, List.set_cons_succ]
  refine wpAnyH_ready (rs := [7]) (by kernel_rfl) (by simp) ?_
  refine AllReadyH.cons (o := ⟨some 15, _, _, _, _, _⟩) rfl (fun K hK => ?_) AllReadyH.nil
  go_simp
  (first | ((with_reducible refine (IL.out _).mono ?_); rintro e wl ⟨bl, Al, nl, cl, rfl, hb, zl⟩) | ((with_reducible refine (IH.out _).mono ?_); rintro e wh ⟨bh, Ah, nh, ch, rfl, hb, zh⟩) | ((with_reducible refine (AD.out _ _ _ zl zh).mono ?_); rintro e wa ⟨ba, Aa, na, ca, rfl, hb, za⟩) | ((with_reducible refine (I2.out _).mono ?_); rintro e wt ⟨bt, At, nt, ct, rfl, hb, zt⟩) | ((with_reducible refine (DV.out _ _ _ za zt).mono ?_); rintro e wd ⟨bq, Aq, nq, cq, br, Ar, nr, cr, rfl, hb, zq, zr⟩))
  refine hK.out _ _ (hHeld192.next hb) (fun hHeld193 => ?_)
  replace hS3 := hS3.next hb
  replace hS4 := hS4.next hb
  (try replace za := za.below hb)
  clear hK K
  try clear hb
  try simp only [Act.put, List.setIfInBounds_toArray, List.set_cons_zero, List.set_cons_succ]
  refine wpAnyH_ready (rs := [8]) (by kernel_rfl) (by simp) ?_
  refine AllReadyH.cons (o := ⟨some 16, _, _, _, _, _⟩) rfl (fun K hK => ?_) AllReadyH.nil
  go_simp
  (first | ((with_reducible refine (IL.out _).mono ?_); rintro e wl ⟨bl, Al, nl, cl, rfl, hb, zl⟩) | ((with_reducible refine (IH.out _).mono ?_); rintro e wh ⟨bh, Ah, nh, ch, rfl, hb, zh⟩) | ((with_reducible refine (AD.out _ _ _ zl zh).mono ?_); rintro e wa ⟨ba, Aa, na, ca, rfl, hb, za⟩) | ((with_reducible refine (I2.out _).mono ?_); rintro e wt ⟨bt, At, nt, ct, rfl, hb, zt⟩) | ((with_reducible refine (DV.out _ _ _ za zt).mono ?_); rintro e wd ⟨bq, Aq, nq, cq, br, Ar, nr, cr, rfl, hb, zq, zr⟩))
  refine hK.out _ _ (hHeld193.next hb) (fun hHeld194 => ?_)
  replace hS3 := hS3.next hb
  replace hS4 := hS4.next hb
  (try replace za := za.below hb)
  (try replace zt := zt.below hb)
  clear hK K
  try clear hb
  try simp only [Act.put, List.setIfInBounds_toArray, List.set_cons_zero, List.set_cons_succ]
  refine wpAnyH_take (i := 9) (oi := ⟨some 7, _, _, _, _, _⟩) (v := ?_) rfl (by kernel_rfl) (by kernel_rfl) (by kernel_rfl) (fun _ _ _ h => h) (Or.inl ⟨by rfl, ?_⟩) (by assumption) ?_
  rotate_left
  · intro wq hSw; go_simp; (try with_reducible rfl)
  try simp only [Act.put, List.setIfInBounds_toArray, List.set_cons_zero, List.set_cons_succ]
  refine wpAnyH_take (i := 10) (oi := ⟨some 17, _, _, _, _, _⟩) (v := ?_) rfl (by kernel_rfl) (by kernel_rfl) (by kernel_rfl) (fun _ _ _ h => h) (Or.inl ⟨by rfl, ?_⟩) (by assumption) ?_
  rotate_left
  · intro wq hSw; go_simp; (try with_reducible rfl)
  try simp only [Act.put, List.setIfInBounds_toArray, List.set_cons_zero, List.set_cons_succ]
  refine wpAnyH_take (i := 11) (oi := ⟨some 18, _, _, _, _, _⟩) (v := ?_) rfl (by kernel_rfl) (by kernel_rfl) (by kernel_rfl) (fun _ _ _ h => h) (Or.inl ⟨by rfl, ?_⟩) (by assumption) ?_
  rotate_left
  · intro wq hSw; go_simp; (try with_reducible rfl)
  try simp only [Act.put, List.setIfInBounds_toArray, List.set_cons_zero, List.set_cons_succ]
  refine wpAnyH_ready (rs := [14]) (by kernel_rfl) (by simp) ?_
  refine AllReadyH.cons (o := ⟨none, _, _, _, _, _⟩) rfl (fun K hK => ?_) AllReadyH.nil
  obtain ⟨⟨s3z0, s3c0, s3f0⟩, ⟨s3z1, s3c1, s3f1⟩, _⟩ := hS3.2
  go_simp
  refine hK.out _ _ (by (repeat (first | (with_reducible exact hHeld194) | (refine Keeps.set ?_ (by simp <;> omega) (by simp <;> omega) _)))) (fun hHeld195 => ?_)
  replace hS4 := hS4.mv2 hHeld195 (by first | omega | (simp <;> omega)) (by simp <;> omega)
  (try replace zq := zq.store2 hHeld195 s3c0 s3c1)
  replace hS3 := hHeld195.add2 s3z0 s3c0 s3f0 s3c1 s3f1
  clear s3z0 s3c0 s3f0 s3z1 s3c1 s3f1
  clear hK K
  try clear hb
  try simp only [Act.put, List.setIfInBounds_toArray, List.set_cons_zero, List.set_cons_succ]
  generalize hGWA115 : World.setCell (World.setCell wd ⟨wi.heap.size, 0, none⟩ (.bool bq)) ⟨wi.heap.size, 1, none⟩ (.slice Aq nq cq) = WA115 at *
  clear hGWA115
  refine wpAnyH_ready (rs := [15]) (by kernel_rfl) (by simp) ?_
  refine AllReadyH.cons (o := ⟨none, _, _, _, _, _⟩) rfl (fun K hK => ?_) AllReadyH.nil
  obtain ⟨⟨s4z0, s4c0, s4f0⟩, ⟨s4z1, s4c1, s4f1⟩, _⟩ := hS4.2
  go_simp
  refine hK.out _ _ (by (repeat (first | (with_reducible exact hHeld195) | (refine Keeps.set ?_ (by simp <;> omega) (by simp <;> omega) _)))) (fun hHeld196 => ?_)
  replace hS3 := hS3.mv2 hHeld196 (by first | omega | (simp <;> omega)) (by simp <;> omega)
  (try replace zq := zq.store2 hHeld196 s4c0 s4c1)
  replace hS4 := hHeld196.add2 s4z0 s4c0 s4f0 s4c1 s4f1
  clear s4z0 s4c0 s4f0 s4z1 s4c1 s4f1
  clear hK K
  try clear hb
  try simp only [Act.put, List.setIfInBounds_toArray, List.set_cons_zero, List.set_cons_succ]
  generalize hGWA116 : World.setCell (World.setCell WA115 ⟨wl.heap.size, 0, none⟩ (.bool br)) ⟨wl.heap.size, 1, none⟩ (.slice Ar nr cr) = WA116 at *
  clear hGWA116
  refine wpAnyH_done (by kernel_rfl) ?_ _
  have hHeld := hHeld196
  rotate_left 1
  exact AllReadyH.nil
  refine AllReadyH.cons (o := ⟨some 4, _, _, _, _, _⟩) rfl (fun K hK => ?_) ?_
  have hne3_4 := hS3.2.1.1
  have lo4 := hHeld166.1.size
  obtain ⟨⟨a4_z0, a4_c0, a4_f0⟩, ⟨a4_z1, a4_c1, a4_f1⟩, _⟩ := hHeld166.2
  (try simp at lo4); (try simp at hne3_4); (try simp at a4_z0); (try simp at a4_z1)
  go_simp
  refine hK.out _ _ (by first | exact hHeld166.alloc _ | exact (hHeld166.alloc _).drew) (fun hHeld197 => ?_)
  first | replace hS3 := hS3.alloc2e hHeld197 | replace hS3 := hS3.alloc2 hHeld197
  first | have hS4 := newK2 hHeld197 | have hS4 := newK2d hHeld197
  clear hK K
  try clear hb
  try simp only [Act.put, List.setIfInBounds_toArray, List.set_cons_zero, List.set_cons_succ]
  generalize hGWA117 : World.alloc WA101 (.cells #[.bool false, .slice none 0 0] 81) = WA117 at *
  clear hGWA117
  refine wpAnyH_ready (rs := [2]) (by kernel_rfl) (by simp) ?_
  refine AllReadyH.cons (o := ⟨some 10, _, _, _, _, _⟩) rfl (fun K hK => ?_) AllReadyH.nil
  go_simp
  (first | ((with_reducible refine (IL.out _).mono ?_); rintro e wl ⟨bl, Al, nl, cl, rfl, hb, zl⟩) | ((with_reducible refine (IH.out _).mono ?_); rintro e wh ⟨bh, Ah, nh, ch, rfl, hb, zh⟩) | ((with_reducible refine (AD.out _ _ _ zl zh).mono ?_); rintro e wa ⟨ba, Aa, na, ca, rfl, hb, za⟩) | ((with_reducible refine (I2.out _).mono ?_); rintro e wt ⟨bt, At, nt, ct, rfl, hb, zt⟩) | ((with_reducible refine (DV.out _ _ _ za zt).mono ?_); rintro e wd ⟨bq, Aq, nq, cq, br, Ar, nr, cr, rfl, hb, zq, zr⟩))
  refine hK.out _ _ (hHeld197.next hb) (fun hHeld198 => ?_)
  replace hS3 := hS3.next hb
  replace hS4 := hS4.next hb
  clear hK K
  try clear hb
  try simp only [Act.put, List.setIfInBounds_toArray, List.set_cons_zero, List.set_cons_succ]
  refine wpAnyH_ready (rs := [5]) (by kernel_rfl) (by simp) ?_
  refine AllReadyH.cons (o := ⟨some 13, _, _, _, _, _⟩) rfl (fun K hK => ?_) AllReadyH.nil
  go_simp
  (first | ((with_reducible refine (IL.out _).mono ?_); rintro e wl ⟨bl, Al, nl, cl, rfl, hb, zl⟩) | ((with_reducible refine (IH.out _).mono ?_); rintro e wh ⟨bh, Ah, nh, ch, rfl, hb, zh⟩) | ((with_reducible refine (AD.out _ _ _ zl zh).mono ?_); rintro e wa ⟨ba, Aa, na, ca, rfl, hb, za⟩) | ((with_reducible refine (I2.out _).mono ?_); rintro e wt ⟨bt, At, nt, ct, rfl, hb, zt⟩) | ((with_reducible refine (DV.out _ _ _ za zt).mono ?_); rintro e wd ⟨bq, Aq, nq, cq, br, Ar, nr, cr, rfl, hb, zq, zr⟩))
  refine hK.out _ _ (hHeld198.next hb) (fun hHeld199 => ?_)
  replace hS3 := hS3.next hb
  replace hS4 := hS4.next hb
  (try replace zl := zl.below hb)
  clear hK K
  try clear hb
  try simp only [Act.put, List.setIfInBounds_toArray, List.set_cons_zero, List.set_cons_succ]
  refine wpAnyH_ready (rs := [6]) (by kernel_rfl) (by simp) ?_
  refine AllReadyH.cons (o := ⟨some 14, _, _, _, _, _⟩) rfl (fun K hK => ?_) AllReadyH.nil
  go_simp
  (first | ((with_reducible refine (IL.out _).mono ?_); rintro e wl ⟨bl, Al, nl, cl, rfl, hb, zl⟩) | ((with_reducible refine (IH.out _).mono ?_); rintro e wh ⟨bh, Ah, nh, ch, rfl, hb, zh⟩) | ((with_reducible refine (AD.out _ _ _ zl zh).mono ?_); rintro e wa ⟨ba, Aa, na, ca, rfl, hb, za⟩) | ((with_reducible refine (I2.out _).mono ?_); rintro e wt ⟨bt, At, nt, ct, rfl, hb, zt⟩) | ((with_reducible refine (DV.out _ _ _ za zt).mono ?_); rintro e wd ⟨bq, Aq, nq, cq, br, Ar, nr, cr, rfl, hb, zq, zr⟩))
  refine hK.out _ _ (hHeld199.next hb) (fun hHeld200 => ?_)
  replace hS3 := hS3.next hb
  replace hS4 := hS4.next hb
  (try replace zl := zl.below hb)
  (try replace zh := zh.below hb)
  clear hK K
  try clear hb
  try simp only [Act.put, List.setIfInBounds_toArray, List.set_cons_zero, List.set_cons_succ]
  refine wpAnyH_ready (rs := [7]) (by kernel_rfl) (by simp) ?_
  refine AllReadyH.cons (o := ⟨some 15, _, _, _, _, _⟩) rfl (fun K hK => ?_) AllReadyH.nil
  go_simp
  (first | ((with_reducible refine (IL.out _).mono ?_); rintro e wl ⟨bl, Al, nl, cl, rfl, hb, zl⟩) | ((with_reducible refine (IH.out _).mono ?_); rintro e wh ⟨bh, Ah, nh, ch, rfl, hb, zh⟩) | ((with_reducible refine (AD.out _ _ _ zl zh).mono ?_); rintro e wa ⟨ba, Aa, na, ca, rfl, hb, za⟩) | ((with_reducible refine (I2.out _).mono ?_); rintro e wt ⟨bt, At, nt, ct, rfl, hb, zt⟩) | ((with_reducible refine (DV.out _ _ _ za zt).mono ?_); rintro e wd ⟨bq, Aq, nq, cq, br, Ar, nr, cr, rfl, hb, zq, zr⟩))
  refine hK.out _ _ (hHeld200.next hb) (fun hHeld201 => ?_)
  replace hS3 := hS3.next hb
  replace hS4 := hS4.next hb
  (try replace za := za.below hb)
  clear hK K
  try clear hb
  try simp only [Act.put, List.setIfInBounds_toArray, List.set_cons_zero, List.set_cons_succ]
  refine wpAnyH_ready (rs := [8]) (by kernel_rfl) (by simp) ?_
  refine AllReadyH.cons (o := ⟨some 16, _, _, _, _, _⟩) rfl (fun K hK => ?_) AllReadyH.nil
  go_simp
  (first | ((with_reducible refine (IL.out _).mono ?_); rintro e wl ⟨bl, Al, nl, cl, rfl, hb, zl⟩) | ((with_reducible refine (IH.out _).mono ?_); rintro e wh ⟨bh, Ah, nh, ch, rfl, hb, zh⟩) | ((with_reducible refine (AD.out _ _ _ zl zh).mono ?_); rintro e wa ⟨ba, Aa, na, ca, rfl, hb, za⟩) | ((with_reducible refine (I2.out _).mono ?_); rintro e wt ⟨bt, At, nt, ct, rfl, hb, zt⟩) | ((with_reducible refine (DV.out _ _ _ za zt).mono ?_); rintro e wd ⟨bq, Aq, nq, cq, br, Ar, nr, cr, rfl, hb, zq, zr⟩))
  refine hK.out _ _ (hHeld201.next hb) (fun hHeld202 => ?_)
  replace hS3 := hS3.next hb
  replace hS4 := hS4.next hb
  (try replace za := za.below hb)
  (try replace zt := zt.below hb)
  clear hK K
  try clear hb
  try simp only [Act.put, List.setIfInBounds_toArray, List.set_cons_zero, List.set_cons_succ]
  refine wpAnyH_take (i := 9) (oi := ⟨some 7, _, _, _, _, _⟩) (v := ?_) rfl (by kernel_rfl) (by kernel_rfl) (by kernel_rfl) (fun _ _ _ h => h) (Or.inl ⟨by rfl, ?_⟩) (by assumption) ?_
  rotate_left
  · intro wq hSw; go_simp; (try with_reducible rfl)
  try simp only [Act.put, List.setIfInBounds_toArray, List.set_cons_zero, List.set_cons_succ]
  refine wpAnyH_take (i := 10) (oi := ⟨some 17, _, _, _, _, _⟩) (v := ?_) rfl (by kernel_rfl) (by kernel_rfl) (by kernel_rfl) (fun _ _ _ h => h) (Or.inl ⟨by rfl, ?_⟩) (by assumption) ?_
  rotate_left
  · intro wq hSw; go_simp; (try with_reducible rfl)
  try simp only [Act.put, List.setIfInBounds_toArray, List.set_cons_zero, List.set_cons_succ]
  refine wpAnyH_take (i := 11) (oi := ⟨some 18, _, _, _, _, _⟩) (v := ?_) rfl (by kernel_rfl) (by kernel_rfl) (by kernel_rfl) (fun _ _ _ h => h) (Or.inl ⟨by rfl, ?_⟩) (by assumption) ?_
  rotate_left
  · intro wq hSw; go_simp; (try with_reducible rfl)
  try simp only [Act.put, List.setIfInBounds_toArray, List.set_cons_zero, List.set_cons_succ]
  refine wpAnyH_ready (rs := [14]) (by kernel_rfl) (by simp) ?_
  refine AllReadyH.cons (o := ⟨none, _, _, _, _, _⟩) rfl (fun K hK => ?_) AllReadyH.nil
  obtain ⟨⟨s3z0, s3c0, s3f0⟩, ⟨s3z1, s3c1, s3f1⟩, _⟩ := hS3.2
  go_simp
  refine hK.out _ _ (by (repeat (first | (with_reducible exact hHeld202) | (refine Keeps.set ?_ (by simp <;> omega) (by simp <;> omega) _)))) (fun hHeld203 => ?_)
  replace hS4 := hS4.mv2 hHeld203 (by first | omega | (simp <;> omega)) (by simp <;> omega)
  (try replace zq := zq.store2 hHeld203 s3c0 s3c1)
  replace hS3 := hHeld203.add2 s3z0 s3c0 s3f0 s3c1 s3f1
  clear s3z0 s3c0 s3f0 s3z1 s3c1 s3f1
  clear hK K
  try clear hb
  try simp only [Act.put, List.setIfInBounds_toArray, List.set_cons_zero, List.set_cons_succ]
  generalize hGWA118 : World.setCell (World.setCell wd ⟨wi.heap.size, 0, none⟩ (.bool bq)) ⟨wi.heap.size, 1, none⟩ (.slice Aq nq cq) = WA118 at *
  clear hGWA118
  refine wpAnyH_ready (rs := [15]) (by kernel_rfl) (by simp) ?_
  refine AllReadyH.cons (o := ⟨none, _, _, _, _, _⟩) rfl (fun K hK => ?_) AllReadyH.nil
  obtain ⟨⟨s4z0, s4c0, s4f0⟩, ⟨s4z1, s4c1, s4f1⟩, _⟩ := hS4.2
  go_simp
  refine hK.out _ _ (by (repeat (first | (with_reducible exact hHeld203) | (refine Keeps.set ?_ (by simp <;> omega) (by simp <;> omega) _)))) (fun hHeld204 => ?_)
  replace hS3 := hS3.mv2 hHeld204 (by first | omega | (simp <;> omega)) (by simp <;> omega)
  (try replace zq := zq.store2 hHeld204 s4c0 s4c1)
  replace hS4 := hHeld204.add2 s4z0 s4c0 s4f0 s4c1 s4f1
  clear s4z0 s4c0 s4f0 s4z1 s4c1 s4f1
  clear hK K
  try clear hb
  try simp only [Act.put, List.setIfInBounds_toArray, List.set_cons_zero, List.set_cons_succ]
  generalize hGWA119 : World.setCell (World.setCell WA118 ⟨WA101.heap.size, 0, none⟩ (.bool br)) ⟨WA101.heap.size, 1, none⟩ (.slice Ar nr cr) = WA119 at *
  clear hGWA119
  refine wpAnyH_done (by kernel_rfl) ?_ _
  have hHeld := hHeld204
  rotate_left 1
  exact AllReadyH.nil
  refine AllReadyH.cons (o := ⟨some 4, _, _, _, _, _⟩) rfl (fun K hK => ?_) ?_
  have lo4 := hHeld0.1.size
  obtain ⟨⟨a4_z0, a4_c0, a4_f0⟩, ⟨a4_z1, a4_c1, a4_f1⟩, _⟩ := hHeld0.2
  (try simp at lo4); (try simp at a4_z0); (try simp at a4_z1)
  go_simp
  refine hK.out _ _ (by first | exact hHeld0.alloc _ | exact (hHeld0.alloc _).drew) (fun hHeld205 => ?_)
  first | have hS4 := newK2 hHeld205 | have hS4 := newK2d hHeld205
  clear hK K
  try clear hb
  try simp only [Act.put, List.setIfInBounds_toArray, List.set_cons_zero, List.set_cons_succ]
  generalize hGWA120 : World.alloc wi (.cells #[.bool false, .slice none 0 0] 81) = WA120 at *
  clear hGWA120
  refine wpAnyH_ready (rs := [2, 12]) (by kernel_rfl) (by simp) ?_
  refine AllReadyH.cons (o := ⟨some 10, _, _, _, _, _⟩) rfl (fun K hK => ?_) ?_
  go_simp
  (first | ((with_reducible refine (IL.out _).mono ?_); rintro e wl ⟨bl, Al, nl, cl, rfl, hb, zl⟩) | ((with_reducible refine (IH.out _).mono ?_); rintro e wh ⟨bh, Ah, nh, ch, rfl, hb, zh⟩) | ((with_reducible refine (AD.out _ _ _ zl zh).mono ?_); rintro e wa ⟨ba, Aa, na, ca, rfl, hb, za⟩) | ((with_reducible refine (I2.out _).mono ?_); rintro e wt ⟨bt, At, nt, ct, rfl, hb, zt⟩) | ((with_reducible refine (DV.out _ _ _ za zt).mono ?_); rintro e wd ⟨bq, Aq, nq, cq, br, Ar, nr, cr, rfl, hb, zq, zr⟩))
  refine hK.out _ _ (hHeld205.next hb) (fun hHeld206 => ?_)
  replace hS4 := hS4.next hb
  clear hK K
  try clear hb
  try simp only [Act.put, List.setIfInBounds_toArray, List.set_cons_zero, List.set_cons_succ]
  refine wpAnyH_ready (rs := [5, 12]) (by kernel_rfl) (by simp) ?_
  refine AllReadyH.cons (o := ⟨some 13, _, _, _, _, _⟩) rfl (fun K hK => ?_) ?_
  go_simp
  (first | ((with_reducible refine (IL.out _).mono ?_); rintro e wl ⟨bl, Al, nl, cl, rfl, hb, zl⟩) | ((with_reducible refine (IH.out _).mono ?_); rintro e wh ⟨bh, Ah, nh, ch, rfl, hb, zh⟩) | ((with_reducible refine (AD.out _ _ _ zl zh).mono ?_); rintro e wa ⟨ba, Aa, na, ca, rfl, hb, za⟩) | ((with_reducible refine (I2.out _).mono ?_); rintro e wt ⟨bt, At, nt, ct, rfl, hb, zt⟩) | ((with_reducible refine (DV.out _ _ _ za zt).mono ?_); rintro e wd ⟨bq, Aq, nq, cq, br, Ar, nr, cr, rfl, hb, zq, zr⟩))
  refine hK.out _ _ (hHeld206.next hb) (fun hHeld207 => ?_)
  replace hS4 := hS4.next hb
  (try replace zl := zl.below hb)
  clear hK K
  try clear hb
  try simp only [Act.put, List.setIfInBounds_toArray, List.set_cons_zero, List.set_cons_succ]
  refine wpAnyH_ready (rs := [6, 12]) (by kernel_rfl) (by simp) ?_
  refine AllReadyH.cons (o := ⟨some 14, _, _, _, _, _⟩) rfl (fun K hK => ?_) ?_
  go_simp
  (first | ((with_reducible refine (IL.out _).mono ?_); rintro e wl ⟨bl, Al, nl, cl, rfl, hb, zl⟩) | ((with_reducible refine (IH.out _).mono ?_); rintro e wh ⟨bh, Ah, nh, ch, rfl, hb, zh⟩) | ((with_reducible refine (AD.out _ _ _ zl zh).mono ?_); rintro e wa ⟨ba, Aa, na, ca, rfl, hb, za⟩) | ((with_reducible refine (I2.out _).mono ?_); rintro e wt ⟨bt, At, nt, ct, rfl, hb, zt⟩) | ((with_reducible refine (DV.out _ _ _ za zt).mono ?_); rintro e wd ⟨bq, Aq, nq, cq, br, Ar, nr, cr, rfl, hb, zq, zr⟩))
  refine hK.out _ _ (hHeld207.next hb) (fun hHeld208 => ?_)
  replace hS4 := hS4.next hb
  (try replace zl := zl.below hb)
  (try replace zh := zh.below hb)
  clear hK K
  try clear hb
  try simp only [Act.put, List.setIfInBounds_toArray, List.set_cons_zero, List.set_cons_succ]
  refine wpAnyH_ready (rs := [7, 12]) (by kernel_rfl) (by simp) ?_
  refine AllReadyH.cons (o := ⟨some 15, _, _, _, _, _⟩) rfl (fun K hK => ?_) ?_
  go_simp
  (first | ((with_reducible refine (IL.out _).mono ?_); rintro e wl ⟨bl, Al, nl, cl, rfl, hb, zl⟩) | ((with_reducible refine (IH.out _).mono ?_); rintro e wh ⟨bh, Ah, nh, ch, rfl, hb, zh⟩) | ((with_reducible refine (AD.out _ _ _ zl zh).mono ?_); rintro e wa ⟨ba, Aa, na, ca, rfl, hb, za⟩) | ((with_reducible refine (I2.out _).mono ?_); rintro e wt ⟨bt, At, nt, ct, rfl, hb, zt⟩) | ((with_reducible refine (DV.out _ _ _ za zt).mono ?_); rintro e wd ⟨bq, Aq, nq, cq, br, Ar, nr, cr, rfl, hb, zq, zr⟩))
  refine hK.out _ _ (hHeld208.next hb) (fun hHeld209 => ?_)
  replace hS4 := hS4.next hb
  (try replace za := za.below hb)
  clear hK K
  try clear hb
  try simp only [Act.put, List.setIfInBounds_toArray, List.set_cons_zero, List.set_cons_succ]
  refine wpAnyH_ready (rs := [8, 12]) (by kernel_rfl) (by simp) ?_
  refine AllReadyH.cons (o := ⟨some 16, _, _, _, _, _⟩) rfl (fun K hK => ?_) ?_
  go_simp
  (first | ((with_reducible refine (IL.out _).mono ?_); rintro e wl ⟨bl, Al, nl, cl, rfl, hb, zl⟩) | ((with_reducible refine (IH.out _).mono ?_); rintro e wh ⟨bh, Ah, nh, ch, rfl, hb, zh⟩) | ((with_reducible refine (AD.out _ _ _ zl zh).mono ?_); rintro e wa ⟨ba, Aa, na, ca, rfl, hb, za⟩) | ((with_reducible refine (I2.out _).mono ?_); rintro e wt ⟨bt, At, nt, ct, rfl, hb, zt⟩) | ((with_reducible refine (DV.out _ _ _ za zt).mono ?_); rintro e wd ⟨bq, Aq, nq, cq, br, Ar, nr, cr, rfl, hb, zq, zr⟩))
  refine hK.out _ _ (hHeld209.next hb) (fun hHeld210 => ?_)
  replace hS4 := hS4.next hb
  (try replace za := za.below hb)
  (try replace zt := zt.below hb)
  clear hK K
  try clear hb
  try simp only [Act.put, List.setIfInBounds_toArray, List.set_cons_zero, List.set_cons_succ]
  refine wpAnyH_take (i := 9) (oi := ⟨some 7, _, _, _, _, _⟩) (v := ?_) rfl (by kernel_rfl) (by kernel_rfl) (by kernel_rfl) (fun _ _ _ h => h) (Or.inl ⟨by rfl, ?_⟩) (by assumption) ?_
  rotate_left
  · intro wq hSw; go_simp; (try with_reducible rfl)
  try simp only [Act.put, List.setIfInBounds_toArray, List.set_cons_zero, List.set_cons_succ]
  refine wpAnyH_take (i := 10) (oi := ⟨some 17, _, _, _, _, _⟩) (v := ?_) rfl (by kernel_rfl) (by kernel_rfl) (by kernel_rfl) (fun _ _ _ h => h) (Or.inl ⟨by rfl, ?_⟩) (by assumption) ?_
  rotate_left
  · intro wq hSw; go_simp; (try with_reducible rfl)
  try simp only [Act.put, List.setIfInBounds_toArray, List.set_cons_zero, List.set_cons_succ]
  refine wpAnyH_take (i := 11) (oi := ⟨some 18, _, _, _, _, _⟩) (v := ?_) rfl (by kernel_rfl) (by kernel_rfl) (by kernel_rfl) (fun _ _ _ h => h) (Or.inl ⟨by rfl, ?_⟩) (by assumption) ?_
  rotate_left
  · intro wq hSw; go_simp; (try with_reducible rfl)
  try simp only [Act.put, List.setIfInBounds_toArray, List.set_cons_zero, List.set_cons_succ]
  refine wpAnyH_ready (rs := [12]) (by kernel_rfl) (by simp) ?_
  refine AllReadyH.cons (o := ⟨some 3, _, _, _, _, _⟩) rfl (fun K hK => ?_) AllReadyH.nil
  have hne4_3 := hS4.2.1.1
  have lo3 := hHeld210.1.size
  obtain ⟨⟨a3_z0, a3_c0, a3_f0⟩, ⟨a3_z1, a3_c1, a3_f1⟩, _⟩ := hHeld210.2
  (try simp at lo3); (try simp at hne4_3); (try simp at a3_z0); (try simp at a3_z1)
  go_simp
  refine hK.out _ _ (by first | exact hHeld210.alloc _ | exact (hHeld210.alloc _).drew) (fun hHeld211 => ?_)
  first | replace hS4 := hS4.alloc2e hHeld211 | replace hS4 := hS4.alloc2 hHeld211
  (try replace zq := zq.alloc2 hHeld211)
  first | have hS3 := newK2 hHeld211 | have hS3 := newK2d hHeld211
  clear hK K
  try clear hb
  try simp only [Act.put, List.setIfInBounds_toArray, List.set_cons_zero, List.set_cons_succ]
  generalize hGWA121 : World.alloc wd (.cells #[.bool false, .slice none 0 0] 81) = WA121 at *
  clear hGWA121
  refine wpAnyH_ready (rs := [14]) (by kernel_rfl) (by simp) ?_
  refine AllReadyH.cons (o := ⟨none, _, _, _, _, _⟩) rfl (fun K hK => ?_) AllReadyH.nil
  obtain ⟨⟨s3z0, s3c0, s3f0⟩, ⟨s3z1, s3c1, s3f1⟩, _⟩ := hS3.2
  go_simp
  refine hK.out _ _ (by (repeat (first | (with_reducible exact hHeld211) | (refine Keeps.set ?_ (by simp <;> omega) (by simp <;> omega) _)))) (fun hHeld212 => ?_)
  replace hS4 := hS4.mv2 hHeld212 (by first | omega | (simp <;> omega)) (by simp <;> omega)
  (try replace zq := zq.store2 hHeld212 s3c0 s3c1)
  replace hS3 := hHeld212.add2 s3z0 s3c0 s3f0 s3c1 s3f1
  clear s3z0 s3c0 s3f0 s3z1 s3c1 s3f1
  clear hK K
  try clear hb
  try simp only [Act.put, List.setIfInBounds_toArray, List.set_cons_zero, List.set_cons_succ]
  generalize hGWA122 : World.setCell (World.setCell WA121 ⟨wd.heap.size, 0, none⟩ (.bool bq)) ⟨wd.heap.size, 1, none⟩ (.slice Aq nq cq) = WA122 at *
  clear hGWA122
  refine wpAnyH_ready (rs := [15]) (by kernel_rfl) (by simp) ?_
  refine AllReadyH.cons (o := ⟨none, _, _, _, _, _⟩) rfl (fun K hK => ?_) AllReadyH.nil
  obtain ⟨⟨s4z0, s4c0, s4f0⟩, ⟨s4z1, s4c1, s4f1⟩, _⟩ := hS4.2
  go_simp
  refine hK.out _ _ (by (repeat (first | (with_reducible exact hHeld212) | (refine Keeps.set ?_ (by simp <;> omega) (by simp <;> omega) _)))) (fun hHeld213 => ?_)
  replace hS3 := hS3.mv2 hHeld213 (by first | omega | (simp <;> omega)) (by simp <;> omega)
  (try replace zq := zq.store2 hHeld213 s4c0 s4c1)
  replace hS4 := hHeld213.add2 s4z0 s4c0 s4f0 s4c1 s4f1
  clear s4z0 s4c0 s4f0 s4z1 s4c1 s4f1
  clear hK K
  try clear hb
  try simp only [Act.put, List.setIfInBounds_toArray, List.set_cons_zero, List.set_cons_succ]
  generalize hGWA123 : World.setCell (World.setCell WA122 ⟨wi.heap.size, 0, none⟩ (.bool br)) ⟨wi.heap.size, 1, none⟩ (.slice Ar nr cr) = WA123 at *
  clear hGWA123
  refine wpAnyH_done (by kernel_rfl) ?_ _
  have hHeld := hHeld213
  rotate_left 1
  refine AllReadyH.cons (o := ⟨some 3, _, _, _, _, _⟩) rfl (fun K hK => ?_) ?_
  have hne4_3 := hS4.2.1.1
  have lo3 := hHeld209.1.size
  obtain ⟨⟨a3_z0, a3_c0, a3_f0⟩, ⟨a3_z1, a3_c1, a3_f1⟩, _⟩ := hHeld209.2
  (try simp at lo3); (try simp at hne4_3); (try simp at a3_z0); (try simp at a3_z1)
  go_simp
  refine hK.out _ _ (by first | exact hHeld209.alloc _ | exact (hHeld209.alloc _).drew) (fun hHeld214 => ?_)
  first | replace hS4 := hS4.alloc2e hHeld214 | replace hS4 := hS4.alloc2 hHeld214
  (try replace za := za.alloc2 hHeld214)
  (try replace zt := zt.alloc2 hHeld214)
  first | have hS3 := newK2 hHeld214 | have hS3 := newK2d hHeld214
  clear hK K
  try clear hb
  try simp only [Act.put, List.setIfInBounds_toArray, List.set_cons_zero, List.set_cons_succ]
  generalize hGWA124 : World.alloc wt (.cells #[.bool false, .slice none 0 0] 81) = WA124 at *
  clear hGWA124
  refine wpAnyH_ready (rs := [8]) (by kernel_rfl) (by simp) ?_
  refine AllReadyH.cons (o := ⟨some 16, _, _, _, _, _⟩) rfl (fun K hK => ?_) AllReadyH.nil
  go_simp
  (first | ((with_reducible refine (IL.out _).mono ?_); rintro e wl ⟨bl, Al, nl, cl, rfl, hb, zl⟩) | ((with_reducible refine (IH.out _).mono ?_); rintro e wh ⟨bh, Ah, nh, ch, rfl, hb, zh⟩) | ((with_reducible refine (AD.out _ _ _ zl zh).mono ?_); rintro e wa ⟨ba, Aa, na, ca, rfl, hb, za⟩) | ((with_reducible refine (I2.out _).mono ?_); rintro e wt ⟨bt, At, nt, ct, rfl, hb, zt⟩) | ((with_reducible refine (DV.out _ _ _ za zt).mono ?_); rintro e wd ⟨bq, Aq, nq, cq, br, Ar, nr, cr, rfl, hb, zq, zr⟩))
  refine hK.out _ _ (hHeld214.next hb) (fun hHeld215 => ?_)
  replace hS4 := hS4.next hb
  replace hS3 := hS3.next hb
  (try replace za := za.below hb)
  (try replace zt := zt.below hb)
  clear hK K
  try clear hb
  try simp only [Act.put, List.setIfInBounds_toArray, List.set_cons_zero, List.set_cons_succ]
  refine wpAnyH_take (i := 9) (oi := ⟨some 7, _, _, _, _, _⟩) (v := ?_) rfl (by kernel_rfl) (by kernel_rfl) (by kernel_rfl) (fun _ _ _ h => h) (Or.inl ⟨by rfl, ?_⟩) (by assumption) ?_
  rotate_left
  · intro wq hSw; go_simp; (try with_reducible rfl)
  try simp only [Act.put, List.setIfInBounds_toArray, List.set_cons_zero, List.set_cons_succ]
  refine wpAnyH_take (i := 10) (oi := ⟨some 17, _, _, _, _, _⟩) (v := ?_) rfl (by kernel_rfl) (by kernel_rfl) (by kernel_rfl) (fun _ _ _ h => h) (Or.inl ⟨by rfl, ?_⟩) (by assumption) ?_
  rotate_left
  · intro wq hSw; go_simp; (try with_reducible rfl)
  try simp only [Act.put, List.setIfInBounds_toArray, List.set_cons_zero, List.set_cons_succ]
  refine wpAnyH_take (i := 11) (oi := ⟨some 18, _, _, _, _, _⟩) (v := ?_) rfl (by kernel_rfl) (by kernel_rfl) (by kernel_rfl) (fun _ _ _ h => h) (Or.inl ⟨by rfl, ?_⟩) (by assumption) ?_
  rotate_left
  · intro wq hSw; go_simp; (try with_reducible rfl)
  try simp only [Act.put, List.setIfInBounds_toArray, List.set_cons_zero, List.set_cons_succ]
  refine wpAnyH_ready (rs := [14]) (by kernel_rfl) (by simp) ?_
  refine AllReadyH.cons (o := ⟨none, _, _, _, _, _⟩) rfl (fun K hK => ?_) AllReadyH.nil
  obtain ⟨⟨s3z0, s3c0, s3f0⟩, ⟨s3z1, s3c1, s3f1⟩, _⟩ := hS3.2
  go_simp
  refine hK.out _ _ (by (repeat (first | (with_reducible exact hHeld215) | (refine Keeps.set ?_ (by simp <;> omega) (by simp <;> omega) _)))) (fun hHeld216 => ?_)
  replace hS4 := hS4.mv2 hHeld216 (by first | omega | (simp <;> omega)) (by simp <;> omega)
  (try replace zq := zq.store2 hHeld216 s3c0 s3c1)
  replace hS3 := hHeld216.add2 s3z0 s3c0 s3f0 s3c1 s3f1
  clear s3z0 s3c0 s3f0 s3z1 s3c1 s3f1
  clear hK K
  try clear hb
  try simp only [Act.put, List.setIfInBounds_toArray, List.set_cons_zero, List.set_cons_succ]
  generalize hGWA125 : World.setCell (World.setCell wd ⟨wt.heap.size, 0, none⟩ (.bool bq)) ⟨wt.heap.size, 1, none⟩ (.slice Aq nq cq) = WA125 at *
  clear hGWA125
  refine wpAnyH_ready (rs := [15]) (by kernel_rfl) (by simp) ?_
  refine AllReadyH.cons (o := ⟨none, _, _, _, _, _⟩) rfl (fun K hK => ?_) AllReadyH.nil
  obtain ⟨⟨s4z0, s4c0, s4f0⟩, ⟨s4z1, s4c1, s4f1⟩, _⟩ := hS4.2
  go_simp
  refine hK.out _ _ (by (repeat (first | (with_reducible exact hHeld216) | (refine Keeps.set ?_ (by simp <;> omega) (by simp <;> omega) _)))) (fun hHeld217 => ?_)
  replace hS3 := hS3.mv2 hHeld217 (by first | omega | (simp <;> omega)) (by simp <;> omega)
  (try replace zq := zq.store2 hHeld217 s4c0 s4c1)
  replace hS4 := hHeld217.add2 s4z0 s4c0 s4f0 s4c1 s4f1
  clear s4z0 s4c0 s4f0 s4z1 s4c1 s4f1
  clear hK K
  try clear hb
  try simp only [Act.put, List.setIfInBounds_toArray, List.set_cons_zero, List.set_cons_succ]
  generalize hGWA126 : World.setCell (World.setCell WA125 ⟨wi.heap.size, 0, none⟩ (.bool br)) ⟨wi.heap.size, 1, none⟩ (.slice Ar nr cr) = WA126 at *
  clear hGWA126
  refine wpAnyH_done (by kernel_rfl) ?_ _
  have hHeld := hHeld217
  rotate_left 1
  exact AllReadyH.nil
  refine AllReadyH.cons (o := ⟨some 3, _, _, _, _, _⟩) rfl (fun K hK => ?_) ?_
  have hne4_3 := hS4.2.1.1
  have lo3 := hHeld208.1.size
  obtain ⟨⟨a3_z0, a3_c0, a3_f0⟩, ⟨a3_z1, a3_c1, a3_f1⟩, _⟩ := hHeld208.2
  (try simp at lo3); (try simp at hne4_3); (try simp at a3_z0); (try simp at a3_z1)
  go_simp
  refine hK.out _ _ (by first | exact hHeld208.alloc _ | exact (hHeld208.alloc _).drew) (fun hHeld218 => ?_)
  first | replace hS4 := hS4.alloc2e hHeld218 | replace hS4 := hS4.alloc2 hHeld218
  (try replace za := za.alloc2 hHeld218)
  first | have hS3 := newK2 hHeld218 | have hS3 := newK2d hHeld218
  clear hK K
  try clear hb
  try simp only [Act.put, List.setIfInBounds_toArray, List.set_cons_zero, List.set_cons_succ]
  generalize hGWA127 : World.alloc wa (.cells #[.bool false, .slice none 0 0] 81) = WA127 at *
  clear hGWA127
  refine wpAnyH_ready (rs := [7]) (by kernel_rfl) (by simp) ?_
  refine AllReadyH.cons (o := ⟨some 15, _, _, _, _, _⟩) rfl (fun K hK => ?_) AllReadyH.nil
  go_simp
  (first | ((with_reducible refine (IL.out _).mono ?_); rintro e wl ⟨bl, Al, nl, cl, rfl, hb, zl⟩) | ((with_reducible refine (IH.out _).mono ?_); rintro e wh ⟨bh, Ah, nh, ch, rfl, hb, zh⟩) | ((with_reducible refine (AD.out _ _ _ zl zh).mono ?_); rintro e wa ⟨ba, Aa, na, ca, rfl, hb, za⟩) | ((with_reducible refine (I2.out _).mono ?_); rintro e wt ⟨bt, At, nt, ct, rfl, hb, zt⟩) | ((with_reducible refine (DV.out _ _ _ za zt).mono ?_); rintro e wd ⟨bq, Aq, nq, cq, br, Ar, nr, cr, rfl, hb, zq, zr⟩))
  refine hK.out _ _ (hHeld218.next hb) (fun hHeld219 => ?_)
  replace hS4 := hS4.next hb
  replace hS3 := hS3.next hb
  (try replace za := za.below hb)
  clear hK K
  try clear hb
  try simp only [Act.put, List.setIfInBounds_toArray, List.set_cons_zero, List.set_cons_succ]
  refine wpAnyH_ready (rs := [8]) (by kernel_rfl) (by simp) ?_
  refine AllReadyH.cons (o := ⟨some 16, _, _, _, _, _⟩) rfl (fun K hK => ?_) AllReadyH.nil
  go_simp
  (first | ((with_reducible refine (IL.out _).mono ?_); rintro e wl ⟨bl, Al, nl, cl, rfl, hb, zl⟩) | ((with_reducible refine (IH.out _).mono ?_); rintro e wh ⟨bh, Ah, nh, ch, rfl, hb, zh⟩) | ((with_reducible refine (AD.out _ _ _ zl zh).mono ?_); rintro e wa ⟨ba, Aa, na, ca, rfl, hb, za⟩) | ((with_reducible refine (I2.out _).mono ?_); rintro e wt ⟨bt, At, nt, ct, rfl, hb, zt⟩) | ((with_reducible refine (DV.out _ _ _ za zt).mono ?_); rintro e wd ⟨bq, Aq, nq, cq, br, Ar, nr, cr, rfl, hb, zq, zr⟩))
  refine hK.out _ _ (hHeld219.next hb) (fun hHeld220 => ?_)
  replace hS4 := hS4.next hb
  replace hS3 := hS3.next hb
  (try replace za := za.below hb)
  (try replace zt := zt.below hb)
  clear hK K
  try clear hb
  try simp only [Act.put, List.setIfInBounds_toArray, List.set_cons_zero, List.set_cons_succ]
  refine wpAnyH_take (i := 9) (oi := ⟨some 7, _, _, _, _, _⟩) (v := ?_) rfl (by kernel_rfl) (by kernel_rfl) (by kernel_rfl) (fun _ _ _ h => h) (Or.inl ⟨by rfl, ?_⟩) (by assumption) ?_
  rotate_left
  · intro wq hSw; go_simp; (try with_reducible rfl)
  try simp only [Act.put, List.setIfInBounds_toArray, List.set_cons_zero, List.set_cons_succ]
  refine wpAnyH_take (i := 10) (oi := ⟨some 17, _, _, _, _, _⟩) (v := ?_) rfl (by kernel_rfl) (by kernel_rfl) (by kernel_rfl) (fun _ _ _ h => h) (Or.inl ⟨by rfl, ?_⟩) (by assumption) ?_
  rotate_left
  · intro wq hSw; go_simp; (try with_reducible rfl)
  try simp only [Act.put, List.setIfInBounds_toArray, List.set_cons_zero, List.set_cons_succ]
  refine wpAnyH_take (i := 11) (oi := ⟨some 18, _, _, _, _, _⟩) (v := ?_) rfl (by kernel_rfl) (by kernel_rfl) (by kernel_rfl) (fun _ _ _ h => h) (Or.inl ⟨by rfl, ?_⟩) (by assumption) ?_
  rotate_left
  · intro wq hSw; go_simp; (try with_reducible rfl)
  try simp only [Act.put, List.setIfInBounds_toArray, List.set_cons_zero, List.set_cons_succ]
  refine wpAnyH_ready (rs := [14]) (by kernel_rfl) (by simp) ?_
  refine AllReadyH.cons (o := ⟨none, _, _, _, _, _⟩) rfl (fun K hK => ?_) AllReadyH.nil
  obtain ⟨⟨s3z0, s3c0, s3f0⟩, ⟨s3z1, s3c1, s3f1⟩, _⟩ := hS3.2
  go_simp
  refine hK.out _ _ (by (repeat (first | (with_reducible exact hHeld220) | (refine Keeps.set ?_ (by simp <;> omega) (by simp <;> omega) _)))) (fun hHeld221 => ?_)
  replace hS4 := hS4.mv2 hHeld221 (by first | omega | (simp <;> omega)) (by simp <;> omega)
  (try replace zq := zq.store2 hHeld221 s3c0 s3c1)
  replace hS3 := hHeld221.add2 s3z0 s3c0 s3f0 s3c1 s3f1
  clear s3z0 s3c0 s3f0 s3z1 s3c1 s3f1
  clear hK K
  try clear hb
  try simp only [Act.put, List.setIfInBounds_toArray, List.set_cons_zero, List.set_cons_succ]
  generalize hGWA128 : World.setCell (World.setCell wd ⟨wa.heap.size, 0, none⟩ (.bool bq)) ⟨wa.heap.size, 1, none⟩ (.slice Aq nq cq) = WA128 at *
  clear hGWA128
  refine wpAnyH_ready (rs := [15]) (by kernel_rfl) (by simp) ?_
  refine AllReadyH.cons (o := ⟨none, _, _, _, _, _⟩) rfl (fun K hK => ?_) AllReadyH.nil
  obtain ⟨⟨s4z0, s4c0, s4f0⟩, ⟨s4z1, s4c1, s4f1⟩, _⟩ := hS4.2
  go_simp
  refine hK.out _ _ (by (repeat (first | (with_reducible exact hHeld221) | (refine Keeps.set ?_ (by simp <;> omega) (by simp <;> omega) _)))) (fun hHeld222 => ?_)
  replace hS3 := hS3.mv2 hHeld222 (by first | omega | (simp <;> omega)) (by simp <;> omega)
  (try replace zq := zq.store2 hHeld222 s4c0 s4c1)
  replace hS4 := hHeld222.add2 s4z0 s4c0 s4f0 s4c1 s4f1
  clear s4z0 s4c0 s4f0 s4z1 s4c1 s4f1
  clear hK K
  try clear hb
  try simp only [Act.put, List.setIfInBounds_toArray, List.set_cons_zero, List.set_cons_succ]
  generalize hGWA129 : World.setCell (World.setCell WA128 ⟨wi.heap.size, 0, none⟩ (.bool br)) ⟨wi.heap.size, 1, none⟩ (.slice Ar nr cr) = WA129 at *
  clear hGWA129
  refine wpAnyH_done (by kernel_rfl) ?_ _
  have hHeld := hHeld222
  rotate_left 1
  exact AllReadyH.nil
  refine AllReadyH.cons (o := ⟨some 3, _, _, _, _, _⟩) rfl (fun K hK => ?_) ?_
  have hne4_3 := hS4.2.1.1
  have lo3 := hHeld207.1.size
  obtain ⟨⟨a3_z0, a3_c0, a3_f0⟩, ⟨a3_z1, a3_c1, a3_f1⟩, _⟩ := hHeld207.2
  (try simp at lo3); (try simp at hne4_3); (try simp at a3_z0); (try simp at a3_z1)
  go_simp
  refine hK.out _ _ (by first | exact hHeld207.alloc _ | exact (hHeld207.alloc _).drew) (fun hHeld223 => ?_)
  first | replace hS4 := hS4.alloc2e hHeld223 | replace hS4 := hS4.alloc2 hHeld223
  (try replace zl := zl.alloc2 hHeld223)
  (try replace zh := zh.alloc2 hHeld223)
  first | have hS3 := newK2 hHeld223 | have hS3 := newK2d hHeld223
  clear hK K
  try clear hb
  try simp only [Act.put, List.setIfInBounds_toArray, List.set_cons_zero, List.set_cons_succ]
  generalize hGWA130 : World.alloc wh (.cells #[.bool false, .slice none 0 0] 81) = WA130 at *
  clear hGWA130
  refine wpAnyH_ready (rs := [6]) (by kernel_rfl) (by simp) ?_
  refine AllReadyH.cons (o := ⟨some 14, _, _, _, _, _⟩) rfl (fun K hK => ?_) AllReadyH.nil
  go_simp
  (first | ((with_reducible refine (IL.out _).mono ?_); rintro e wl ⟨bl, Al, nl, cl, rfl, hb, zl⟩) | ((with_reducible refine (IH.out _).mono ?_); rintro e wh ⟨bh, Ah, nh, ch, rfl, hb, zh⟩) | ((with_reducible refine (AD.out _ _ _ zl zh).mono ?_); rintro e wa ⟨ba, Aa, na, ca, rfl, hb, za⟩) | ((with_reducible refine (I2.out _).mono ?_); rintro e wt ⟨bt, At, nt, ct, rfl, hb, zt⟩) | ((with_reducible refine (DV.out _ _ _ za zt).mono ?_); rintro e wd ⟨bq, Aq, nq, cq, br, Ar, nr, cr, rfl, hb, zq, zr⟩))
  refine hK.out _ _ (hHeld223.next hb) (fun hHeld224 => ?_)
  replace hS4 := hS4.next hb
  replace hS3 := hS3.next hb
  (try replace zl := zl.below hb)
  (try replace zh := zh.below hb)
  clear hK K
  try clear hb
  try simp only [Act.put, List.setIfInBounds_toArray, List.set_cons_zero, List.set_cons_succ]
  refine wpAnyH_ready (rs := [7]) (by kernel_rfl) (by simp) ?_
  refine AllReadyH.cons (o := ⟨some 15, _, _, _, _, _⟩) rfl (fun K hK => ?_) AllReadyH.nil
  go_simp
  (first | ((with_reducible refine (IL.out _).mono ?_); rintro e wl ⟨bl, Al, nl, cl, rfl, hb, zl⟩) | ((with_reducible refine (IH.out _).mono ?_); rintro e wh ⟨bh, Ah, nh, ch, rfl, hb, zh⟩) | ((with_reducible refine (AD.out _ _ _ zl zh).mono ?_); rintro e wa ⟨ba, Aa, na, ca, rfl, hb, za⟩) | ((with_reducible refine (I2.out _).mono ?_); rintro e wt ⟨bt, At, nt, ct, rfl, hb, zt⟩) | ((with_reducible refine (DV.out _ _ _ za zt).mono ?_); rintro e wd ⟨bq, Aq, nq, cq, br, Ar, nr, cr, rfl, hb, zq, zr⟩))
  refine hK.out _ _ (hHeld224.next hb) (fun hHeld225 => ?_)
  replace hS4 := hS4.next hb
  replace hS3 := hS3.next hb
  (try replace za := za.below hb)
  clear hK K
  try clear hb
  try simp only [Act.put, List.setIfInBounds_toArray, List.set_cons_zero, List.set_cons_succ]
  refine wpAnyH_ready (rs := [8]) (by kernel_rfl) (by simp) ?_
  refine AllReadyH.cons (o := ⟨some 16, _, _, _, _, _⟩) rfl (fun K hK => ?_) AllReadyH.nil
  go_simp
  (first | ((with_reducible refine (IL.out _).mono ?_); rintro e wl ⟨bl, Al, nl, cl, rfl, hb, zl⟩) | ((with_reducible refine (IH.out _).mono ?_); rintro e wh ⟨bh, Ah, nh, ch, rfl, hb, zh⟩) | ((with_reducible refine (AD.out _ _ _ zl zh).mono ?_); rintro e wa ⟨ba, Aa, na, ca, rfl, hb, za⟩) | ((with_reducible refine (I2.out _).mono ?_); rintro e wt ⟨bt, At, nt, ct, rfl, hb, zt⟩) | ((with_reducible refine (DV.out _ _ _ za zt).mono ?_); rintro e wd ⟨bq, Aq, nq, cq, br, Ar, nr, cr, rfl, hb, zq, zr⟩))
  refine hK.out _ _ (hHeld225.next hb) (fun hHeld226 => ?_)
  replace hS4 := hS4.next hb
  replace hS3 := hS3.next hb
  (try replace za := za.below hb)
  (try replace zt := zt.below hb)
  clear hK K
  try clear hb
  try simp only [Act.put, List.setIfInBounds_toArray, List.set_cons_zero, List.set_cons_succ]
  refine wpAnyH_take (i := 9) (oi := ⟨some 7, _, _, _, _, _⟩) (v := ?_) rfl (by kernel_rfl) (by kernel_rfl) (by kernel_rfl) (fun _ _ _ h => h) (Or.inl ⟨by rfl, ?_⟩) (by assumption) ?_
  rotate_left
  · intro wq hSw; go_simp; (try with_reducible rfl)
  try simp only [Act.put, List.setIfInBounds_toArray, List.set_cons_zero, List.set_cons_succ]
  refine wpAnyH_take (i := 10) (oi := ⟨some 17, _, _, _, _, _⟩) (v := ?_) rfl (by kernel_rfl) (by kernel_rfl) (by kernel_rfl) (fun _ _ _ h => h) (Or.inl ⟨by rfl, ?_⟩) (by assumption) ?_
  rotate_left
  · intro wq hSw; go_simp; (try with_reducible rfl)
  try simp only [Act.put, List.setIfInBounds_toArray, List.set_cons_zero, List.set_cons_succ]
  refine wpAnyH_take (i := 11) (oi := ⟨some 18, _, _, _, _, _⟩) (v := ?_) rfl (by kernel_rfl) (by kernel_rfl) (by kernel_rfl) (fun _ _ _ h => h) (Or.inl ⟨by rfl, ?_⟩) (by assumption) ?_
  rotate_left
  · intro wq hSw; go_simp; (try with_reducible rfl)
  try simp only [Act.put, List.setIfInBounds_toArray, List.set_cons_zero, List.set_cons_succ]
  refine wpAnyH_ready (rs := [14]) (by kernel_rfl) (by simp) ?_
  refine AllReadyH.cons (o := ⟨none, _, _, _, _, _⟩) rfl (fun K hK => ?_) AllReadyH.nil
  obtain ⟨⟨s3z0, s3c0, s3f0⟩, ⟨s3z1, s3c1, s3f1⟩, _⟩ := hS3.2
  go_simp
  refine hK.out _ _ (by (repeat (first | (with_reducible exact hHeld226) | (refine Keeps.set ?_ (by simp <;> omega) (by simp <;> omega) _)))) (fun hHeld227 => ?_)
  replace hS4 := hS4.mv2 hHeld227 (by first | omega | (simp <;> omega)) (by simp <;> omega)
  (try replace zq := zq.store2 hHeld227 s3c0 s3c1)
  replace hS3 := hHeld227.add2 s3z0 s3c0 s3f0 s3c1 s3f1
  clear s3z0 s3c0 s3f0 s3z1 s3c1 s3f1
  clear hK K
  try clear hb
  try simp only [Act.put, List.setIfInBounds_toArray, List.set_cons_zero, List.set_cons_succ]
  generalize hGWA131 : World.setCell (World.setCell wd ⟨wh.heap.size, 0, none⟩ (.bool bq)) ⟨wh.heap.size, 1, none⟩ (.slice Aq nq cq) = WA131 at *
  clear hGWA131
  refine wpAnyH_ready (rs := [15]) (by kernel_rfl) (by simp) ?_
  refine AllReadyH.cons (o := ⟨none, _, _, _, _, _⟩) rfl (fun K hK => ?_) AllReadyH.nil
  obtain ⟨⟨s4z0, s4c0, s4f0⟩, ⟨s4z1, s4c1, s4f1⟩, _⟩ := hS4.2
  go_simp
  refine hK.out _ _ (by (repeat (first | (with_reducible exact hHeld227) | (refine Keeps.set ?_ (by simp <;> omega) (by simp <;> omega) _)))) (fun hHeld228 => ?_)
  replace hS3 := hS3.mv2 hHeld228 (by first | omega | (simp <;> omega)) (by simp <;> omega)
  (try replace zq := zq.store2 hHeld228 s4c0 s4c1)
  replace hS4 := hHeld228.add2 s4z0 s4c0 s4f0 s4c1 s4f1
  clear s4z0 s4c0 s4f0 s4z1 s4c1 s4f1
  clear hK K
  try clear hb
  try simp only [Act.put, List.setIfInBounds_toArray, List.set_cons_zero, List.set_cons_succ]
  generalize hGWA132 : World.setCell (World.setCell WA131 ⟨wi.heap.size, 0, none⟩ (.bool br)) ⟨wi.heap.size, 1, none⟩ (.slice Ar nr cr) = WA132 at *
  clear hGWA132
  refine wpAnyH_done (by kernel_rfl) ?_ _
  have hHeld := hHeld228
  rotate_left 1
  exact AllReadyH.nil
  refine AllReadyH.cons (o := ⟨some 3, _, _, _, _, _⟩) rfl (fun K hK => ?_) ?_
  have hne4_3 := hS4.2.1.1
  have lo3 := hHeld206.1.size
  obtain ⟨⟨a3_z0, a3_c0, a3_f0⟩, ⟨a3_z1, a3_c1, a3_f1⟩, _⟩ := hHeld206.2
  (try simp at lo3); (try simp at hne4_3); (try simp at a3_z0); (try simp at a3_z1)
  go_simp
  refine hK.out _ _ (by first | exact hHeld206.alloc _ | exact (hHeld206.alloc _).drew) (fun hHeld229 => ?_)
  first | replace hS4 := hS4.alloc2e hHeld229 | replace hS4 := hS4.alloc2 hHeld229
  (try replace zl := zl.alloc2 hHeld229)
  first | have hS3 := newK2 hHeld229 | have hS3 := newK2d hHeld229
  clear hK K
  try clear hb
  try simp only [Act.put, List.setIfInBounds_toArray, List.set_cons_zero, List.set_cons_succ]
  generalize hGWA133 : World.alloc wl (.cells #[.bool false, .slice none 0 0] 81) = WA133 at *
  clear hGWA133
  refine wpAnyH_ready (rs := [5]) (by kernel_rfl) (by simp) ?_
  refine AllReadyH.cons (o := ⟨some 13, _, _, _, _, _⟩) rfl (fun K hK => ?_) AllReadyH.nil
  go_simp
  (first | ((with_reducible refine (IL.out _).mono ?_); rintro e wl ⟨bl, Al, nl, cl, rfl, hb, zl⟩) | ((with_reducible refine (IH.out _).mono ?_); rintro e wh ⟨bh, Ah, nh, ch, rfl, hb, zh⟩) | ((with_reducible refine (AD.out _ _ _ zl zh).mono ?_); rintro e wa ⟨ba, Aa, na, ca, rfl, hb, za⟩) | ((with_reducible refine (I2.out _).mono ?_); rintro e wt ⟨bt, At, nt, ct, rfl, hb, zt⟩) | ((with_reducible refine (DV.out _ _ _ za zt).mono ?_); rintro e wd ⟨bq, Aq, nq, cq, br, Ar, nr, cr, rfl, hb, zq, zr⟩))
  refine hK.out _ _ (hHeld229.next hb) (fun hHeld230 => ?_)
  replace hS4 := hS4.next hb
  replace hS3 := hS3.next hb
  (try replace zl := zl.below hb)
  clear hK K
  try clear hb
  try simp only [Act.put, List.setIfInBounds_toArray, List.set_cons_zero, List.set_cons_succ]
  refine wpAnyH_ready (rs := [6]) (by kernel_rfl) (by simp) ?_
  refine AllReadyH.cons (o := ⟨some 14, _, _, _, _, _⟩) rfl (fun K hK => ?_) AllReadyH.nil
  go_simp
  (first | ((with_reducible refine (IL.out _).mono ?_); rintro e wl ⟨bl, Al, nl, cl, rfl, hb, zl⟩) | ((with_reducible refine (IH.out _).mono ?_); rintro e wh ⟨bh, Ah, nh, ch, rfl, hb, zh⟩) | ((with_reducible refine (AD.out _ _ _ zl zh).mono ?_); rintro e wa ⟨ba, Aa, na, ca, rfl, hb, za⟩) | ((with_reducible refine (I2.out _).mono ?_); rintro e wt ⟨bt, At, nt, ct, rfl, hb, zt⟩) | ((with_reducible refine (DV.out _ _ _ za zt).mono ?_); rintro e wd ⟨bq, Aq, nq, cq, br, Ar, nr, cr, rfl, hb, zq, zr⟩))
  refine hK.out _ _ (hHeld230.next hb) (fun hHeld231 => ?_)
  replace hS4 := hS4.next hb
  replace hS3 := hS3.next hb
  (try replace zl := zl.below hb)
  (try replace zh := zh.below hb)
  clear hK K
  try clear hb
  try simp only [Act.put, List.setIfInBounds_toArray, List.set_cons_zero, List.set_cons_succ]
  refine wpAnyH_ready (rs := [7]) (by kernel_rfl) (by simp) ?_
  refine AllReadyH.cons (o := ⟨some 15, _, _, _, _, _⟩) rfl (fun K hK => ?_) AllReadyH.nil
  go_simp
  (first | ((with_reducible refine (IL.out _).mono ?_); rintro e wl ⟨bl, Al, nl, cl, rfl, hb, zl⟩) | ((with_reducible refine (IH.out _).mono ?_); rintro e wh ⟨bh, Ah, nh, ch, rfl, hb, zh⟩) | ((with_reducible refine (AD.out _ _ _ zl zh).mono ?_); rintro e wa ⟨ba, Aa, na, ca, rfl, hb, za⟩) | ((with_reducible refine (I2.out _).mono ?_); rintro e wt ⟨bt, At, nt, ct, rfl, hb, zt⟩) | ((with_reducible refine (DV.out _ _ _ za zt).mono ?_); rintro e wd ⟨bq, Aq, nq, cq, br, Ar, nr, cr, rfl, hb, zq, zr⟩))
  refine hK.out _ _ (hHeld231.next hb) (fun hHeld232 => ?_)
  replace hS4 := hS4.next hb
  replace hS3 := hS3.next hb
  (try replace za := za.below hb)
  clear hK K
  try clear hb
  try simp only [Act.put, List.setIfInBounds_toArray, List.set_cons_zero, List.set_cons_succ]
  refine wpAnyH_ready (rs := [8]) (by kernel_rfl) (by simp) ?_
  refine AllReadyH.cons (o := ⟨some 16, _, _, _, _, _⟩) rfl (fun K hK => ?_) AllReadyH.nil
  go_simp
  (first | ((with_reducible refine (IL.out _).mono ?_); rintro e wl ⟨bl, Al, nl, cl, rfl, hb, zl⟩) | ((with_reducible refine (IH.out _).mono ?_); rintro e wh ⟨bh, Ah, nh, ch, rfl, hb, zh⟩) | ((with_reducible refine (AD.out _ _ _ zl zh).mono ?_); rintro e wa ⟨ba, Aa, na, ca, rfl, hb, za⟩) | ((with_reducible refine (I2.out _).mono ?_); rintro e wt ⟨bt, At, nt, ct, rfl, hb, zt⟩) | ((with_reducible refine (DV.out _ _ _ za zt).mono ?_); rintro e wd ⟨bq, Aq, nq, cq, br, Ar, nr, cr, rfl, hb, zq, zr⟩))
  refine hK.out _ _ (hHeld232.next hb) (fun hHeld233 => ?_)
  replace hS4 := hS4.next hb
  replace hS3 := hS3.next hb
  (try replace za := za.below hb)
  (try replace zt := zt.below hb)
  clear hK K
  try clear hb
  try simp only [Act.put, List.setIfInBounds_toArray, List.set_cons_zero, List.set_cons_succ]
  refine wpAnyH_take (i := 9) (oi := ⟨some 7, _, _, _, _, _⟩) (v := ?_) rfl (by kernel_rfl) (by kernel_rfl) (by kernel_rfl) (fun _ _ _ h => h) (Or.inl ⟨by rfl, ?_⟩) (by assumption) ?_
  rotate_left
  · intro wq hSw; go_simp; (try with_reducible rfl)
  try simp only [Act.put, List.setIfInBounds_toArray, List.set_cons_zero, List.set_cons_succ]
  refine wpAnyH_take (i := 10) (oi := ⟨some 17, _, _, _, _, _⟩) (v := ?_) rfl (by kernel_rfl) (by kernel_rfl) (by kernel_rfl) (fun _ _ _ h => h) (Or.inl ⟨by rfl, ?_⟩) (by assumption) ?_
  rotate_left
  · intro wq hSw; go_simp; (try with_reducible rfl)
  try simp only [Act.put, List.setIfInBounds_toArray, List.set_cons_zero, List.set_cons_succ]
  refine wpAnyH_take (i := 11) (oi := ⟨some 18, _, _, _, _, _⟩) (v := ?_) rfl (by kernel_rfl) (by kernel_rfl) (by kernel_rfl) (fun _ _ _ h => h) (Or.inl ⟨by rfl, ?_⟩) (by assumption) ?_
  rotate_left
  · intro wq hSw; go_simp; (try with_reducible rfl)
  try simp only [Act.put, List.setIfInBounds_toArray, List.set_cons_zero, List.set_cons_succ]
  refine wpAnyH_ready (rs := [14]) (by kernel_rfl) (by simp) ?_
  refine AllReadyH.cons (o := ⟨none, _, _, _, _, _⟩) rfl (fun K hK => ?_) AllReadyH.nil
  obtain ⟨⟨s3z0, s3c0, s3f0⟩, ⟨s3z1, s3c1, s3f1⟩, _⟩ := hS3.2
  go_simp
  refine hK.out _ _ (by (repeat (first | (with_reducible exact hHeld233) | (refine Keeps.set ?_ (by simp <;> omega) (by simp <;> omega) _)))) (fun hHeld234 => ?_)
  replace hS4 := hS4.mv2 hHeld234 (by first | omega | (simp <;> omega)) (by simp <;> omega)
  (try replace zq := zq.store2 hHeld234 s3c0 s3c1)
  replace hS3 := hHeld234.add2 s3z0 s3c0 s3f0 s3c1 s3f1
  clear s3z0 s3c0 s3f0 s3z1 s3c1 s3f1
  clear hK K
  try clear hb
  try simp only [Act.put, List.setIfInBounds_toArray, List.set_cons_zero, List.set_cons_succ]
  generalize hGWA134 : World.setCell (World.setCell wd ⟨wl.heap.size, 0, none⟩ (.bool bq)) ⟨wl.heap.size, 1, none⟩ (.slice Aq nq cq) = WA134 at *
  clear hGWA134
  refine wpAnyH_ready (rs := [15]) (by kernel_rfl) (by simp) ?_
  refine AllReadyH.cons (o := ⟨none, _, _, _, _, _⟩) rfl (fun K hK => ?_) AllReadyH.nil
  obtain ⟨⟨s4z0, s4c0, s4f0⟩, ⟨s4z1, s4c1, s4f1⟩, _⟩ := hS4.2
  go_simp
  refine hK.out _ _ (by (repeat (first | (with_reducible exact hHeld234) | (refine Keeps.set ?_ (by simp <;> omega) (by simp <;> omega) _)))) (fun hHeld235 => ?_)
  replace hS3 := hS3.mv2 hHeld235 (by first | omega | (simp <;> omega)) (by simp <;> omega)
  (try replace zq := zq.store2 hHeld235 s4c0 s4c1)
  replace hS4 := hHeld235.add2 s4z0 s4c0 s4f0 s4c1 s4f1
  clear s4z0 s4c0 s4f0 s4z1 s4c1 s4f1
  clear hK K
  try clear hb
  try simp only [Act.put, List.setIfInBounds_toArray, List.set_cons_zero, List.set_cons_succ]
  generalize hGWA135 : World.setCell (World.setCell WA134 ⟨wi.heap.size, 0, none⟩ (.bool br)) ⟨wi.heap.size, 1, none⟩ (.slice Ar nr cr) = WA135 at *
  clear hGWA135
  refine wpAnyH_done (by kernel_rfl) ?_ _
  have hHeld := hHeld235
  rotate_left 1
  exact AllReadyH.nil
  refine AllReadyH.cons (o := ⟨some 3, _, _, _, _, _⟩) rfl (fun K hK => ?_) ?_
  have hne4_3 := hS4.2.1.1
  have lo3 := hHeld205.1.size
  obtain ⟨⟨a3_z0, a3_c0, a3_f0⟩, ⟨a3_z1, a3_c1, a3_f1⟩, _⟩ := hHeld205.2
  (try simp at lo3); (try simp at hne4_3); (try simp at a3_z0); (try simp at a3_z1)
  go_simp
  refine hK.out _ _ (by first | exact hHeld205.alloc _ | exact (hHeld205.alloc _).drew) (fun hHeld236 => ?_)
  first | replace hS4 := hS4.alloc2e hHeld236 | replace hS4 := hS4.alloc2 hHeld236
  first | have hS3 := newK2 hHeld236 | have hS3 := newK2d hHeld236
  clear hK K
  try clear hb
  try simp only [Act.put, List.setIfInBounds_toArray, List.set_cons_zero, List.set_cons_succ]
  generalize hGWA136 : World.alloc WA120 (.cells #[.bool false, .slice none 0 0] 81) = WA136 at *
  clear hGWA136
  refine wpAnyH_ready (rs := [2]) (by kernel_rfl) (by simp) ?_
  refine AllReadyH.cons (o := ⟨some 10, _, _, _, _, _⟩) rfl (fun K hK => ?_) AllReadyH.nil
  go_simp
  (first | ((with_reducible refine (IL.out _).mono ?_); rintro e wl ⟨bl, Al, nl, cl, rfl, hb, zl⟩) | ((with_reducible refine (IH.out _).mono ?_); rintro e wh ⟨bh, Ah, nh, ch, rfl, hb, zh⟩) | ((with_reducible refine (AD.out _ _ _ zl zh).mono ?_); rintro e wa ⟨ba, Aa, na, ca, rfl, hb, za⟩) | ((with_reducible refine (I2.out _).mono ?_); rintro e wt ⟨bt, At, nt, ct, rfl, hb, zt⟩) | ((with_reducible refine (DV.out _ _ _ za zt).mono ?_); rintro e wd ⟨bq, Aq, nq, cq, br, Ar, nr, cr, rfl, hb, zq, zr⟩))
  refine hK.out _ _ (hHeld236.next hb) (fun hHeld237 => ?_)
  replace hS4 := hS4.next hb
  replace hS3 := hS3.next hb
  clear hK K
  try clear hb
  try simp only [Act.put, List.setIfInBounds_toArray, List.set_cons_zero, List.set_cons_succ]
  refine wpAnyH_ready (rs := [5]) (by kernel_rfl) (by simp) ?_
  refine AllReadyH.cons (o := ⟨some 13, _, _, _, _, _⟩) rfl (fun K hK => ?_) AllReadyH.nil
  go_simp
  (first | ((with_reducible refine (IL.out _).mono ?_); rintro e wl ⟨bl, Al, nl, cl, rfl, hb, zl⟩) | ((with_reducible refine (IH.out _).mono ?_); rintro e wh ⟨bh, Ah, nh, ch, rfl, hb, zh⟩) | ((with_reducible refine (AD.out _ _ _ zl zh).mono ?_); rintro e wa ⟨ba, Aa, na, ca, rfl, hb, za⟩) | ((with_reducible refine (I2.out _).mono ?_); rintro e wt ⟨bt, At, nt, ct, rfl, hb, zt⟩) | ((with_reducible refine (DV.out _ _ _ za zt).mono ?_); rintro e wd ⟨bq, Aq, nq, cq, br, Ar, nr, cr, rfl, hb, zq, zr⟩))
  refine hK.out _ _ (hHeld237.next hb) (fun hHeld238 => ?_)
  replace hS4 := hS4.next hb
  replace hS3 := hS3.next hb
  (try replace zl := zl.below hb)
  clear hK K
  try clear hb
  try simp only [Act.put, List.setIfInBounds_toArray, List.set_cons_zero, List.set_cons_succ]
  refine wpAnyH_ready (rs := [6]) (by kernel_rfl) (by simp) ?_
  refine AllReadyH.cons (o := ⟨some 14, _, _, _, _, _⟩) rfl (fun K hK => ?_) AllReadyH.nil
  go_simp
  (first | ((with_reducible refine (IL.out _).mono ?_); rintro e wl ⟨bl, Al, nl, cl, rfl, hb, zl⟩) | ((with_reducible refine (IH.out _).mono ?_); rintro e wh ⟨bh, Ah, nh, ch, rfl, hb, zh⟩) | ((with_reducible refine (AD.out _ _ _ zl zh).mono ?_); rintro e wa ⟨ba, Aa, na, ca, rfl, hb, za⟩) | ((with_reducible refine (I2.out _).mono ?_); rintro e wt ⟨bt, At, nt, ct, rfl, hb, zt⟩) | ((with_reducible refine (DV.out _ _ _ za zt).mono ?_); rintro e wd ⟨bq, Aq, nq, cq, br, Ar, nr, cr, rfl, hb, zq, zr⟩))
  refine hK.out _ _ (hHeld238.next hb) (fun hHeld239 => ?_)
  replace hS4 := hS4.next hb
  replace hS3 := hS3.next hb
  (try replace zl := zl.below hb)
  (try replace zh := zh.below hb)
  clear hK K
  try clear hb
  try simp only [Act.put, List.setIfInBounds_toArray, List.set_cons_zero, List.set_cons_succ]
  refine wpAnyH_ready (rs := [7]) (by kernel_rfl) (by simp) ?_
  refine AllReadyH.cons (o := ⟨some 15, _, _, _, _, _⟩) rfl (fun K hK => ?_) AllReadyH.nil
  go_simp
  (first | ((with_reducible refine (IL.out _).mono ?_); rintro e wl ⟨bl, Al, nl, cl, rfl, hb, zl⟩) | ((with_reducible refine (IH.out _).mono ?_); rintro e wh ⟨bh, Ah, nh, ch, rfl, hb, zh⟩) | ((with_reducible refine (AD.out _ _ _ zl zh).mono ?_); rintro e wa ⟨ba, Aa, na, ca, rfl, hb, za⟩) | ((with_reducible refine (I2.out _).mono ?_); rintro e wt ⟨bt, At, nt, ct, rfl, hb, zt⟩) | ((with_reducible refine (DV.out _ _ _ za zt).mono ?_); rintro e wd ⟨bq, Aq, nq, cq, br, Ar, nr, cr, rfl, hb, zq, zr⟩))
  refine hK.out _ _ (hHeld239.next hb) (fun hHeld240 => ?_)
  replace hS4 := hS4.next hb
  replace hS3 := hS3.next hb
  (try replace za := za.below hb)
  clear hK K
  try clear hb
  try simp only [Act.put, List.setIfInBounds_toArray, List.set_cons_zero, List.set_cons_succ]
  refine wpAnyH_ready (rs := [8]) (by kernel_rfl) (by simp) ?_
  refine AllReadyH.cons (o := ⟨some 16, _, _, _, _, _⟩) rfl (fun K hK => ?_) AllReadyH.nil
  go_simp
  (first | ((with_reducible refine (IL.out _).mono ?_); rintro e wl ⟨bl, Al, nl, cl, rfl, hb, zl⟩) | ((with_reducible refine (IH.out _).mono ?_); rintro e wh ⟨bh, Ah, nh, ch, rfl, hb, zh⟩) | ((with_reducible refine (AD.out _ _ _ zl zh).mono ?_); rintro e wa ⟨ba, Aa, na, ca, rfl, hb, za⟩) | ((with_reducible refine (I2.out _).mono ?_); rintro e wt ⟨bt, At, nt, ct, rfl, hb, zt⟩) | ((with_reducible refine (DV.out _ _ _ za zt).mono ?_); rintro e wd ⟨bq, Aq, nq, cq, br, Ar, nr, cr, rfl, hb, zq, zr⟩))
  refine hK.out _ _ (hHeld240.next hb) (fun hHeld241 => ?_)
  replace hS4 := hS4.next hb
  replace hS3 := hS3.next hb
  (try replace za := za.below hb)
  (try replace zt := zt.below hb)
  clear hK K
  try clear hb
  try simp only [Act.put, List.setIfInBounds_toArray, List.set_cons_zero, List.set_cons_succ]
  refine wpAnyH_take (i := 9) (oi := ⟨some 7, _, _, _, _, _⟩) (v := ?_) rfl (by kernel_rfl) (by kernel_rfl) (by kernel_rfl) (fun _ _ _ h => h) (Or.inl ⟨by rfl, ?_⟩) (by assumption) ?_
  rotate_left
  · intro wq hSw; go_simp; (try with_reducible rfl)
  try simp only [Act.put, List.setIfInBounds_toArray, List.set_cons_zero, List.set_cons_succ]
  refine wpAnyH_take (i := 10) (oi := ⟨some 17, _, _, _, _, _⟩) (v := ?_) rfl (by kernel_rfl) (by kernel_rfl) (by kernel_rfl) (fun _ _ _ h => h) (Or.inl ⟨by rfl, ?_⟩) (by assumption) ?_
  rotate_left
  · intro wq hSw; go_simp; (try with_reducible rfl)
  try simp only [Act.put, List.setIfInBounds_toArray, List.set_cons_zero, List.set_cons_succ]
  refine wpAnyH_take (i := 11) (oi := ⟨some 18, _, _, _, _, _⟩) (v := ?_) rfl (by kernel_rfl) (by kernel_rfl) (by kernel_rfl) (fun _ _ _ h => h) (Or.inl ⟨by rfl, ?_⟩) (by assumption) ?_
  rotate_left
  · intro wq hSw; go_simp; (try with_reducible rfl)
  try simp only [Act.put, List.setIfInBounds_toArray, List.set_cons_zero, List.set_cons_succ]
  refine wpAnyH_ready (rs := [14]) (by kernel_rfl) (by simp) ?_
  refine AllReadyH.cons (o := ⟨none, _, _, _, _, _⟩) rfl (fun K hK => ?_) AllReadyH.nil
  obtain ⟨⟨s3z0, s3c0, s3f0⟩, ⟨s3z1, s3c1, s3f1⟩, _⟩ := hS3.2
  go_simp
  refine hK.out _ _ (by (repeat (first | (with_reducible exact hHeld241) | (refine Keeps.set ?_ (by simp <;> omega) (by simp <;> omega) _)))) (fun hHeld242 => ?_)
  replace hS4 := hS4.mv2 hHeld242 (by first | omega | (simp <;> omega)) (by simp <;> omega)
  (try replace zq := zq.store2 hHeld242 s3c0 s3c1)
  replace hS3 := hHeld242.add2 s3z0 s3c0 s3f0 s3c1 s3f1
  clear s3z0 s3c0 s3f0 s3z1 s3c1 s3f1
  clear hK K
  try clear hb
  try simp only [Act.put, List.setIfInBounds_toArray, List.set_cons_zero, List.set_cons_succ]
  generalize hGWA137 : World.setCell (World.setCell wd ⟨WA120.heap.size, 0, none⟩ (.bool bq)) ⟨WA120.heap.size, 1, none⟩ (.slice Aq nq cq) = WA137 at *
  clear hGWA137
  refine wpAnyH_ready (rs := [15]) (by kernel_rfl) (by simp) ?_
  refine AllReadyH.cons (o := ⟨none, _, _, _, _, _⟩) rfl (fun K hK => ?_) AllReadyH.nil
  obtain ⟨⟨s4z0, s4c0, s4f0⟩, ⟨s4z1, s4c1, s4f1⟩, _⟩ := hS4.2
  go_simp
  refine hK.out _ _ (by (repeat (first | (with_reducible exact hHeld242) | (refine Keeps.set ?_ (by simp <;> omega) (by simp <;> omega) _)))) (fun hHeld243 => ?_)
  replace hS3 := hS3.mv2 hHeld243 (by first | omega | (simp <;> omega)) (by simp <;> omega)
  (try replace zq := zq.store2 hHeld243 s4c0 s4c1)
  replace hS4 := hHeld243.add2 s4z0 s4c0 s4f0 s4c1 s4f1
  clear s4z0 s4c0 s4f0 s4z1 s4c1 s4f1
  clear hK K
  try clear hb
  try simp only [Act.put, List.setIfInBounds_toArray, List.set_cons_zero, List.set_cons_succ]
  generalize hGWA138 : World.setCell (World.setCell WA137 ⟨wi.heap.size, 0, none⟩ (.bool br)) ⟨wi.heap.size, 1, none⟩ (.slice Ar nr cr) = WA138 at *
  clear hGWA138
  refine wpAnyH_done (by kernel_rfl) ?_ _
  have hHeld := hHeld243
  rotate_left 1
  exact AllReadyH.nil
  exact AllReadyH.nil
  all_goals
    obtain ⟨⟨gz0, gc0, gf0⟩, ⟨gz1, gc1, gf1⟩, _⟩ := hS3.2
    go_wp2_with fail
    refine (VA.out _ _ zq).mono ?_
    rintro e wz ⟨rfl, hb⟩
    replace hHeld := hHeld.next hb
    clear hb
    go_wp2_with fail
    go_ret
    exact ⟨rfl, hHeld.1⟩
end Go.Proofs.Ytmkminaipeodnaa.P8
