/-
  Layer 9: the law's wakes. Conditions: none.
-/
import Derived.Maps.RangeWalk
import Derived.Test.YtjioljgojfcckaaGreatSwN
namespace Go.Proofs.YtjioljgojfcckaaGreat.P9
open Go.RowKit Go.Shelf Go.Proofs.YtjioljgojfcckaaGreat.P8

def w4 : List Bd := [⟨0, 0, 0⟩, ⟨1, 2, 2⟩, ⟨2, 3, 3⟩, ⟨3, 4, 4⟩]
def w2 : List Bd := [⟨0, 0, 0⟩, ⟨1, 2, 2⟩]
theorem ok_w4 : okD w4 = true := by decide
theorem ok_w2 : okD w2 = true := by decide
theorem fir_w4 : firN w4 = 2 := by kernel_rfl
theorem fir_v : firN [⟨2, 3, 3⟩, ⟨3, 4, 4⟩] = 2 := by kernel_rfl
theorem fir_w2 : firN w2 = 2 := by kernel_rfl
theorem fix_w2 : (firX w2).v = 0 ∧ flatN (firX w2) = 2 ∧ flatE (firX w2) = 1 := ⟨by kernel_rfl, by kernel_rfl, by kernel_rfl⟩
theorem cut_w4 : flatI (rowS w4) = [.int .i64 2, .int .i64 2] ∧ (rowS w4).length = 2 ∧ codeS w4 = 0 := by
  have h : partsS w4 = [(w2, firX w4), ([⟨2, 3, 3⟩, ⟨3, 4, 4⟩], firX [⟨2, 3, 3⟩, ⟨3, 4, 4⟩])] := by
    rw [partsS_next (by simp [w4]), fir_w4]
    simp only [w4, List.drop_succ_cons, List.drop_zero]
    rw [partsS_next (by simp), fir_v]
    simp only [List.drop_succ_cons, List.drop_zero]
    rw [partsS_nil]
    rfl
  have hr : rowS w4 = partsS w4 := by simp [rowS, ok_w4]
  rw [hr, h]
  exact ⟨rfl, rfl, by simp [codeS, ok_w4]⟩
theorem fit_w2 : fitA w2 = 0 ∧ fitN w2 = 2 ∧ fitD9 w2 = 1 ∧ fitE w2 = 0 := by
  have h : fitE w2 = 0 := by rw [fitE, ok_w2, fir_w2]; rfl
  simp [fitA, fitN, fitD9, h, fix_w2]
theorem fit_w4 : fitE w4 = 4 := by rw [fitE, ok_w4, fir_w4]; rfl
theorem fit_w4z : fitA w4 = 0 ∧ fitN w4 = 0 ∧ fitD9 w4 = 0 := by simp [fitA, fitN, fitD9, fit_w4]
theorem thr_w2 : thrB 0 0 2 1 w2 = true := by kernel_rfl
set_option maxRecDepth 100000 in
set_option maxHeartbeats 2000000 in
theorem wakes_any (w : World) : Calls Tryz.prog 5 #[] w (Ret w (.bool true)) := by
  have CD : Hid (∀ (v : Value) (W : World), ReadsD W v w4 → Calls Tryz.prog 14 #[v] W (EndI W (rowS w4) 0)) := Lib.hid (fun v W h => by
    have := pubI_any _ (by decide) v W h
    rwa [cut_w4.2.2] at this)
  have F2 : Hid (∀ (v : Value) (W : World), ReadsD W v w2 → Calls Tryz.prog 7 #[v] W (Ret W (.tuple #[lnV 0 0 2 1, .int .i64 0]))) := Lib.hid (fun v W h => by
    have := fit9_any _ (by decide) v W h
    rwa [fit_w2.1, fit_w2.2.1, fit_w2.2.2.1, fit_w2.2.2.2] at this)
  have F4 : Hid (∀ (v : Value) (W : World), ReadsD W v w4 → Calls Tryz.prog 7 #[v] W (Ret W (.tuple #[lnV 0 0 0 0, .int .i64 4]))) := Lib.hid (fun v W h => by
    have := fit9_any _ (by decide) v W h
    rwa [fit_w4z.1, fit_w4z.2.1, fit_w4z.2.2, fit_w4] at this)
  have TH : Hid (∀ (v : Value) (W : World), ReadsD W v w2 → Calls Tryz.prog 9 #[lnV 0 0 2 1, v] W (Ret W (.bool true))) := Lib.hid (fun v W h => by
    have := thr_any 0 0 2 1 _ (by decide) v W h
    rwa [thr_w2] at this)
  have EQ : Hid (∀ (v v' : Value) (W : World), Reads .i64 W v [2, 2] → Reads .i64 W v' [2, 2] → Calls Tryz.prog 17 #[v, v'] W (Ret W (.bool true))) := Lib.hid (fun v v' W h h' => equalN _ (by decide) _ _ _ h h')
  have R4 : Hid (ReadsD (w.alloc (.cells (flatD w4).toArray 44)) (.slice (some ⟨w.heap.size, 0, none⟩) 4 4) w4) := Lib.hid (readsD_new 4 rfl)
  have R2 : Hid (ReadsD (w.alloc (.cells (flatD w4).toArray 44)) (.slice (some ⟨w.heap.size, 0, none⟩) 2 4) w2) := Lib.hid (readsD_take (l := w4) (c := 4) R4.out 2 (by decide))
  go_enter Tryz.func5, Tryz.ntmps5
  go_wp2_with fail
  have hb0 := below_alloc w (.cells (flatD w4).toArray 44)
  refine (CD.out _ _ R4.out).mono ?_
  rintro e w1 ⟨hb1, A5, n5, c5, rfl, ho⟩
  have HC : Hid (Reads .i64 w1 (.slice A5 n5 c5) [2, 2]) := Lib.hid (reads_own (by
    have := ho
    unfold RowI at this
    rw [cut_w4.1, cut_w4.2.1] at this
    exact this))
  obtain ⟨e5, _, _⟩ := HC.out.at
  simp only [List.length_cons, List.length_nil, Nat.reduceAdd] at e5
  subst e5
  have HB1 := Lib.hid hb1
  clear hb1 ho
  go_wp2_with fail
  refine (F2.out _ _ (R2.out.below HB1.out)).mono ?_
  rintro e w2' ⟨rfl, hb2⟩
  have hHeld : Keeps w [(w2'.heap.size, 0, .int .i64 0), (w2'.heap.size, 1, .int .i64 0), (w2'.heap.size, 2, .int .i64 2), (w2'.heap.size, 3, .int .i64 1)] (w2'.alloc (.cells #[.int .i64 0, .int .i64 0, .int .i64 2, .int .i64 1] 23)) := ⟨(under (under hb0 HB1.out) hb2).alloc (under (under hb0 HB1.out) hb2).size _, by simp [Cells, go_sem]⟩
  have hb3 : Below w1.heap.size w1 (w2'.alloc (.cells #[.int .i64 0, .int .i64 0, .int .i64 2, .int .i64 1] 23)) := hb2.alloc hb2.size _
  have HB3 := Lib.hid hb3
  clear hb2 hb3
  go_wp2_with fail
  refine (F4.out _ _ ((R4.out.below HB1.out).below HB3.out)).mono ?_
  rintro e w3 ⟨rfl, hb4⟩
  have HB4 := Lib.hid (under HB3.out hb4)
  replace hHeld := hHeld.next hb4
  clear hb4
  go_wp2_with fail
  replace hHeld := hHeld.alloc (.cells #[.int .i64 0, .int .i64 0, .int .i64 0, .int .i64 0] 23)
  have hB5 : Below w1.heap.size w1 (w3.alloc (.cells #[.int .i64 0, .int .i64 0, .int .i64 0, .int .i64 0] 23)) := HB4.out.alloc HB4.out.size _
  have HR := Lib.hid (And.intro (HC.out.below hB5) ((R2.out.below HB1.out).below hB5))
  generalize w3.alloc (.cells #[.int .i64 0, .int .i64 0, .int .i64 0, .int .i64 0] 23) = W3 at *
  have HL := Lib.hid hHeld
  clear hHeld hB5 HB4 HB3 HC R4 R2 CD F2 F4 hb0
  refine region_keeps (w0 := W3) (L := [(w2'.heap.size, 0, .int .i64 0), (w2'.heap.size, 1, .int .i64 0), (w2'.heap.size, 2, .int .i64 2), (w2'.heap.size, 3, .int .i64 1)]) (by kernel_rfl) ⟨Below.refl _ _, HL.out.2⟩ (fun hHeld0 => ?_)
  refine wpAnyH_take (i := 0) (oi := ⟨some 29, _, _, _, _, _⟩) (v := ?_) rfl (by kernel_rfl) (by kernel_rfl) (by kernel_rfl) (fun _ _ _ h => h) (Or.inl ⟨by rfl, ?_⟩) (by assumption) ?_
  rotate_left
  · intro wq hSw; go_simp; (try with_reducible rfl)
  try go_frame
  refine wpAnyH_take (i := 1) (oi := ⟨some 30, _, _, _, _, _⟩) (v := ?_) rfl (by kernel_rfl) (by kernel_rfl) (by kernel_rfl) (fun _ _ _ h => h) (Or.inl ⟨by rfl, ?_⟩) (by assumption) ?_
  rotate_left
  · intro wq hSw; go_simp; (try with_reducible rfl)
  try go_frame
  refine wpAnyH_take (i := 2) (oi := ⟨some 31, _, _, _, _, _⟩) (v := ?_) rfl (by kernel_rfl) (by kernel_rfl) (by kernel_rfl) (fun _ _ _ h => h) (Or.inl ⟨by rfl, ?_⟩) (by assumption) ?_
  rotate_left
  · intro wq hSw; go_simp; (try with_reducible rfl)
  try go_frame
  refine wpAnyH_take (i := 3) (oi := ⟨some 32, _, _, _, _, _⟩) (v := ?_) rfl (by kernel_rfl) (by kernel_rfl) (by kernel_rfl) (fun _ _ _ h => h) (Or.inl ⟨by rfl, ?_⟩) (by assumption) ?_
  rotate_left
  · intro wq hSw; go_simp; (try with_reducible rfl)
  try go_frame
  refine wpAnyH_ready (rs := [4]) (by kernel_rfl) (by simp) ?_
  refine AllReadyH.cons (o := ⟨some 33, _, _, _, _, _⟩) rfl (fun K hK => ?_) AllReadyH.nil
  go_simp
  refine hK.out _ _ (by first | exact hHeld0.alloc _ | exact (hHeld0.alloc _).drew) (fun hHeld1 => ?_)
  clear hK K
  try clear hb
  try go_frame
  refine wpAnyH_ready (rs := [5]) (by kernel_rfl) (by simp) ?_
  refine AllReadyH.cons (o := ⟨some 34, _, _, _, _, _⟩) rfl (fun K hK => ?_) AllReadyH.nil
  go_simp
  (have hq5 := EQ.out _ _ _ (HR.out.1.below hHeld1.1) (reads_two.below (Below.refl _ _).drew); (with_reducible refine Calls.mono hq5 ?_); rintro e w5 ⟨rfl, hb⟩)
  refine hK.out _ _ (hHeld1.next hb) (fun hHeld2 => ?_)
  clear hK K
  try clear hb
  try go_frame
  refine wpAnyH_take (i := 6) (oi := ⟨some 35, _, _, _, _, _⟩) (v := ?_) rfl (by kernel_rfl) (by kernel_rfl) (by kernel_rfl) (fun _ _ _ h => h) (Or.inl ⟨by rfl, ?_⟩) (by assumption) ?_
  rotate_left
  · intro wq hSw; go_simp; (try with_reducible rfl)
  try go_frame
  refine wpAnyH_take (i := 7) (oi := ⟨some 36, _, _, _, _, _⟩) (v := ?_) rfl (by kernel_rfl) (by kernel_rfl) (by kernel_rfl) (fun _ _ _ h => h) (Or.inl ⟨by rfl, ?_⟩) (by assumption) ?_
  rotate_left
  · intro wq hSw; go_simp; (try with_reducible rfl)
  try go_frame
  refine wpAnyH_take (i := 8) (oi := ⟨some 37, _, _, _, _, _⟩) (v := ?_) rfl (by kernel_rfl) (by kernel_rfl) (by kernel_rfl) (fun _ _ _ h => h) (Or.inl ⟨by rfl, ?_⟩) (by assumption) ?_
  rotate_left
  · intro wq hSw; go_simp; (try with_reducible rfl)
  try go_frame
  refine wpAnyH_take (i := 9) (oi := ⟨some 38, _, _, _, _, _⟩) (v := ?_) rfl (by kernel_rfl) (by kernel_rfl) (by kernel_rfl) (fun _ _ _ h => h) (Or.inl ⟨by rfl, ?_⟩) (by assumption) ?_
  rotate_left
  · intro wq hSw; go_simp; (try with_reducible rfl)
  try go_frame
  refine wpAnyH_take (i := 10) (oi := ⟨some 39, _, _, _, _, _⟩) (v := ?_) rfl (by kernel_rfl) (by kernel_rfl) (by kernel_rfl) (fun _ _ _ h => h) (Or.inl ⟨by rfl, ?_⟩) (by assumption) ?_
  rotate_left
  · intro wq hSw; go_simp; (try with_reducible rfl)
  try go_frame
  refine wpAnyH_take (i := 11) (oi := ⟨some 40, _, _, _, _, _⟩) (v := ?_) rfl (by kernel_rfl) (by kernel_rfl) (by kernel_rfl) (fun _ _ _ h => h) (Or.inl ⟨by rfl, ?_⟩) (by assumption) ?_
  rotate_left
  · intro wq hSw; go_simp; (try with_reducible rfl)
  try go_frame
  refine wpAnyH_take (i := 12) (oi := ⟨some 41, _, _, _, _, _⟩) (v := ?_) rfl (by kernel_rfl) (by kernel_rfl) (by kernel_rfl) (fun _ _ _ h => h) (Or.inl ⟨by rfl, ?_⟩) (by assumption) ?_
  rotate_left
  · intro wq hSw; obtain ⟨⟨qz0, qc0, qf0⟩, ⟨qz1, qc1, qf1⟩, ⟨qz2, qc2, qf2⟩, ⟨qz3, qc3, qf3⟩, _⟩ := hSw.2; go_simp; (try with_reducible rfl)
  try go_frame
  refine wpAnyH_take (i := 13) (oi := ⟨some 42, _, _, _, _, _⟩) (v := ?_) rfl (by kernel_rfl) (by kernel_rfl) (by kernel_rfl) (fun _ _ _ h => h) (Or.inl ⟨by rfl, ?_⟩) (by assumption) ?_
  rotate_left
  · intro wq hSw; go_simp; (try with_reducible rfl)
  try go_frame
  refine wpAnyH_take (i := 14) (oi := ⟨some 43, _, _, _, _, _⟩) (v := ?_) rfl (by kernel_rfl) (by kernel_rfl) (by kernel_rfl) (fun _ _ _ h => h) (Or.inl ⟨by rfl, ?_⟩) (by assumption) ?_
  rotate_left
  · intro wq hSw; go_simp; (try with_reducible rfl)
  try go_frame
  refine wpAnyH_take (i := 15) (oi := ⟨some 44, _, _, _, _, _⟩) (v := ?_) rfl (by kernel_rfl) (by kernel_rfl) (by kernel_rfl) (fun _ _ _ h => h) (Or.inl ⟨by rfl, ?_⟩) (by assumption) ?_
  rotate_left
  · intro wq hSw; go_simp; (try with_reducible rfl)
  try go_frame
  refine wpAnyH_take (i := 16) (oi := ⟨some 45, _, _, _, _, _⟩) (v := ?_) rfl (by kernel_rfl) (by kernel_rfl) (by kernel_rfl) (fun _ _ _ h => h) (Or.inl ⟨by rfl, ?_⟩) (by assumption) ?_
  rotate_left
  · intro wq hSw; go_simp; (try with_reducible rfl)
  try go_frame
  refine wpAnyH_take (i := 17) (oi := ⟨some 46, _, _, _, _, _⟩) (v := ?_) rfl (by kernel_rfl) (by kernel_rfl) (by kernel_rfl) (fun _ _ _ h => h) (Or.inl ⟨by rfl, ?_⟩) (by assumption) ?_
  rotate_left
  · intro wq hSw; go_simp; (try with_reducible rfl)
  try go_frame
  refine wpAnyH_take (i := 18) (oi := ⟨some 47, _, _, _, _, _⟩) (v := ?_) rfl (by kernel_rfl) (by kernel_rfl) (by kernel_rfl) (fun _ _ _ h => h) (Or.inl ⟨by rfl, ?_⟩) (by assumption) ?_
  rotate_left
  · intro wq hSw; go_simp; (try with_reducible rfl)
  try go_frame
  refine wpAnyH_take (i := 19) (oi := ⟨some 48, _, _, _, _, _⟩) (v := ?_) rfl (by kernel_rfl) (by kernel_rfl) (by kernel_rfl) (fun _ _ _ h => h) (Or.inl ⟨by rfl, ?_⟩) (by assumption) ?_
  rotate_left
  · intro wq hSw; go_simp; (try with_reducible rfl)
  try go_frame
  refine wpAnyH_take (i := 20) (oi := ⟨some 49, _, _, _, _, _⟩) (v := ?_) rfl (by kernel_rfl) (by kernel_rfl) (by kernel_rfl) (fun _ _ _ h => h) (Or.inl ⟨by rfl, ?_⟩) (by assumption) ?_
  rotate_left
  · intro wq hSw; go_simp; (try with_reducible rfl)
  try go_frame
  refine wpAnyH_take (i := 21) (oi := ⟨some 50, _, _, _, _, _⟩) (v := ?_) rfl (by kernel_rfl) (by kernel_rfl) (by kernel_rfl) (fun _ _ _ h => h) (Or.inl ⟨by rfl, ?_⟩) (by assumption) ?_
  rotate_left
  · intro wq hSw; obtain ⟨⟨qz0, qc0, qf0⟩, ⟨qz1, qc1, qf1⟩, ⟨qz2, qc2, qf2⟩, ⟨qz3, qc3, qf3⟩, _⟩ := hSw.2; go_simp; (try with_reducible rfl)
  try go_frame
  refine wpAnyH_take (i := 22) (oi := ⟨some 51, _, _, _, _, _⟩) (v := ?_) rfl (by kernel_rfl) (by kernel_rfl) (by kernel_rfl) (fun _ _ _ h => h) (Or.inl ⟨by rfl, ?_⟩) (by assumption) ?_
  rotate_left
  · intro wq hSw; go_simp; (try with_reducible rfl)
  try go_frame
  refine wpAnyH_take (i := 23) (oi := ⟨some 52, _, _, _, _, _⟩) (v := ?_) rfl (by kernel_rfl) (by kernel_rfl) (by kernel_rfl) (fun _ _ _ h => h) (Or.inl ⟨by rfl, ?_⟩) (by assumption) ?_
  rotate_left
  · intro wq hSw; go_simp; (try with_reducible rfl)
  try go_frame
  refine wpAnyH_ready (rs := [24]) (by kernel_rfl) (by simp) ?_
  refine AllReadyH.cons (o := ⟨some 53, _, _, _, _, _⟩) rfl (fun K hK => ?_) AllReadyH.nil
  go_simp
  (have hq24 := TH.out _ _ (HR.out.2.below hHeld2.1); (with_reducible refine Calls.mono hq24 ?_); rintro e w5 ⟨rfl, hb⟩)
  refine hK.out _ _ (hHeld2.next hb) (fun hHeld3 => ?_)
  clear hK K
  try clear hb
  try go_frame
  refine wpAnyH_take (i := 25) (oi := ⟨some 54, _, _, _, _, _⟩) (v := ?_) rfl (by kernel_rfl) (by kernel_rfl) (by kernel_rfl) (fun _ _ _ h => h) (Or.inl ⟨by rfl, ?_⟩) (by assumption) ?_
  rotate_left
  · intro wq hSw; go_simp; (try with_reducible rfl)
  try go_frame
  refine wpAnyH_take (i := 26) (oi := ⟨some 0, _, _, _, _, _⟩) (v := ?_) rfl (by kernel_rfl) (by kernel_rfl) (by kernel_rfl) (fun _ _ _ h => h) (Or.inl ⟨by rfl, ?_⟩) (by assumption) ?_
  rotate_left
  · intro wq hSw; go_simp; (try with_reducible rfl)
  try go_frame
  refine wpAnyH_done (by kernel_rfl) ?_ _
  have hHeld := hHeld3
  obtain ⟨⟨kz0, kc0, kf0⟩, ⟨kz1, kc1, kf1⟩, ⟨kz2, kc2, kf2⟩, ⟨kz3, kc3, kf3⟩, _⟩ := hHeld.2
  all_goals
    go_wp2_with fail
    go_returns
    exact ⟨rfl, under HL.out.1 hHeld.1⟩
end Go.Proofs.YtjioljgojfcckaaGreat.P9
