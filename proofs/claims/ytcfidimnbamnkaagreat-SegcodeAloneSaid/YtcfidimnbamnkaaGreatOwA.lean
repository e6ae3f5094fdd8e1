/-
 Layer 12: the law's own segment: cut to what may be, in memory of its own. Conditions: those written at each fact.
-/
import Derived.Test.YtcfidimnbamnkaaGreatKitW
import Derived.Maps.RangeWalk
import Derived.Test.YtcfidimnbamnkaaGreatSGA
import Derived.Test.YtcfidimnbamnkaaGreatFwA
import Derived.Test.YtcfidimnbamnkaaGreatKitC
namespace Go.Proofs.YtcfidimnbamnkaaGreat.P12
open Go.RowKit Go.Shelf Go.Proofs.YtcfidimnbamnkaaGreat.P2 Go.Proofs.YtcfidimnbamnkaaGreat.P7 Go.Proofs.YtcfidimnbamnkaaGreat.P11

def cutS (s : Sg) : Sg := { s with R := s.R.take 257, V := s.V.take 257 }
def Own12 (w : World) (s : Sg) (e : Ending) (w' : World) : Prop := ∃ A n c A' n' c', e = .returned (sgV s.k (.slice A n c) s.a s.r s.n s.d (.slice A' n' c') s.e) ∧ Below w.heap.size w w' ∧ w'.ownsRow w.heap.size 44 3 (.slice A n c) s.R.length (flatR s.R) ∧ w'.ownsRow w.heap.size 2 1 (.slice A' n' c') s.V.length (s.V.map (Value.int .i64))
theorem take_min {α : Type} (l : List α) : l.take (min l.length 257) = l.take 257 := by
 by_cases g : l.length ≤ 257
 ·rw [Nat.min_eq_left g, List.take_of_length_le (Nat.le_refl _), List.take_of_length_le g]
 ·rw [Nat.min_eq_right (by omega)]
set_option maxRecDepth 100000 in
set_option maxHeartbeats 4000000 in
theorem own12_any (s : Sg) (hR : s.R.length ≤ 9223372036854775807) (hV : s.V.length ≤ 9223372036854775807) (v u : Value) (w : World) (h : ReadsR w v s.R) (hu : Reads .i64 w u s.V) :
  Calls Tryz.prog 43 #[sgV s.k v s.a s.r s.n s.d u s.e] w (Own12 w (cutS s)) := by
 obtain ⟨k, R, a, r, n, d, V, e⟩ := s
 simp only at *
 unfold cutS
 obtain ⟨Ar, cr, rfl, hcr, hkr⟩ := id h
 obtain ⟨Av, cv, rfl, hcv, hkv⟩ := id hu
 obtain ⟨mr, hmr⟩ : ∃ m, m = min R.length 257 := ⟨_, rfl⟩
 obtain ⟨mv, hmv⟩ : ∃ m, m = min V.length 257 := ⟨_, rfl⟩
 have RT : ReadsR w (.slice Ar mr cr) (R.take 257) := by rw [← take_min, ← hmr]; exact P7.readsR_take h mr (by omega)
 have VT : Reads .i64 w (.slice Av mv cv) (V.take 257) := by rw [← take_min, ← hmv]; exact P7.reads_takeI hu mv (by omega)
 have hlr : (R.take 257).length ≤ 1000000 := by rw [List.length_take]; omega
 have hlv : (V.take 257).length ≤ 1000000 := by rw [List.length_take]; omega
 have hir : min (R.length : Int) 257 = (mr : Int) := by omega
 have hiv : min (V.length : Int) 257 = (mv : Int) := by omega
 have b0 : (0 : Int) ≤ (mr : Int) := by omega
 have b1 : (0 : Int) ≤ (mv : Int) := by omega
 have b2 : (mr : Int) ≤ (cr : Int) := by omega
 have b3 : (mv : Int) ≤ (cv : Int) := by omega
 have lz : ∀ W, Keeps w [(w.heap.size, 0, .int .i64 k), (w.heap.size, 1, .slice Ar R.length cr), (w.heap.size, 2, .int .i64 a), (w.heap.size, 3, .int .i64 r), (w.heap.size, 4, .int .i64 n), (w.heap.size, 5, .int .i64 d), (w.heap.size, 6, .slice Av V.length cv), (w.heap.size, 7, .int .i64 e), (w.heap.size + 1, 0, .int .i64 0), (w.heap.size + 1, 1, .slice none 0 0), (w.heap.size + 1, 2, .int .i64 0), (w.heap.size + 1, 3, .int .i64 0), (w.heap.size + 1, 4, .int .i64 0), (w.heap.size + 1, 5, .int .i64 0), (w.heap.size + 1, 6, .slice none 0 0), (w.heap.size + 1, 7, .int .i64 0)] W → w.heap.size + 2 ≤ W.heap.size := fun W hk => hk.2.2.2.2.2.2.2.2.2.1.1
 have C1 := Lib.hid (fun W (hk : Keeps w [(w.heap.size, 0, .int .i64 k), (w.heap.size, 1, .slice Ar R.length cr), (w.heap.size, 2, .int .i64 a), (w.heap.size, 3, .int .i64 r), (w.heap.size, 4, .int .i64 n), (w.heap.size, 5, .int .i64 d), (w.heap.size, 6, .slice Av V.length cv), (w.heap.size, 7, .int .i64 e), (w.heap.size + 1, 0, .int .i64 0), (w.heap.size + 1, 1, .slice none 0 0), (w.heap.size + 1, 2, .int .i64 0), (w.heap.size + 1, 3, .int .i64 0), (w.heap.size + 1, 4, .int .i64 0), (w.heap.size + 1, 5, .int .i64 0), (w.heap.size + 1, 6, .slice none 0 0), (w.heap.size + 1, 7, .int .i64 0)] W) => (P11.cloneR_any (R.take 257) hlr _ W (RT.below hk.1)).mono (fun _ _ ⟨A, n, c, e1, e2, e3⟩ => (⟨A, n, c, e1, e2, owns_less e3 (lz W hk)⟩ : ∃ A n c, _ = Ending.returned (.slice A n c) ∧ Below W.heap.size W _ ∧ World.ownsRow _ (w.heap.size + 2) 44 3 (.slice A n c) (R.take 257).length (flatR (R.take 257)))))
 have C2 := Lib.hid (fun W (hk : Keeps w [(w.heap.size, 0, .int .i64 k), (w.heap.size, 1, .slice Ar R.length cr), (w.heap.size, 2, .int .i64 a), (w.heap.size, 3, .int .i64 r), (w.heap.size, 4, .int .i64 n), (w.heap.size, 5, .int .i64 d), (w.heap.size, 6, .slice Av V.length cv), (w.heap.size, 7, .int .i64 e), (w.heap.size + 1, 0, .int .i64 0), (w.heap.size + 1, 1, .slice none 0 0), (w.heap.size + 1, 2, .int .i64 0), (w.heap.size + 1, 3, .int .i64 0), (w.heap.size + 1, 4, .int .i64 0), (w.heap.size + 1, 5, .int .i64 0), (w.heap.size + 1, 6, .slice none 0 0), (w.heap.size + 1, 7, .int .i64 0)] W) => (P11.cloneI_any (V.take 257) hlv _ W (VT.below hk.1)).mono (fun _ _ ⟨A, n, c, e1, e2, e3⟩ => (⟨A, n, c, e1, e2, owns_less e3 (lz W hk)⟩ : ∃ A n c, _ = Ending.returned (.slice A n c) ∧ Below W.heap.size W _ ∧ World.ownsRow _ (w.heap.size + 2) 2 1 (.slice A n c) (V.take 257).length ((V.take 257).map (Value.int .i64)))))
 generalize R.take 257 = R2 at *
 generalize V.take 257 = V2 at *
 clear h hu lz RT VT hlr hlv hkr hkv hmr hmv
 generalize R.length = nr at *
 generalize V.length = nv at *
 go_enter Tryz.func43, Tryz.ntmps43
 go_wp2_with fail
 refine c_region (S := Keeps w [(w.heap.size, 0, .int .i64 k), (w.heap.size, 1, .slice Ar nr cr), (w.heap.size, 2, .int .i64 a), (w.heap.size, 3, .int .i64 r), (w.heap.size, 4, .int .i64 n), (w.heap.size, 5, .int .i64 d), (w.heap.size, 6, .slice Av nv cv), (w.heap.size, 7, .int .i64 e), (w.heap.size + 1, 0, .int .i64 0), (w.heap.size + 1, 1, .slice none 0 0), (w.heap.size + 1, 2, .int .i64 0), (w.heap.size + 1, 3, .int .i64 0), (w.heap.size + 1, 4, .int .i64 0), (w.heap.size + 1, 5, .int .i64 0), (w.heap.size + 1, 6, .slice none 0 0), (w.heap.size + 1, 7, .int .i64 0)]) (fun i => i == 17 || i == 19) (by kernel_rfl) (by first | exact hHeld | (refine ⟨by go_grown, ?_⟩; simp [Cells, go_sem]; done)) (fun hHeld0 => ?_)
 refine cp 0 3 rfl rfl ?_
 try go_frame
 refine cl 1 4 rfl rfl (fun wq hSw => by obtain ⟨⟨_,_,_⟩,⟨_,_,_⟩,⟨_,_,_⟩,⟨_,_,_⟩,⟨_,_,_⟩,⟨_,_,_⟩,⟨_,_,_⟩,⟨_,_,_⟩,⟨_,_,_⟩,⟨_,_,_⟩,⟨_,_,_⟩,⟨_,_,_⟩,⟨_,_,_⟩,⟨_,_,_⟩,⟨_,_,_⟩,⟨_,_,_⟩,_⟩ := hSw.2; go_simp; (try with_reducible rfl)) ?_
 try go_frame
 refine cp 2 5 rfl rfl ?_
 try go_frame
 refine cl 3 6 rfl rfl (fun wq hSw => by obtain ⟨⟨_,_,_⟩,⟨_,_,_⟩,⟨_,_,_⟩,⟨_,_,_⟩,⟨_,_,_⟩,⟨_,_,_⟩,⟨_,_,_⟩,⟨_,_,_⟩,⟨_,_,_⟩,⟨_,_,_⟩,⟨_,_,_⟩,⟨_,_,_⟩,⟨_,_,_⟩,⟨_,_,_⟩,⟨_,_,_⟩,⟨_,_,_⟩,_⟩ := hSw.2; go_simp; (try with_reducible rfl)) ?_
 try go_frame
 refine cp 4 7 rfl rfl ?_
 try go_frame
 refine cp 5 8 rfl rfl ?_
 try go_frame
 refine cp 6 9 rfl rfl ?_
 try go_frame
 refine cp 8 11 rfl rfl ?_
 try go_frame
 refine cl 9 12 rfl rfl (fun wq hSw => by obtain ⟨⟨_,_,_⟩,⟨_,_,_⟩,⟨_,_,_⟩,⟨_,_,_⟩,⟨_,_,_⟩,⟨_,_,_⟩,⟨_,_,_⟩,⟨_,_,_⟩,⟨_,_,_⟩,⟨_,_,_⟩,⟨_,_,_⟩,⟨_,_,_⟩,⟨_,_,_⟩,⟨_,_,_⟩,⟨_,_,_⟩,⟨_,_,_⟩,_⟩ := hSw.2; go_simp; (try with_reducible rfl)) ?_
 try go_frame
 refine cp 10 13 rfl rfl ?_
 try go_frame
 refine cl 11 14 rfl rfl (fun wq hSw => by obtain ⟨⟨_,_,_⟩,⟨_,_,_⟩,⟨_,_,_⟩,⟨_,_,_⟩,⟨_,_,_⟩,⟨_,_,_⟩,⟨_,_,_⟩,⟨_,_,_⟩,⟨_,_,_⟩,⟨_,_,_⟩,⟨_,_,_⟩,⟨_,_,_⟩,⟨_,_,_⟩,⟨_,_,_⟩,⟨_,_,_⟩,⟨_,_,_⟩,_⟩ := hSw.2; go_simp; (try with_reducible rfl)) ?_
 try go_frame
 refine cp 12 15 rfl rfl ?_
 try go_frame
 refine cp 13 16 rfl rfl ?_
 try go_frame
 refine cp 14 17 rfl rfl ?_
 try go_frame
 refine c_ready [7] ?_
 refine AllC.cons (o := ⟨some 10, _, _, _, _, _⟩) rfl rfl (fun K hK => ?_) AllC.nil
 go_simp
 ((with_reducible refine (C1.out _ (by assumption)).mono ?_); rintro e wq ⟨A1, n1, c1, rfl, hb, ho1⟩; (try replace ho2 := owns_below ho2 hb))
 refine hK.out _ _ (hHeld0.next hb) (fun hHeld1 => ?_)
 clear hK K; try clear hb
 try go_frame
 refine cp 16 19 rfl rfl ?_
 try go_frame
 refine c_ready [15] ?_
 refine AllC.cons (o := ⟨some 18, _, _, _, _, _⟩) rfl rfl (fun K hK => ?_) AllC.nil
 go_simp
 ((with_reducible refine (C2.out _ (by assumption)).mono ?_); rintro e wq ⟨A2, n2, c2, rfl, hb, ho2⟩; (try replace ho1 := owns_below ho1 hb))
 refine hK.out _ _ (hHeld1.next hb) (fun hHeld2 => ?_)
 clear hK K; try clear hb
 try go_frame
 refine c_ready [17] ?_
 refine AllC.shut (o := ⟨none, _, _, _, _, _⟩) rfl rfl (fun K hK => ?_) AllC.nil
 have hHeld := hHeld2
 obtain ⟨⟨kz0,kc0,kf0⟩,⟨kz1,kc1,kf1⟩,⟨kz2,kc2,kf2⟩,⟨kz3,kc3,kf3⟩,⟨kz4,kc4,kf4⟩,⟨kz5,kc5,kf5⟩,⟨kz6,kc6,kf6⟩,⟨kz7,kc7,kf7⟩,⟨kz8,kc8,kf8⟩,⟨kz9,kc9,kf9⟩,⟨kz10,kc10,kf10⟩,⟨kz11,kc11,kf11⟩,⟨kz12,kc12,kf12⟩,⟨kz13,kc13,kf13⟩,⟨kz14,kc14,kf14⟩,⟨kz15,kc15,kf15⟩,_⟩ := hHeld.2
 go_simp
 refine hK.out _ _ (wpAny_of_held (S := fun _ => True) _ _ _ _ ?_)
 clear hK K
 try go_frame
 refine wpAnyH_take (i := 18) (oi := ⟨some 20, _, _, _, _, _⟩) (v := ?_) rfl (by kernel_rfl) (by kernel_rfl) (by kernel_rfl) (fun _ _ _ h => h) (Or.inl ⟨by rfl, ?_⟩) trivial ?_
 rotate_left
 ·intro wq _; go_simp; (try with_reducible rfl)
 try go_frame
 refine ty [19] ?_
 refine AllReadyH.cons rfl (fun K hK => ?_) AllReadyH.nil
 go_simp
 refine hK.out _ _ trivial (fun _ => ?_)
 clear hK K
 try go_frame
 refine wpAnyH_done (by kernel_rfl) ?_ _
 all_goals
  have hX := kupd (M := [(w.heap.size, 0, .int .i64 k), (w.heap.size, 1, .slice A1 n1 c1), (w.heap.size, 2, .int .i64 a), (w.heap.size, 3, .int .i64 r), (w.heap.size, 4, .int .i64 n), (w.heap.size, 5, .int .i64 d), (w.heap.size, 6, .slice Av nv cv), (w.heap.size, 7, .int .i64 e), (w.heap.size + 1, 0, .int .i64 0), (w.heap.size + 1, 1, .slice none 0 0), (w.heap.size + 1, 2, .int .i64 0), (w.heap.size + 1, 3, .int .i64 0), (w.heap.size + 1, 4, .int .i64 0), (w.heap.size + 1, 5, .int .i64 0), (w.heap.size + 1, 6, .slice none 0 0), (w.heap.size + 1, 7, .int .i64 0)]) hHeld kc1 (Nat.le_refl _) (.slice A1 n1 c1) (by simp [updL])
  have hY := kupd (M := [(w.heap.size, 0, .int .i64 k), (w.heap.size, 1, .slice A1 n1 c1), (w.heap.size, 2, .int .i64 a), (w.heap.size, 3, .int .i64 r), (w.heap.size, 4, .int .i64 n), (w.heap.size, 5, .int .i64 d), (w.heap.size, 6, .slice A2 n2 c2), (w.heap.size, 7, .int .i64 e), (w.heap.size + 1, 0, .int .i64 0), (w.heap.size + 1, 1, .slice none 0 0), (w.heap.size + 1, 2, .int .i64 0), (w.heap.size + 1, 3, .int .i64 0), (w.heap.size + 1, 4, .int .i64 0), (w.heap.size + 1, 5, .int .i64 0), (w.heap.size + 1, 6, .slice none 0 0), (w.heap.size + 1, 7, .int .i64 0)]) hX (off_cell (by simp) kc6) (Nat.le_refl _) (.slice A2 n2 c2) (by simp [updL])
  have hr := P7.owns_low (i := 6) (P7.owns_low (i := 1) ho1 (show w.heap.size < w.heap.size + 2 by omega) (.slice A1 n1 c1)) (show w.heap.size < w.heap.size + 2 by omega) (.slice A2 n2 c2)
  have hv := P7.owns_low (i := 6) (P7.owns_low (i := 1) ho2 (show w.heap.size < w.heap.size + 2 by omega) (.slice A1 n1 c1)) (show w.heap.size < w.heap.size + 2 by omega) (.slice A2 n2 c2)
  clear C1 C2 ho1 ho2 hX hHeld
  (try clear hHeld0); (try clear hHeld1); (try clear hHeld2)
  clear kz0 kc0 kf0 kz1 kc1 kf1 kz2 kc2 kf2 kz3 kc3 kf3 kz4 kc4 kf4 kz5 kc5 kf5 kz6 kc6 kf6 kz7 kc7 kf7 kz8 kc8 kf8 kz9 kc9 kf9 kz10 kc10 kf10 kz11 kc11 kf11 kz12 kc12 kf12 kz13 kc13 kf13 kz14 kc14 kf14 kz15 kc15 kf15
  generalize (wq.setCell ⟨w.heap.size, 1, none⟩ (.slice A1 n1 c1)).setCell ⟨w.heap.size, 6, none⟩ (.slice A2 n2 c2) = w3 at *
  obtain ⟨⟨kz0,kc0,kf0⟩,⟨kz1,kc1,kf1⟩,⟨kz2,kc2,kf2⟩,⟨kz3,kc3,kf3⟩,⟨kz4,kc4,kf4⟩,⟨kz5,kc5,kf5⟩,⟨kz6,kc6,kf6⟩,⟨kz7,kc7,kf7⟩,⟨kz8,kc8,kf8⟩,⟨kz9,kc9,kf9⟩,⟨kz10,kc10,kf10⟩,⟨kz11,kc11,kf11⟩,⟨kz12,kc12,kf12⟩,⟨kz13,kc13,kf13⟩,⟨kz14,kc14,kf14⟩,⟨kz15,kc15,kf15⟩,_⟩ := id hY.2
  go_wp2_with fail
  obtain ⟨d0, d1, d2, d3, d4, d5, d6, d7⟩ := set8 (u0 := .int .i64 k) (u1 := .slice A1 n1 c1) (u2 := .int .i64 a) (u3 := .int .i64 r) (u4 := .int .i64 n) (u5 := .int .i64 d) (u6 := .slice A2 n2 c2) (u7 := .int .i64 e) kc8 kc9 kc10 kc11 kc12 kc13 kc14 kc15
  have hP := store8 hY.1 (Nat.le_succ w.heap.size) (.int .i64 k) (.slice A1 n1 c1) (.int .i64 a) (.int .i64 r) (.int .i64 n) (.int .i64 d) (.slice A2 n2 c2) (.int .i64 e)
  have hr2 := owns8 (B' := w.heap.size) hr (Nat.lt_succ_self (w.heap.size + 1)) (by omega) (.int .i64 k) (.slice A1 n1 c1) (.int .i64 a) (.int .i64 r) (.int .i64 n) (.int .i64 d) (.slice A2 n2 c2) (.int .i64 e)
  have hv2 := owns8 (B' := w.heap.size) hv (Nat.lt_succ_self (w.heap.size + 1)) (by omega) (.int .i64 k) (.slice A1 n1 c1) (.int .i64 a) (.int .i64 r) (.int .i64 n) (.int .i64 d) (.slice A2 n2 c2) (.int .i64 e)
  clear hY hr hv kz0 kc0 kf0 kz1 kc1 kf1 kz2 kc2 kf2 kz3 kc3 kf3 kz4 kc4 kf4 kz5 kc5 kf5 kz6 kc6 kf6 kz7 kc7 kf7 kz8 kc8 kf8 kz9 kc9 kf9 kz10 kc10 kf10 kz11 kc11 kf11 kz12 kc12 kf12 kz13 kc13 kf13 kz14 kc14 kf14 kz15 kc15 kf15
  refine bodyPost_ret (v := sgV k (.slice A1 n1 c1) a r n d (.slice A2 n2 c2) e) (by simp [results, Tryz.results43, go_sem, d0, d1, d2, d3, d4, d5, d6, d7]) rfl ?_
  exact ⟨_, _, _, _, _, _, rfl, hP, hr2, hv2⟩
end Go.Proofs.YtcfidimnbamnkaaGreat.P12
