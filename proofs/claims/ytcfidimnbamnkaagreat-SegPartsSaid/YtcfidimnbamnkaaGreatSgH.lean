/-
 Layer 11: the least and the greatest of numbers; what each part of a row comes to, together. Conditions: those written at each fact.
-/
import Derived.Test.YtcfidimnbamnkaaGreatKitV
import Derived.Test.YtcfidimnbamnkaaGreatKitW
import Derived.Maps.RangeWalk
import Derived.Test.YtcfidimnbamnkaaGreatSgG
import Derived.Test.YtcfidimnbamnkaaGreatKitT
import Derived.Test.YtcfidimnbamnkaaGreatKitS
import Derived.Test.YtcfidimnbamnkaaGreatFC
namespace Go.Proofs.YtcfidimnbamnkaaGreat.P11
open Go.RowKit Go.Shelf Go.Proofs.YtcfidimnbamnkaaGreat.P7

theorem kput2 {w W : World} {B : Nat} {a b : Value} (h : Keeps w [(B, 0, a), (B, 1, b)] W) (hB : w.heap.size ≤ B) (u0 u1 : Value) : Keeps w [(B, 0, u0), (B, 1, u1)] ((W.setCell ⟨B, 0, none⟩ u0).setCell ⟨B, 1, none⟩ u1) := by
 obtain ⟨h1, ⟨z0, c0, f0⟩, ⟨z1, c1, f1⟩, _⟩ := h
 obtain ⟨d0, d1⟩ := set2 (u0 := u0) (u1 := u1) c0 c1
 exact ⟨(h1.setCell (p := ⟨B, 0, none⟩) hB _).setCell (p := ⟨B, 1, none⟩) hB _, ⟨by simpa [World.setCell] using z0, d0, by simp only [World.frozen?_setCell]; exact f0⟩, ⟨by simpa [World.setCell] using z1, d1, by simp only [World.frozen?_setCell]; exact f1⟩, trivial⟩
theorem one_more {k N : Nat} (h : k < N) (hN : N ≤ 1000000) : wrap64 ((k : Int) + 1) = (k : Int) + 1 := i64_keeps (by omega) (by omega)
theorem turn_less {k N : Nat} (h : k < N) : N - (intOf (Value.int .i64 ((k : Int) + 1))).toNat < N - (intOf (Value.int .i64 (k : Int))).toNat := by simp [intOf]; omega
set_option maxRecDepth 100000 in
set_option maxHeartbeats 1000000 in
theorem min_any (V : List Int) (hl : V.length ≤ 1000000) (h0 : V ≠ []) (u : Value) (w : World) (h : Reads .i64 w u V) :
  Calls Tryz.prog 206 #[u] w (Ret w (.int .i64 (minL V))) := by
 obtain ⟨A, c, rfl, hc, hk⟩ := h
 have HK := Lib.hid hk
 obtain ⟨x0, hx0⟩ : ∃ x, V[0]? = some x := ⟨_, List.getElem?_eq_getElem (List.length_pos_iff.2 h0)⟩
 obtain ⟨bb, off, rfl, hbw, c0⟩ := hk 0 x0 hx0
 replace c0 : w.cell? ⟨bb, off, none⟩ = some (.int .i64 x0) := by simpa using c0
 have hM0 : Hid (x0 = minL (V.take 1)) := Lib.hid (by
  obtain ⟨y, l, rfl⟩ := List.exists_cons_of_ne_nil h0
  simp at hx0
  subst hx0
  rfl)
 have hn0 : 0 < V.length := List.length_pos_iff.2 h0
 have i0 : (0 : Int) < (V.length : Int) := by omega
 have i1 : decide ((V.length : Int) < 1) = false := by simp; omega
 clear hk hx0 h0
 go_enter Tryz.func206, Tryz.ntmps206
 go_wp2_with fail
 go_loopw [3, 4] (fun x i wr => ∃ (k : Nat) (m : Int), x = .int .i64 m ∧ i = .int .i64 k ∧ k ≤ V.length ∧ 1 ≤ k ∧ Hid (m = minL (V.take k)) ∧ Below w.heap.size w wr) (fun _ i => fun _ => V.length - (intOf i).toNat)
 case atStart => exact ⟨1, x0, rfl, rfl, by omega, Nat.le_refl _, hM0, by go_grown⟩
 case round =>
  obtain ⟨k, m, rfl, rfl, hkl, hk1, hM, hB⟩ := hrel
  by_cases hlt : k < V.length
  ·obtain ⟨z, hx⟩ : ∃ z, V[k]? = some z := ⟨_, List.getElem?_eq_getElem hlt⟩
   obtain ⟨bb2, off2, hbe, hbw2, hc1⟩ := HK.out k _ hx
   cases hbe
   have c1 := (hB.cell (p := ⟨bb, off + k, none⟩) hbw2).trans hc1
   have j1 : (k : Int) < (V.length : Int) := by omega
   have j0 : (0 : Int) ≤ (k : Int) := by omega
   have hN : Hid (minL (V.take (k + 1)) = min m z) := Lib.hid (by
    have hne : V.take k ≠ [] := by
     rw [ne_eq, List.take_eq_nil_iff]
     rintro (h | h)
     ·omega
     ·rw [h] at hlt; simp at hlt
    rw [List.take_add_one, hx, hM.out]
    exact minL_snoc hne z)
   have hk2 : k + 1 ≤ V.length := hlt
   have wk := one_more hlt hl
   have tl := Lib.hid (turn_less hlt)
   clear hc1 hM hx c0 hM0 i0 i1
   go_wp2_with fail
   go_roundw
   case rel => exact ⟨k + 1, min m z, rfl, by simp, hk2, by omega, Lib.hid hN.out.symm, hB⟩
   case measure => exact tl.out
  ·have j1 : ¬ (k : Int) < (V.length : Int) := by omega
   have e : Hid (m = minL V) := Lib.hid (by
    have e : k = V.length := by omega
    have := hM.out
    rwa [e, List.take_length] at this)
   clear hM hM0 c0 i0 i1
   go_wp2_with fail
   go_ret
   exact ⟨by rw [← e.out]; rfl, hB⟩
set_option maxRecDepth 100000 in
set_option maxHeartbeats 1000000 in
theorem max_any (V : List Int) (hl : V.length ≤ 1000000) (h0 : V ≠ []) (u : Value) (w : World) (h : Reads .i64 w u V) :
  Calls Tryz.prog 207 #[u] w (Ret w (.int .i64 (maxL V))) := by
 obtain ⟨A, c, rfl, hc, hk⟩ := h
 have HK := Lib.hid hk
 obtain ⟨x0, hx0⟩ : ∃ x, V[0]? = some x := ⟨_, List.getElem?_eq_getElem (List.length_pos_iff.2 h0)⟩
 obtain ⟨bb, off, rfl, hbw, c0⟩ := hk 0 x0 hx0
 replace c0 : w.cell? ⟨bb, off, none⟩ = some (.int .i64 x0) := by simpa using c0
 have hM0 : Hid (x0 = maxL (V.take 1)) := Lib.hid (by
  obtain ⟨y, l, rfl⟩ := List.exists_cons_of_ne_nil h0
  simp at hx0
  subst hx0
  rfl)
 have hn0 : 0 < V.length := List.length_pos_iff.2 h0
 have i0 : (0 : Int) < (V.length : Int) := by omega
 have i1 : decide ((V.length : Int) < 1) = false := by simp; omega
 clear hk hx0 h0
 go_enter Tryz.func207, Tryz.ntmps207
 go_wp2_with fail
 go_loopw [3, 4] (fun x i wr => ∃ (k : Nat) (m : Int), x = .int .i64 m ∧ i = .int .i64 k ∧ k ≤ V.length ∧ 1 ≤ k ∧ Hid (m = maxL (V.take k)) ∧ Below w.heap.size w wr) (fun _ i => fun _ => V.length - (intOf i).toNat)
 case atStart => exact ⟨1, x0, rfl, rfl, by omega, Nat.le_refl _, hM0, by go_grown⟩
 case round =>
  obtain ⟨k, m, rfl, rfl, hkl, hk1, hM, hB⟩ := hrel
  by_cases hlt : k < V.length
  ·obtain ⟨z, hx⟩ : ∃ z, V[k]? = some z := ⟨_, List.getElem?_eq_getElem hlt⟩
   obtain ⟨bb2, off2, hbe, hbw2, hc1⟩ := HK.out k _ hx
   cases hbe
   have c1 := (hB.cell (p := ⟨bb, off + k, none⟩) hbw2).trans hc1
   have j1 : (k : Int) < (V.length : Int) := by omega
   have j0 : (0 : Int) ≤ (k : Int) := by omega
   have hN : Hid (maxL (V.take (k + 1)) = max m z) := Lib.hid (by
    have hne : V.take k ≠ [] := by
     rw [ne_eq, List.take_eq_nil_iff]
     rintro (h | h)
     ·omega
     ·rw [h] at hlt; simp at hlt
    rw [List.take_add_one, hx, hM.out]
    exact maxL_snoc hne z)
   have hk2 : k + 1 ≤ V.length := hlt
   have wk := one_more hlt hl
   have tl := Lib.hid (turn_less hlt)
   clear hc1 hM hx c0 hM0 i0 i1
   go_wp2_with fail
   go_roundw
   case rel => exact ⟨k + 1, max m z, rfl, by simp, hk2, by omega, Lib.hid hN.out.symm, hB⟩
   case measure => exact tl.out
  ·have j1 : ¬ (k : Int) < (V.length : Int) := by omega
   have e : Hid (m = maxL V) := Lib.hid (by
    have e : k = V.length := by omega
    have := hM.out
    rwa [e, List.take_length] at this)
   clear hM hM0 c0 i0 i1
   go_wp2_with fail
   go_ret
   exact ⟨by rw [← e.out]; rfl, hB⟩
set_option maxRecDepth 100000 in
set_option maxHeartbeats 2000000 in
theorem sumI_any (V : List Int) (hl : V.length ≤ 256) (hV : ∀ v ∈ V, backB v = true) (u : Value) (w : World) (h : Reads .i64 w u V) :
  Calls Tryz.prog 208 #[u, fnV 36] w (Ret w (wz (sumL V))) := by
 obtain ⟨A, c, rfl, hc, hk⟩ := h
 have HK := Lib.hid hk
 have hb : ∀ k, -(256 * 2305844108725321728) ≤ sumL (V.take k) ∧ sumL (V.take k) ≤ 256 * 2305844108725321728 := fun k => by
  have h1 := sumL_bound (l := V.take k) (M := 2305844108725321728) (fun v hv => (backB_iff v).1 (hV v (List.mem_of_mem_take hv)))
  have hk2 : (V.take k).length ≤ 256 := by rw [List.length_take]; omega
  have h2 : ((V.take k).length : Int) * 2305844108725321728 ≤ 256 * 2305844108725321728 := Int.mul_le_mul_of_nonneg_right (by omega) (by omega)
  omega
 obtain ⟨S, hS⟩ : ∃ S : Nat → Int, S = fun k => sumL (V.take k) := ⟨_, rfl⟩
 have HF : Hid (∀ k, Fits (S k)) := Lib.hid (fun k => by have := hb k; rw [hS]; simp only; unfold Fits; omega)
 have HI : Hid (∀ v ∈ V, I64 v) := Lib.hid (fun v hv => by have := (backB_iff v).1 (hV v hv); unfold I64; omega)
 have T0 : S 0 = 0 := by rw [hS]; rfl
 have TN : Hid (S V.length = sumL V) := Lib.hid (by rw [hS]; simp)
 have TS : Hid (∀ k z, V[k]? = some z → S (k + 1) = S k + z) := Lib.hid (fun k z hx => by
  rw [hS]
  simp only
  rw [List.take_add_one, hx, sumL_app]
  simp [sumL])
 have q0 : rhi (S 0) = 0 := by rw [T0]; exact zero_words.1
 have q1 : rlo (S 0) = 0 := by rw [T0]; exact zero_words.2
 clear hk hb hV hS T0
 generalize hN : V.length = N at *
 have hK0 : Keeps w [(w.heap.size, 0, .int .i64 0), (w.heap.size, 1, .int .u64 0), (w.heap.size + 1, 0, .int .i64 (rhi (S 0))), (w.heap.size + 1, 1, .int .u64 (rlo (S 0)))] ((w.alloc (.cells #[.int .i64 0, .int .u64 0] 57)).alloc (.cells #[.int .i64 0, .int .u64 0] 57)) := by
  rw [q0, q1]
  refine ⟨by go_grown, ?_⟩
  simp [Cells, go_sem]
 replace hN := Lib.hid hN
 clear q0 q1
 go_enter Tryz.func208, Tryz.ntmps208
 go_wp2_with fail
 go_loopw [10] (fun i wr => ∃ k : Nat, i = .int .i64 k ∧ k ≤ N ∧ Keeps w [(w.heap.size, 0, .int .i64 0), (w.heap.size, 1, .int .u64 0), (w.heap.size + 1, 0, .int .i64 (rhi (S k))), (w.heap.size + 1, 1, .int .u64 (rlo (S k)))] wr) (fun i => fun _ => N - (intOf i).toNat)
 case atStart => exact ⟨0, rfl, Nat.zero_le _, hK0⟩
 case round =>
  obtain ⟨k, rfl, hkl, hH⟩ := hrel
  clear hK0
  by_cases hlt : k < N
  ·obtain ⟨z, hx⟩ : ∃ z, V[k]? = some z := ⟨_, List.getElem?_eq_getElem (by rw [hN.out]; exact hlt)⟩
   obtain ⟨bb, off, rfl, hbw, hc1⟩ := HK.out k _ hx
   have c1 := (hH.1.cell (p := ⟨bb, off + k, none⟩) hbw).trans hc1
   have j1 : (k : Int) < (N : Int) := by omega
   have j0 : (0 : Int) ≤ (k : Int) := by omega
   have e1 := Lib.hid (TS.out k z hx)
   have hiz := HI.out z (List.mem_of_getElem? hx)
   have OF := Lib.hid (fun W => of_any z hiz W)
   have AD := Lib.hid (fun W => add_fits (S k) z (HF.out k) (fits_i64 hiz) (by rw [← e1.out]; exact HF.out (k + 1)) W)
   have hL : Keeps w [(w.heap.size, 0, .int .i64 0), (w.heap.size, 1, .int .u64 0)] wr := hH.sub (by simp)
   have hS2 : Keeps w [(w.heap.size + 1, 0, .int .i64 (rhi (S k))), (w.heap.size + 1, 1, .int .u64 (rlo (S k)))] wr := hH.sub (by simp)
   have wk := one_more hlt (by omega)
   have tl := Lib.hid (turn_less hlt)
   rw [← e1.out] at AD
   obtain ⟨s2, hs2⟩ : ∃ s2, s2 = S (k + 1) := ⟨_, rfl⟩
   rw [← hs2] at AD
   have HS2 := Lib.hid hs2
   clear hs2 e1
   clear hc1 hx hiz hH
   go_wp2_with fail
   refine region_keepsB (w0 := w) (L := [(w.heap.size, 0, .int .i64 0), (w.heap.size, 1, .int .u64 0)]) (M := [(w.heap.size + 1, 0, .int .i64 (rhi (S k))), (w.heap.size + 1, 1, .int .u64 (rlo (S k)))]) (by kernel_rfl) hL hS2 (fun hHeld0 hT0 => ?_)
   refine tv 1 16 rfl rfl ?_
   try go_frame
   refine tv 2 17 rfl rfl ?_
   try go_frame
   refine ty [0, 3] ?_
   refine AllReadyH.cons rfl (fun K hK => ?_) ?_
   obtain ⟨⟨kz0, kc0, kf0⟩, ⟨kz1, kc1, kf1⟩, _⟩ := hHeld0.2
   obtain ⟨⟨t0z0, t0c0, t0f0⟩, ⟨t0z1, t0c1, t0f1⟩, _⟩ := hT0.2
   go_simp
   refine hK.out _ _ hHeld0 (fun hHeld1 => ?_)
   clear hK K; try clear hb
   try go_frame
   refine tw 3 rfl fun K hK => ?_
   go_simp
   ((with_reducible refine (OF.out _).mono ?_); rintro e w1 ⟨rfl, hb⟩)
   refine hK.out _ _ (hHeld1.next hb) (fun hHeld2 => ?_)
   replace hT0 := hT0.next hb
   clear hK K; try clear hb
   try go_frame
   refine tw 4 rfl fun K hK => ?_
   go_simp
   ((with_reducible refine (AD.out _).mono ?_); rintro e w2 ⟨rfl, hb⟩)
   refine hK.out _ _ (hHeld2.next hb) (fun hHeld3 => ?_)
   replace hT0 := hT0.next hb
   clear hK K; try clear hb
   try go_frame
   refine tv 5 14 rfl rfl ?_
   try go_frame
   refine tv 6 20 rfl rfl ?_
   try go_frame
   refine tv 7 21 rfl rfl ?_
   try go_frame
   refine tw 8 rfl fun K hK => ?_
   obtain ⟨⟨t0z0, t0c0, t0f0⟩, ⟨t0z1, t0c1, t0f1⟩, _⟩ := hT0.2; (try simp at t0z0); (try simp at t0c0); (try simp at t0f0); (try simp at t0z1); (try simp at t0c1); (try simp at t0f1)
   go_simp
   refine hK.out _ _ (by first | exact hHeld3.alloc _ | (repeat (first | (with_reducible exact hHeld3) | (with_reducible exact (Keeps.undrewR hHeld3)) | (refine Keeps.set ?_ (by simp <;> omega) (by simp <;> omega) _) | (with_reducible refine Keeps.drew ?_)))) (fun hHeld4 => ?_)
   clear hK K; try clear hb
   try go_frame
   refine wpAnyH_done (by kernel_rfl) ?_ _
   have hHeld := hHeld4
   obtain ⟨⟨kz0, kc0, kf0⟩, ⟨kz1, kc1, kf1⟩, _⟩ := hHeld.2
   rotate_left 1
   refine AllReadyH.cons rfl (fun K hK => ?_) ?_
   go_simp
   ((with_reducible refine (OF.out _).mono ?_); rintro e w1 ⟨rfl, hb⟩)
   refine hK.out _ _ (hHeld0.next hb) (fun hHeld5 => ?_)
   replace hT0 := hT0.next hb
   clear hK K; try clear hb
   try go_frame
   refine tw 0 rfl fun K hK => ?_
   obtain ⟨⟨kz0, kc0, kf0⟩, ⟨kz1, kc1, kf1⟩, _⟩ := hHeld5.2
   obtain ⟨⟨t0z0, t0c0, t0f0⟩, ⟨t0z1, t0c1, t0f1⟩, _⟩ := hT0.2
   go_simp
   refine hK.out _ _ hHeld5 (fun hHeld6 => ?_)
   clear hK K; try clear hb
   try go_frame
   refine tw 4 rfl fun K hK => ?_
   go_simp
   ((with_reducible refine (AD.out _).mono ?_); rintro e w2 ⟨rfl, hb⟩)
   refine hK.out _ _ (hHeld6.next hb) (fun hHeld7 => ?_)
   replace hT0 := hT0.next hb
   clear hK K; try clear hb
   try go_frame
   refine tv 5 14 rfl rfl ?_
   try go_frame
   refine tv 6 20 rfl rfl ?_
   try go_frame
   refine tv 7 21 rfl rfl ?_
   try go_frame
   refine tw 8 rfl fun K hK => ?_
   obtain ⟨⟨t0z0, t0c0, t0f0⟩, ⟨t0z1, t0c1, t0f1⟩, _⟩ := hT0.2; (try simp at t0z0); (try simp at t0c0); (try simp at t0f0); (try simp at t0z1); (try simp at t0c1); (try simp at t0f1)
   go_simp
   refine hK.out _ _ (by first | exact hHeld7.alloc _ | (repeat (first | (with_reducible exact hHeld7) | (with_reducible exact (Keeps.undrewR hHeld7)) | (refine Keeps.set ?_ (by simp <;> omega) (by simp <;> omega) _) | (with_reducible refine Keeps.drew ?_)))) (fun hHeld8 => ?_)
   clear hK K; try clear hb
   try go_frame
   refine wpAnyH_done (by kernel_rfl) ?_ _
   have hHeld := hHeld8
   obtain ⟨⟨kz0, kc0, kf0⟩, ⟨kz1, kc1, kf1⟩, _⟩ := hHeld.2
   rotate_left 1
   exact AllReadyH.nil
   all_goals
    have hP := hHeld.app (kput2 hT0 (by omega) (.int .i64 (rhi s2)) (.int .u64 (rlo s2)))
    clear hHeld hHeld0 hT0 t0c0 t0c1 t0f0 t0f1 t0z0 t0z1 hL hS2
    (try clear hHeld0); (try clear hHeld1); (try clear hHeld2); (try clear hHeld3); (try clear hHeld4); (try clear hHeld5); (try clear hHeld6); (try clear hHeld7); (try clear hHeld8); (try clear hT0); (try clear kz0 kc0 kf0); (try clear kz1 kc1 kf1); (try clear kz2 kc2 kf2); (try clear kz3 kc3 kf3); (try clear t0z0 t0c0 t0f0); (try clear t0z1 t0c1 t0f1)
    go_wp2_with fail
    go_roundw
    case rel => exact ⟨k + 1, by simp, hlt, by rw [← HS2.out]; exact hP⟩
    case measure => exact tl.out
  ·have j1 : ¬ (k : Int) < (N : Int) := by omega
   have e : k = N := by omega
   subst e
   obtain ⟨⟨kz0,kc0,kf0⟩,⟨kz1,kc1,kf1⟩,⟨kz2,kc2,kf2⟩,⟨kz3,kc3,kf3⟩,_⟩ := hH.2
   go_wp2_with fail
   obtain ⟨d0, d1⟩ := set2 (W := wr) (B := w.heap.size) (u0 := .int .i64 (rhi (S k))) (u1 := .int .u64 (rlo (S k))) kc0 kc1
   refine bodyPost_ret (v := wz (S k)) (by simp [results, Tryz.results208, go_sem, d0, d1]) rfl ?_
   exact ⟨by rw [TN.out], (hH.1.setCell (Nat.le_refl _) _).setCell (Nat.le_refl _) _⟩
set_option maxRecDepth 100000 in
set_option maxHeartbeats 2000000 in
theorem sumR_any (V : List Rn) (hl : V.length ≤ 256) (g : Rn → Int) (hV : ∀ r ∈ V, -1180591620717411303424 ≤ g r ∧ g r ≤ 1180591620717411303424) (F : Value) (rc : Value) (hF : F = .func (.func 203) #[rc] #[]) (u : Value) (w : World)
  (AL : ∀ r ∈ V, ∀ W, Below w.heap.size w W → Calls Tryz.prog 203 #[rc, runV r] W (Ret W (wz (g r)))) (h : ReadsR w u V) :
  Calls Tryz.prog 202 #[u, F] w (Ret w (wz (sumL (V.map g)))) := by
 subst hF
 obtain ⟨A, c, rfl, hc, hk⟩ := h
 have HK := Lib.hid hk
 have HA := Lib.hid AL
 have hb : ∀ k, -(256 * 1180591620717411303424) ≤ sumL ((V.take k).map g) ∧ sumL ((V.take k).map g) ≤ 256 * 1180591620717411303424 := fun k => by
  have h1 := sumL_bound (l := (V.take k).map g) (M := 1180591620717411303424) (fun v hv => by
   obtain ⟨r, hr, rfl⟩ := List.mem_map.1 hv
   exact hV r (List.mem_of_mem_take hr))
  have hk2 : ((V.take k).map g).length ≤ 256 := by rw [List.length_map, List.length_take]; omega
  have h2 : (((V.take k).map g).length : Int) * 1180591620717411303424 ≤ 256 * 1180591620717411303424 := Int.mul_le_mul_of_nonneg_right (by omega) (by omega)
  omega
 obtain ⟨S, hS⟩ : ∃ S : Nat → Int, S = fun k => sumL ((V.take k).map g) := ⟨_, rfl⟩
 have HF : Hid (∀ k, Fits (S k)) := Lib.hid (fun k => by have := hb k; rw [hS]; simp only; unfold Fits; omega)
 have HI : Hid (∀ r ∈ V, Fits (g r)) := Lib.hid (fun r hr => by have := hV r hr; unfold Fits; omega)
 have T0 : S 0 = 0 := by rw [hS]; rfl
 have TN : Hid (S V.length = sumL (V.map g)) := Lib.hid (by rw [hS]; simp)
 have TS : Hid (∀ k z, V[k]? = some z → S (k + 1) = S k + g z) := Lib.hid (fun k z hx => by
  rw [hS]
  simp only
  rw [List.take_add_one, hx, List.map_append, sumL_app]
  simp [sumL])
 have q0 : rhi (S 0) = 0 := by rw [T0]; exact zero_words.1
 have q1 : rlo (S 0) = 0 := by rw [T0]; exact zero_words.2
 clear hk hb hV hS T0 AL
 generalize hN : V.length = N at *
 have hK0 : Keeps w [(w.heap.size, 0, .int .i64 0), (w.heap.size, 1, .int .u64 0), (w.heap.size + 1, 0, .int .i64 (rhi (S 0))), (w.heap.size + 1, 1, .int .u64 (rlo (S 0)))] ((w.alloc (.cells #[.int .i64 0, .int .u64 0] 57)).alloc (.cells #[.int .i64 0, .int .u64 0] 57)) := by
  rw [q0, q1]
  refine ⟨by go_grown, ?_⟩
  simp [Cells, go_sem]
 replace hN := Lib.hid hN
 clear q0 q1
 go_enter Tryz.func202, Tryz.ntmps202
 go_wp2_with fail
 go_loopw [10] (fun i wr => ∃ k : Nat, i = .int .i64 k ∧ k ≤ N ∧ Keeps w [(w.heap.size, 0, .int .i64 0), (w.heap.size, 1, .int .u64 0), (w.heap.size + 1, 0, .int .i64 (rhi (S k))), (w.heap.size + 1, 1, .int .u64 (rlo (S k)))] wr) (fun i => fun _ => N - (intOf i).toNat)
 case atStart => exact ⟨0, rfl, Nat.zero_le _, hK0⟩
 case round =>
  obtain ⟨k, rfl, hkl, hH⟩ := hrel
  clear hK0
  by_cases hlt : k < N
  ·obtain ⟨z, hx⟩ : ∃ z, V[k]? = some z := ⟨_, List.getElem?_eq_getElem (by rw [hN.out]; exact hlt)⟩
   obtain ⟨bb, off, rfl, hbw, hc1, hc2, hc3⟩ := HK.out k _ hx
   have c1 := (hH.1.cell (p := ⟨bb, off + k * 3, none⟩) hbw).trans hc1
   have c2 := (hH.1.cell (p := ⟨bb, off + k * 3 + 1, none⟩) hbw).trans hc2
   have c3 := (hH.1.cell (p := ⟨bb, off + k * 3 + 2, none⟩) hbw).trans hc3
   have j1 : (k : Int) < (N : Int) := by omega
   have j0 : (0 : Int) ≤ (k : Int) := by omega
   have e1 := Lib.hid (TS.out k z hx)
   have hiz := HI.out z (List.mem_of_getElem? hx)
   have OF := Lib.hid (HA.out z (List.mem_of_getElem? hx))
   obtain ⟨zf, zs, zc⟩ := z
   obtain ⟨y, hy⟩ : ∃ y, y = g ⟨zf, zs, zc⟩ := ⟨_, rfl⟩
   rw [← hy] at hiz OF e1
   simp only at c1 c2 c3
   have AD := Lib.hid (fun W => add_fits (S k) y (HF.out k) hiz (by rw [← e1.out]; exact HF.out (k + 1)) W)
   have hNW : Keeps w [(wr.heap.size, 0, .int .i64 zf), (wr.heap.size, 1, .int .i64 zs), (wr.heap.size, 2, .int .i64 zc)] (wr.alloc (.cells #[.int .i64 zf, .int .i64 zs, .int .i64 zc] 44)) := newK3 (hH.alloc _)
   have hL : Keeps w [(w.heap.size, 0, .int .i64 0), (w.heap.size, 1, .int .u64 0), (wr.heap.size, 0, .int .i64 zf), (wr.heap.size, 1, .int .i64 zs), (wr.heap.size, 2, .int .i64 zc)] (wr.alloc (.cells #[.int .i64 zf, .int .i64 zs, .int .i64 zc] 44)) := ((hH.alloc _).sub (L' := [(w.heap.size, 0, .int .i64 0), (w.heap.size, 1, .int .u64 0)]) (by simp)).app hNW
   have hS2 : Keeps w [(w.heap.size + 1, 0, .int .i64 (rhi (S k))), (w.heap.size + 1, 1, .int .u64 (rlo (S k)))] (wr.alloc (.cells #[.int .i64 zf, .int .i64 zs, .int .i64 zc] 44)) := (hH.alloc _).sub (by simp)
   have hlz : w.heap.size + 1 < wr.heap.size := by obtain ⟨_, _, _, ⟨h1, _, _⟩, _⟩ := hH; exact h1
   have wk := one_more hlt (by omega)
   have tl := Lib.hid (turn_less hlt)
   rw [← e1.out] at AD
   obtain ⟨s2, hs2⟩ : ∃ s2, s2 = S (k + 1) := ⟨_, rfl⟩
   rw [← hs2] at AD
   have HS2 := Lib.hid hs2
   clear hs2
   clear hc1 hc2 hc3 hx hiz hH hNW hy e1
   go_wp2_with fail
   refine region_keepsB (w0 := w) (L := [(w.heap.size, 0, .int .i64 0), (w.heap.size, 1, .int .u64 0), (wr.heap.size, 0, .int .i64 zf), (wr.heap.size, 1, .int .i64 zs), (wr.heap.size, 2, .int .i64 zc)]) (M := [(w.heap.size + 1, 0, .int .i64 (rhi (S k))), (w.heap.size + 1, 1, .int .u64 (rlo (S k)))]) (by kernel_rfl) hL hS2 (fun hHeld0 hT0 => ?_)
   refine tv 1 16 rfl rfl ?_
   try go_frame
   refine tk 2 17 rfl rfl ?_ ?_ ?_
   rotate_left
   ·intro wq hSw; obtain ⟨⟨_,_,_⟩,⟨_,_,_⟩,⟨_,_,_⟩,⟨_,_,_⟩,⟨_,_,_⟩,_⟩ := hSw.2; go_simp; (try with_reducible rfl)
   try go_frame
   refine ty [0, 3] ?_
   refine AllReadyH.cons rfl (fun K hK => ?_) ?_
   obtain ⟨⟨kz0,kc0,kf0⟩,⟨kz1,kc1,kf1⟩,⟨kz2,kc2,kf2⟩,⟨kz3,kc3,kf3⟩,⟨kz4,kc4,kf4⟩,_⟩ := hHeld0.2
   obtain ⟨⟨t0z0, t0c0, t0f0⟩, ⟨t0z1, t0c1, t0f1⟩, _⟩ := hT0.2
   go_simp
   refine hK.out _ _ hHeld0 (fun hHeld1 => ?_)
   clear hK K; try clear hb
   try go_frame
   refine tw 3 rfl fun K hK => ?_
   go_simp
   ((with_reducible refine (OF.out _ (by exact kbel (by assumption))).mono ?_); rintro e w1 ⟨rfl, hb⟩)
   refine hK.out _ _ (hHeld1.next hb) (fun hHeld2 => ?_)
   replace hT0 := hT0.next hb
   clear hK K; try clear hb
   try go_frame
   refine tw 4 rfl fun K hK => ?_
   go_simp
   ((with_reducible refine (AD.out _).mono ?_); rintro e w2 ⟨rfl, hb⟩)
   refine hK.out _ _ (hHeld2.next hb) (fun hHeld3 => ?_)
   replace hT0 := hT0.next hb
   clear hK K; try clear hb
   try go_frame
   refine tv 5 14 rfl rfl ?_
   try go_frame
   refine tv 6 20 rfl rfl ?_
   try go_frame
   refine tv 7 21 rfl rfl ?_
   try go_frame
   refine tw 8 rfl fun K hK => ?_
   obtain ⟨⟨t0z0, t0c0, t0f0⟩, ⟨t0z1, t0c1, t0f1⟩, _⟩ := hT0.2; (try simp at t0z0); (try simp at t0c0); (try simp at t0f0); (try simp at t0z1); (try simp at t0c1); (try simp at t0f1)
   go_simp
   refine hK.out _ _ (by first | exact hHeld3.alloc _ | (repeat (first | (with_reducible exact hHeld3) | (with_reducible exact (Keeps.undrewR hHeld3)) | (refine Keeps.set ?_ (by simp <;> omega) (by simp <;> omega) _) | (with_reducible refine Keeps.drew ?_)))) (fun hHeld4 => ?_)
   clear hK K; try clear hb
   try go_frame
   refine wpAnyH_done (by kernel_rfl) ?_ _
   have hHeld := hHeld4
   obtain ⟨⟨kz0,kc0,kf0⟩,⟨kz1,kc1,kf1⟩,⟨kz2,kc2,kf2⟩,⟨kz3,kc3,kf3⟩,⟨kz4,kc4,kf4⟩,_⟩ := hHeld.2
   rotate_left 1
   refine AllReadyH.cons rfl (fun K hK => ?_) ?_
   go_simp
   ((with_reducible refine (OF.out _ (by exact kbel (by assumption))).mono ?_); rintro e w1 ⟨rfl, hb⟩)
   refine hK.out _ _ (hHeld0.next hb) (fun hHeld5 => ?_)
   replace hT0 := hT0.next hb
   clear hK K; try clear hb
   try go_frame
   refine tw 0 rfl fun K hK => ?_
   obtain ⟨⟨kz0,kc0,kf0⟩,⟨kz1,kc1,kf1⟩,⟨kz2,kc2,kf2⟩,⟨kz3,kc3,kf3⟩,⟨kz4,kc4,kf4⟩,_⟩ := hHeld5.2
   obtain ⟨⟨t0z0, t0c0, t0f0⟩, ⟨t0z1, t0c1, t0f1⟩, _⟩ := hT0.2
   go_simp
   refine hK.out _ _ hHeld5 (fun hHeld6 => ?_)
   clear hK K; try clear hb
   try go_frame
   refine tw 4 rfl fun K hK => ?_
   go_simp
   ((with_reducible refine (AD.out _).mono ?_); rintro e w2 ⟨rfl, hb⟩)
   refine hK.out _ _ (hHeld6.next hb) (fun hHeld7 => ?_)
   replace hT0 := hT0.next hb
   clear hK K; try clear hb
   try go_frame
   refine tv 5 14 rfl rfl ?_
   try go_frame
   refine tv 6 20 rfl rfl ?_
   try go_frame
   refine tv 7 21 rfl rfl ?_
   try go_frame
   refine tw 8 rfl fun K hK => ?_
   obtain ⟨⟨t0z0, t0c0, t0f0⟩, ⟨t0z1, t0c1, t0f1⟩, _⟩ := hT0.2; (try simp at t0z0); (try simp at t0c0); (try simp at t0f0); (try simp at t0z1); (try simp at t0c1); (try simp at t0f1)
   go_simp
   refine hK.out _ _ (by first | exact hHeld7.alloc _ | (repeat (first | (with_reducible exact hHeld7) | (with_reducible exact (Keeps.undrewR hHeld7)) | (refine Keeps.set ?_ (by simp <;> omega) (by simp <;> omega) _) | (with_reducible refine Keeps.drew ?_)))) (fun hHeld8 => ?_)
   clear hK K; try clear hb
   try go_frame
   refine wpAnyH_done (by kernel_rfl) ?_ _
   have hHeld := hHeld8
   obtain ⟨⟨kz0,kc0,kf0⟩,⟨kz1,kc1,kf1⟩,⟨kz2,kc2,kf2⟩,⟨kz3,kc3,kf3⟩,⟨kz4,kc4,kf4⟩,_⟩ := hHeld.2
   rotate_left 1
   exact AllReadyH.nil
   all_goals
    have hP := (hHeld.sub (L' := [(w.heap.size, 0, .int .i64 0), (w.heap.size, 1, .int .u64 0)]) (by simp)).app (kput2 hT0 (by omega) (.int .i64 (rhi s2)) (.int .u64 (rlo s2)))
    clear hHeld hHeld0 hT0 t0c0 t0c1 t0f0 t0f1 t0z0 t0z1 hL hS2
    (try clear hHeld0); (try clear hHeld1); (try clear hHeld2); (try clear hHeld3); (try clear hHeld4); (try clear hHeld5); (try clear hHeld6); (try clear hHeld7); (try clear hHeld8); (try clear hHeld9); (try clear hHeld10); (try clear hHeld11); (try clear hHeld12); (try clear hHeld13); (try clear hT0); (try clear kz0 kc0 kf0); (try clear kz1 kc1 kf1); (try clear kz2 kc2 kf2); (try clear kz3 kc3 kf3); (try clear kz4 kc4 kf4); (try clear t0z0 t0c0 t0f0); (try clear t0z1 t0c1 t0f1)
    go_wp2_with fail
    go_roundw
    case rel => exact ⟨k + 1, by simp, hlt, by rw [← HS2.out]; exact hP⟩
    case measure => exact tl.out
  ·have j1 : ¬ (k : Int) < (N : Int) := by omega
   have e : k = N := by omega
   subst e
   obtain ⟨⟨kz0,kc0,kf0⟩,⟨kz1,kc1,kf1⟩,⟨kz2,kc2,kf2⟩,⟨kz3,kc3,kf3⟩,_⟩ := hH.2
   go_wp2_with fail
   obtain ⟨d0, d1⟩ := set2 (W := wr) (B := w.heap.size) (u0 := .int .i64 (rhi (S k))) (u1 := .int .u64 (rlo (S k))) kc0 kc1
   refine bodyPost_ret (v := wz (S k)) (by simp [results, Tryz.results202, go_sem, d0, d1]) rfl ?_
   exact ⟨by rw [TN.out], (hH.1.setCell (Nat.le_refl _) _).setCell (Nat.le_refl _) _⟩
end Go.Proofs.YtcfidimnbamnkaaGreat.P11
