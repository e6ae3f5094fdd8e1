/-
  The document's own answers for layer 10: how bands are cut. Conditions: those written at each fact.
-/
import Derived.Test.YtmdhgiaaofdjiaaGreatDcU
namespace Go.Proofs.YtmdhgiaaofdjiaaGreat.P10
open Go.RowKit Go.Shelf Go.Proofs.YtmdhgiaaofdjiaaGreat.P8

set_option maxRecDepth 100000 in
set_option maxHeartbeats 4000000 in
theorem refCut_any (m : List Bd) (hl : m.length ≤ 1000) (hR : RowOk m) (v : Value) (w : World) (h : ReadsD w v m) :
    Calls Tryz.prog 36 #[v] w (fun e w' => Below w.heap.size w w' ∧ ∃ A n c, e = .returned (.slice A n c) ∧ RowC w.heap.size (cutN m) (.slice A n c) w') := by
  have hr := h
  obtain ⟨A, c, rfl, hc, _⟩ := h
  have HR := Lib.hid hR
  have HD0 := Lib.hid hr
  obtain ⟨i0, hi, hz0, hz1, hz2⟩ := info_parts8 infoInt
  obtain ⟨R, hRr⟩ : ∃ R, R = cutN m := ⟨_, rfl⟩
  rw [← hRr]
  have AS : Hid ([] ++ cutN (m.drop 0) = R) := Lib.hid (by simpa using hRr.symm)
  clear hr hR hRr
  go_enter Tryz.func36, Tryz.ntmps36
  go_wp2_with fail
  go_loopw [0, 3] (fun o s wr => ∃ (k n : Nat) (A' : Option Addr) (c' : Nat) (done : List Nat), o = .slice A' n c' ∧ Hid (k ≤ m.length) ∧ Hid (n = m.length - k) ∧ n ≤ 1000 ∧ n ≤ c' ∧ Hid (done ++ cutN (m.drop k) = R) ∧ Hid (done.length ≤ k) ∧ Hid (RowC w.heap.size done s wr) ∧ Hid (ReadsD w (.slice A' n c') (m.drop k)) ∧ Below w.heap.size w wr) (fun o _ _ => lenV o)
  case atStart => exact ⟨0, m.length, A, c, [], rfl, Lib.hid (by omega), Lib.hid (by omega), hl, hc, AS, Lib.hid (by simp), Lib.hid (World.ownsRow_nil _ _ _ _), Lib.hid (by simpa using HD0.out), Below.refl _ _⟩
  case round =>
    obtain ⟨k, n, A', c', done, rfl, hk, hn, hn2, hnc, hD, hL, hO, hRd, hB⟩ := hrel
    clear HD0 AS
    by_cases g0 : n = 0
    · have E : Hid (done = R) := Lib.hid (by
        have h1 : m.drop k = [] := List.drop_eq_nil_of_le (by have := hn.out; have := hk.out; omega)
        have := hD.out
        rwa [h1, cutN_nil, List.append_nil] at this)
      have HO := Lib.hid hO.out
      subst g0
      clear hRd hD hk hn
      have hsl : ∃ A n c, u3 = .slice A n c := by
        rcases HO.out.2 with ⟨e, _⟩ | ⟨g', cap, cur, e, _⟩
        · exact ⟨_, _, _, e⟩
        · exact ⟨_, _, _, e⟩
      obtain ⟨A4, n4, c4, rfl⟩ := hsl
      go_wp2_with fail
      go_ret
      exact ⟨hB, _, _, _, rfl, by rw [← E.out]; exact HO.out⟩
    have g1 : (0 : Int) < (n : Int) := by omega
    have hrl : (m.drop k).length = n := by rw [List.length_drop]; exact hn.out.symm
    have hne : m.drop k ≠ [] := by
      intro e
      rw [e] at hrl
      simp at hrl
      omega
    have LA := Lib.hid (refLongest_any (m.drop k) (by omega) (HR.out.drop k) _ _ (hRd.out.below hB))
    obtain ⟨N1, N2⟩ := firN_le hne
    have hD1 := hD.out
    rw [cutN_next hne, List.drop_drop] at hD1
    rw [hrl] at N2
    generalize firN (m.drop k) = N at *
    obtain ⟨bb, off, rfl, hr1, hr0⟩ := hRd.out.rest (X := N) hn.out N2 N1
    obtain ⟨p1, p2⟩ := places hn.out (X := N) N2 hk.out
    have HN := Lib.hid (And.intro p1 p2)
    have HD2 := Lib.hid hD1
    have HR1 := Lib.hid hr1
    have HR0 := Lib.hid hr0
    have HM : Hid (lenV (.slice (some ⟨bb, off, none⟩) (n - N) 0) < lenV (.slice (some ⟨bb, off, none⟩) n c')) := Lib.hid (by simp only [lenV]; omega)
    have HO : Hid (wr.ownsRow w.heap.size 3 1 u3 done.length (cntV done)) := Lib.hid hO.out
    have hdl : done.length ≤ 1000 := by have := hL.out; have := hk.out; omega
    have n1 : (N : Int) ≤ (n : Int) := by omega
    have n2 : (N : Int) ≤ (c' : Int) := by omega
    have n3 : (0 : Int) ≤ (N : Int) := by omega
    clear hD1 hr1 hr0 p1 p2 hne hrl hD hO hRd
    by_cases hcx : c' = N
    · have HRZ := Lib.hid (HR0.out hcx)
      clear HR0 HR1
      subst hcx
      have e0 : n - c' = 0 := by omega
      rw [e0] at HRZ HN HM
      replace e0 := Lib.hid e0
      go_wp2_with fail
      refine LA.out.mono ?_
      rintro e w5 ⟨rfl, hb5⟩
      have hB5 := under hB hb5
      have hO5 := Lib.hid (owns_below HO.out hb5)
      have HLN := Lib.hid (fun j hj => (hO5.out.lt j hj).1)
      clear hb5
      go_wp2_with fail
      refine region_keeps (w0 := w) (L := []) (by kernel_rfl) ⟨hB5, trivial⟩ (fun hHeld0 => ?_)
      refine wpAnyH_take (i := 0) (oi := ⟨some 10, _, _, _, _, _⟩) (v := ?_) rfl (by kernel_rfl) (by kernel_rfl) (by kernel_rfl) (fun _ _ _ h => h) (Or.inl ⟨by rfl, ?_⟩) (by assumption) ?_
      rotate_left
      · intro wq hSw; go_simp; (try with_reducible rfl)
      try simp only [Act.put, List.setIfInBounds_toArray, List.set_cons_zero, List.set_cons_succ]
      refine wpAnyH_take (i := 1) (oi := ⟨some 11, _, _, _, _, _⟩) (v := ?_) rfl (by kernel_rfl) (by kernel_rfl) (by kernel_rfl) (fun _ _ _ h => h) (Or.inl ⟨by rfl, ?_⟩) (by assumption) ?_
      rotate_left
      · intro wq hSw; go_simp; (try with_reducible rfl)
      try simp only [Act.put, List.setIfInBounds_toArray, List.set_cons_zero, List.set_cons_succ]
      refine wpAnyH_take (i := 4) (oi := ⟨some 14, _, _, _, _, _⟩) (v := ?_) rfl (by kernel_rfl) (by kernel_rfl) (by kernel_rfl) (fun _ _ _ h => h) (Or.inl ⟨by rfl, ?_⟩) (by assumption) ?_
      rotate_left
      · intro wq hSw; go_simp; (try with_reducible rfl)
      try simp only [Act.put, List.setIfInBounds_toArray, List.set_cons_zero, List.set_cons_succ]
      refine wpAnyH_take (i := 5) (oi := ⟨some 15, _, _, _, _, _⟩) (v := ?_) rfl (by kernel_rfl) (by kernel_rfl) (by kernel_rfl) (fun _ _ _ h => h) (Or.inl ⟨by rfl, ?_⟩) (by assumption) ?_
      rotate_left
      · intro wq hSw; go_simp; (try with_reducible rfl)
      try simp only [Act.put, List.setIfInBounds_toArray, List.set_cons_zero, List.set_cons_succ]
      refine wpAnyH_take (i := 6) (oi := ⟨some 16, _, _, _, _, _⟩) (v := ?_) rfl (by kernel_rfl) (by kernel_rfl) (by kernel_rfl) (fun _ _ _ h => h) (Or.inl ⟨by rfl, ?_⟩) (by assumption) ?_
      rotate_left
      · intro wq hSw; go_simp; (try with_reducible rfl)
      try simp only [Act.put, List.setIfInBounds_toArray, List.set_cons_zero, List.set_cons_succ]
      refine wpAnyH_ready (rs := [2]) (by kernel_rfl) (by simp) ?_
      refine AllReadyH.cons (o := ⟨some 12, _, _, _, _, _⟩) rfl (fun K hK => ?_) AllReadyH.nil
      go_simp
      refine hK.out _ _ (by first | exact hHeld0.alloc _ | exact (hHeld0.alloc _).drew) (fun hHeld1 => ?_)
      clear hK K
      try clear hb
      try simp only [Act.put, List.setIfInBounds_toArray, List.set_cons_zero, List.set_cons_succ]
      refine wpAnyH_ready (rs := [3]) (by kernel_rfl) (by simp) ?_
      refine AllReadyH.cons (o := ⟨some 13, _, _, _, _, _⟩) rfl (fun K hK => ?_) AllReadyH.nil
      (refine if_wanted rfl ?_; refine wp_append_own_at _ (.tmp 10) (.tmp 12) 34 rfl w.heap.size 3 i0 (.int .i64 0) 1 8 Tryz.underlying34 hi hz0 hz1 hz2 rfl (by decide) u3 _ _ rfl (owns_below hO5.out (below_alloc w5 _).drew) ⟨w5.heap.size, 0, none⟩ 1 1 [.int .i64 (c' : Int)] rfl rfl (new_cells1 rfl) (by intro u hu; simp at hu; subst hu; rfl) (by unfold maxLen; omega) (by omega) (hHeld1).1.size (fun v8 w8 hown8 hgrow8 h8 => ?_))
      refine hK.out _ _ (⟨((hHeld1).1).grown hgrow8 (hHeld1).1.size (fun j hj => HLN.out j hj), trivial⟩) (fun hHeld2 => ?_)
      clear hK K
      try clear hb
      try simp only [Act.put, List.setIfInBounds_toArray, List.set_cons_zero, List.set_cons_succ]
      refine wpAnyH_take (i := 7) (oi := ⟨some 3, _, _, _, _, _⟩) (v := ?_) rfl (by kernel_rfl) (by kernel_rfl) (by kernel_rfl) (fun _ _ _ h => h) (Or.inl ⟨by rfl, ?_⟩) (by assumption) ?_
      rotate_left
      · intro wq hSw; go_simp; (try with_reducible rfl)
      try simp only [Act.put, List.setIfInBounds_toArray, List.set_cons_zero, List.set_cons_succ]
      refine wpAnyH_take (i := 8) (oi := ⟨some 0, _, _, _, _, _⟩) (v := ?_) rfl (by kernel_rfl) (by kernel_rfl) (by kernel_rfl) (fun _ _ _ h => h) (Or.inl ⟨by rfl, ?_⟩) (by assumption) ?_
      rotate_left
      · intro wq hSw; go_simp; (try with_reducible rfl)
      try simp only [Act.put, List.setIfInBounds_toArray, List.set_cons_zero]
      refine wpAnyH_done (by kernel_rfl) ?_ _
      have hHeld := hHeld2
      all_goals
        obtain ⟨g8, cap8, rfl⟩ := ownsRow_succ hown8
        have HO8 := Lib.hid hown8
        have HB8 := Lib.hid hHeld.1
        clear hgrow8 h8 hown8
        go_wp2_with fail
        go_roundw
        case rel => exact ⟨k + c', 0, _, 0, done ++ [c'], rfl, Lib.hid HN.out.2, Lib.hid HN.out.1, by omega, by omega, Lib.hid (by rw [List.append_assoc]; exact HD2.out), Lib.hid (by rw [List.length_append]; have := hL.out; simp; omega), Lib.hid (by unfold RowC cntV; rw [List.map_append, List.length_append]; exact HO8.out), HRZ, HB8.out⟩
        case measure => exact HM.out
    · have hcy : ¬ N = c' := fun e => hcx e.symm
      go_wp2_with fail
      refine LA.out.mono ?_
      rintro e w5 ⟨rfl, hb5⟩
      have hB5 := under hB hb5
      have hO5 := Lib.hid (owns_below HO.out hb5)
      have HLN := Lib.hid (fun j hj => (hO5.out.lt j hj).1)
      clear hb5
      go_wp2_with fail
      refine region_keeps (w0 := w) (L := []) (by kernel_rfl) ⟨hB5, trivial⟩ (fun hHeld0 => ?_)
      refine wpAnyH_take (i := 0) (oi := ⟨some 10, _, _, _, _, _⟩) (v := ?_) rfl (by kernel_rfl) (by kernel_rfl) (by kernel_rfl) (fun _ _ _ h => h) (Or.inl ⟨by rfl, ?_⟩) (by assumption) ?_
      rotate_left
      · intro wq hSw; go_simp; (try with_reducible rfl)
      try simp only [Act.put, List.setIfInBounds_toArray, List.set_cons_zero, List.set_cons_succ]
      refine wpAnyH_take (i := 1) (oi := ⟨some 11, _, _, _, _, _⟩) (v := ?_) rfl (by kernel_rfl) (by kernel_rfl) (by kernel_rfl) (fun _ _ _ h => h) (Or.inl ⟨by rfl, ?_⟩) (by assumption) ?_
      rotate_left
      · intro wq hSw; go_simp; (try with_reducible rfl)
      try simp only [Act.put, List.setIfInBounds_toArray, List.set_cons_zero, List.set_cons_succ]
      refine wpAnyH_take (i := 4) (oi := ⟨some 14, _, _, _, _, _⟩) (v := ?_) rfl (by kernel_rfl) (by kernel_rfl) (by kernel_rfl) (fun _ _ _ h => h) (Or.inl ⟨by rfl, ?_⟩) (by assumption) ?_
      rotate_left
      · intro wq hSw; go_simp; (try with_reducible rfl)
      try simp only [Act.put, List.setIfInBounds_toArray, List.set_cons_zero, List.set_cons_succ]
      refine wpAnyH_take (i := 5) (oi := ⟨some 15, _, _, _, _, _⟩) (v := ?_) rfl (by kernel_rfl) (by kernel_rfl) (by kernel_rfl) (fun _ _ _ h => h) (Or.inl ⟨by rfl, ?_⟩) (by assumption) ?_
      rotate_left
      · intro wq hSw; go_simp; (try with_reducible rfl)
      try simp only [Act.put, List.setIfInBounds_toArray, List.set_cons_zero, List.set_cons_succ]
      refine wpAnyH_take (i := 6) (oi := ⟨some 16, _, _, _, _, _⟩) (v := ?_) rfl (by kernel_rfl) (by kernel_rfl) (by kernel_rfl) (fun _ _ _ h => h) (Or.inl ⟨by rfl, ?_⟩) (by assumption) ?_
      rotate_left
      · intro wq hSw; go_simp; (try with_reducible rfl)
      try simp only [Act.put, List.setIfInBounds_toArray, List.set_cons_zero, List.set_cons_succ]
      refine wpAnyH_ready (rs := [2]) (by kernel_rfl) (by simp) ?_
      refine AllReadyH.cons (o := ⟨some 12, _, _, _, _, _⟩) rfl (fun K hK => ?_) AllReadyH.nil
      go_simp
      refine hK.out _ _ (by first | exact hHeld0.alloc _ | exact (hHeld0.alloc _).drew) (fun hHeld1 => ?_)
      clear hK K
      try clear hb
      try simp only [Act.put, List.setIfInBounds_toArray, List.set_cons_zero, List.set_cons_succ]
      refine wpAnyH_ready (rs := [3]) (by kernel_rfl) (by simp) ?_
      refine AllReadyH.cons (o := ⟨some 13, _, _, _, _, _⟩) rfl (fun K hK => ?_) AllReadyH.nil
      (refine if_wanted rfl ?_; refine wp_append_own_at _ (.tmp 10) (.tmp 12) 34 rfl w.heap.size 3 i0 (.int .i64 0) 1 8 Tryz.underlying34 hi hz0 hz1 hz2 rfl (by decide) u3 _ _ rfl (owns_below hO5.out (below_alloc w5 _).drew) ⟨w5.heap.size, 0, none⟩ 1 1 [.int .i64 (N : Int)] rfl rfl (new_cells1 rfl) (by intro u hu; simp at hu; subst hu; rfl) (by unfold maxLen; omega) (by omega) (hHeld1).1.size (fun v8 w8 hown8 hgrow8 h8 => ?_))
      refine hK.out _ _ (⟨((hHeld1).1).grown hgrow8 (hHeld1).1.size (fun j hj => HLN.out j hj), trivial⟩) (fun hHeld2 => ?_)
      clear hK K
      try clear hb
      try simp only [Act.put, List.setIfInBounds_toArray, List.set_cons_zero, List.set_cons_succ]
      refine wpAnyH_take (i := 7) (oi := ⟨some 3, _, _, _, _, _⟩) (v := ?_) rfl (by kernel_rfl) (by kernel_rfl) (by kernel_rfl) (fun _ _ _ h => h) (Or.inl ⟨by rfl, ?_⟩) (by assumption) ?_
      rotate_left
      · intro wq hSw; go_simp; (try with_reducible rfl)
      try simp only [Act.put, List.setIfInBounds_toArray, List.set_cons_zero, List.set_cons_succ]
      refine wpAnyH_take (i := 8) (oi := ⟨some 0, _, _, _, _, _⟩) (v := ?_) rfl (by kernel_rfl) (by kernel_rfl) (by kernel_rfl) (fun _ _ _ h => h) (Or.inl ⟨by rfl, ?_⟩) (by assumption) ?_
      rotate_left
      · intro wq hSw; go_simp; (try with_reducible rfl)
      try simp only [Act.put, List.setIfInBounds_toArray, List.set_cons_zero]
      refine wpAnyH_done (by kernel_rfl) ?_ _
      have hHeld := hHeld2
      all_goals
        obtain ⟨g8, cap8, rfl⟩ := ownsRow_succ hown8
        have HO8 := Lib.hid hown8
        have HB8 := Lib.hid hHeld.1
        clear hgrow8 h8 hown8
        go_wp2_with fail
        go_roundw
        case rel => exact ⟨k + N, n - N, _, c' - N, done ++ [N], rfl, Lib.hid HN.out.2, Lib.hid HN.out.1, by omega, by omega, Lib.hid (by rw [List.append_assoc]; exact HD2.out), Lib.hid (by rw [List.length_append]; have := hL.out; simp; omega), Lib.hid (by unfold RowC cntV; rw [List.map_append, List.length_append]; exact HO8.out), Lib.hid HR1.out, HB8.out⟩
        case measure => exact HM.out
end Go.Proofs.YtmdhgiaaofdjiaaGreat.P10
