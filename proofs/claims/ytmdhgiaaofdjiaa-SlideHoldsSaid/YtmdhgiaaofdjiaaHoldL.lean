/-
  The law SlideHolds. Conditions: those written at each fact.
-/
import Derived.Test.YtmdhgiaaofdjiaaSlN
import Derived.Deep.CutBlock
namespace Go.Proofs.Ytmdhgiaaofdjiaa.P10
open Go.RowKit Go.Shelf Go.Proofs.Ytmdhgiaaofdjiaa.P8

theorem hold_nums {N n c : Nat} (h1 : 1 ≤ N) (h2 : N ≤ n) (h3 : n ≤ c) : ¬ (N : Int) < 1 ∧ ¬ (n : Int) < (N : Int) ∧ (0 : Int) ≤ (N : Int) ∧ (N : Int) ≤ (c : Int) ∧ (N : Int) ≤ (n : Int) ∧ (0 : Int) < (n : Int) ∧ 0 < n :=
  ⟨by omega, by omega, by omega, by omega, by omega, by omega, by omega⟩
theorem hold_more {N n c : Nat} (h : N < n) (h3 : n ≤ c) : (N : Int) + 1 ≤ (c : Int) ∧ N + 1 ≤ n ∧ (N : Int) < (n : Int) := ⟨by omega, by omega, by omega⟩
theorem hold_len {l : List Bd} {k n : Nat} (h : k ≤ n) (h2 : n ≤ 80) : (l.take k).length ≤ 9223372036854775807 := by
  rw [List.length_take]; omega
theorem hold_at {t t0 : Int} (h1 : 0 ≤ t) (h2 : t ≤ 281474976710656) (h3 : 0 ≤ t0) (h4 : t0 ≤ 281474976710656) : wrap64 (t - t0) = t - t0 ∧ IntKind.i64.wrap (t - t0) = t - t0 := ⟨i64_keeps (by omega) (by omega), by rw [IntKind.wrap_i64]; omega⟩
theorem cutN_drop {R : List Nat} {i : Nat} {l : List Bd} (hD : R.drop i = cutN l) (hi : i < R.length) : l ≠ [] ∧ R[i]? = some (firN l) ∧ R.drop (i + 1) = cutN (l.drop (firN l)) := by
  have hne : l ≠ [] := by
    intro e
    rw [e, cutN_nil] at hD
    have := congrArg List.length hD
    rw [List.length_drop] at this
    simp at this
    omega
  rw [cutN_next hne] at hD
  refine ⟨hne, ?_, ?_⟩
  · have := congrArg (fun x => x[0]?) hD
    simpa using this
  · have := congrArg List.tail hD
    simpa [List.tail_drop] using this
theorem cutN_none {l : List Bd} (h : cutN l = []) : l = [] := by
  by_cases hne : l = []
  · exact hne
  · rw [cutN_next hne] at h
    cases h
set_option maxRecDepth 100000 in
set_option maxHeartbeats 8000000 in
theorem lawHolds_any (l : List Bd) (hl : l.length ≤ 9223372036854775807) (v : Value) (w : World) (h : ReadsD w v l) : Calls Try.prog 4 #[v] w (Ret w (.bool true)) := by
  have WK := Lib.hid wakes_any
  have FW := Lib.hid (fun W (hb : Below w.heap.size w W) => (show Calls Try.prog 8 #[v, .int .i64 80] W (LaidD W (l.take 80)) from few_any l hl 80 (by decide) v W (h.below hb)))
  obtain ⟨A, c, rfl, hc, _⟩ := h
  have hml : (l.take 80).length ≤ 80 := by rw [List.length_take]; omega
  generalize l.take 80 = m at *
  go_enter Try.func4, Try.ntmps4
  go_wp2_with fail
  refine (WK.out _).mono ?_
  rintro e w1 ⟨rfl, hb1⟩
  go_wp2_with fail
  refine (FW.out w1 hb1).mono ?_
  rintro e w2 hh
  obtain ⟨hb2, A2, c2, rfl, hc2, hr2⟩ := hh.open
  have HB2 := Lib.hid (under hb1 hb2)
  have BC := Lib.hid (bcheck_any m (by omega) _ w2 hr2)
  have H2 := Lib.hid hr2
  clear hh hb1 hb2 WK FW hr2
  go_wp2_with fail
  refine BC.out.mono ?_
  rintro e w3 ⟨rfl, hb3⟩
  have HB3 := Lib.hid (under HB2.out hb3)
  have CU := Lib.hid (cut_any m (by omega) _ w3 (H2.out.below hb3))
  have H3 := Lib.hid (H2.out.below hb3)
  clear hb3 BC HB2 H2
  cases gk : okD m
  · have e1 : codeS m = 180 := by simp [codeS, gk]
    rw [e1] at CU
    clear e1 gk
    simp only [Bool.false_eq_true, if_false]
    go_wp2_with fail
    refine CU.out.mono ?_
    rintro e w4 ⟨hb4, A4, n4, c4, rfl, ho⟩
    have HO := Lib.hid (under HB3.out hb4)
    clear ho hb4
    go_wp2_with fail
    go_ret
    exact ⟨rfl, HO.out⟩
  · have e1 : codeS m = 0 ∧ rowS m = cutN m := by simp [codeS, rowS, gk]
    rw [e1.1, e1.2] at CU
    have hne := okD_ne gk
    have hcn : (cutN m).length ≠ 0 := by rw [cutN_next hne]; simp
    have hcl : (cutN m).length ≤ m.length := cut_le _ m (Nat.le_refl _)
    obtain ⟨R, hR⟩ : ∃ R, R = cutN m := ⟨_, rfl⟩
    rw [← hR] at CU hcn hcl
    have AS : Hid (R.drop 0 = cutN (m.drop 0)) := Lib.hid (by simpa using hR)
    have HK := Lib.hid gk
    obtain ⟨bb0, off0, rfl⟩ := readsD_some H3.out hne
    clear e1 gk hR hne
    simp only [if_true]
    go_wp2_with fail
    refine CU.out.mono ?_
    rintro e w4 ⟨hb4, A4, n4, c4, rfl, ho⟩
    have hrr := reads_own (l := R.map (fun n : Nat => (n : Int))) (k := .i64) (by unfold RowC cntV at ho; rw [List.length_map, List.map_map]; exact ho)
    obtain ⟨e4, hc4, hk4⟩ := hrr.at
    rw [List.length_map] at e4 hc4
    subst e4
    have HKR := Lib.hid hk4
    have H4 := Lib.hid (H3.out.below hb4)
    have HB4 := Lib.hid (under HB3.out hb4)
    have i5 : ((R.length : Int) == 0) = false := beq_eq_false_iff_ne.2 (by omega)
    clear ho hrr hk4 hb4 CU HB3 H3
    go_wp2_with fail
    go_loopw [8, 48] (fun s o wr => ∃ (i a n : Nat) (A' : Option Addr) (c' : Nat), o = .int .i64 i ∧ s = .slice A' n c' ∧ i ≤ R.length ∧ Hid (a ≤ m.length) ∧ Hid (n = m.length - a) ∧ n ≤ 80 ∧ n ≤ c' ∧ Hid (R.drop i = cutN (m.drop a)) ∧ Hid (ReadsD w4 (.slice A' n c') (m.drop a)) ∧ Below w4.heap.size w4 wr) (fun _ o _ => R.length - (intOf o).toNat)
    case atStart => exact ⟨0, 0, m.length, _, c2, rfl, rfl, Nat.zero_le _, Lib.hid (by omega), Lib.hid (by omega), hml, hc2, AS, Lib.hid (by simpa using H4.out), Below.refl _ _⟩
    case round =>
      obtain ⟨i, a, n, A', c', rfl, rfl, hi, ha, hn, hn80, hnc, hD, hRd, hB⟩ := hrel
      clear AS
      by_cases gi : i < R.length
      · obtain ⟨hne, hRi, hDn⟩ := cutN_drop hD.out gi
        have hrl : (m.drop a).length = n := by rw [List.length_drop]; exact hn.out.symm
        have hk := okD_drop HK.out (k := a) (by
          have := List.length_pos_iff.2 hne
          rw [List.length_drop] at this
          omega)
        obtain ⟨N1, N2⟩ := firN_le hne
        obtain ⟨t1, t2, t3⟩ := fit_part hk
        have TO := Lib.hid (fun (hlt : firN (m.drop a) < (m.drop a).length) => fit_over hk hlt)
        have hp1 := (okD_facts t1).2.1
        have hmem : ∀ (j : Nat) (b : Bd), ((m.drop a).take (firN (m.drop a)))[j]? = some b → BdOk b := fun j b hb => (okD_facts t1).2.2 b (List.mem_of_getElem? hb)
        have hplen : ((m.drop a).take (firN (m.drop a))).length = firN (m.drop a) := List.length_take_of_le N2
        rw [hrl] at N2 TO
        obtain ⟨N, hN⟩ : ∃ N, N = firN (m.drop a) := ⟨_, rfl⟩
        rw [← hN] at N1 N2 t1 t2 t3 TO hRi hDn hmem hplen
        have hMap : (R.map (fun n : Nat => (n : Int)))[i]? = some (N : Int) := by rw [List.getElem?_map, hRi]; rfl
        obtain ⟨bi, oi, rfl, hbi, hci⟩ := HKR.out i _ hMap
        have hcw := (hB.cell (p := ⟨bi, oi + i, none⟩) hbi).trans hci
        obtain ⟨bb, off, hA', hr1, hr0⟩ := hRd.out.rest (X := N) hn.out N2 N1
        subst hA'
        have RF : ∀ s, s ≤ n → ∀ W, Below w4.heap.size w4 W → ReadsD W (.slice (some ⟨bb, off, none⟩) s c') ((m.drop a).take s) := fun s hs W hb => (hRd.out.below hb).front s (by rw [hrl]; exact hs)
        obtain ⟨P, hP⟩ : ∃ P, P = (m.drop a).take N := ⟨_, rfl⟩
        rw [← hP] at t1 t2 t3 hmem hplen
        have FA := Lib.hid (fun W (hb : Below w4.heap.size w4 W) => fit_any P (by omega) (.slice (some ⟨bb, off, none⟩) N c') W (by rw [hP]; exact RF N N2 W hb))
        rw [t2] at FA
        have CK := Lib.hid (fun W => lcheck_any (fitA P) (fitR P) (fitN P) (fitD P) W)
        rw [t3.line] at CK
        simp only [if_true] at CK
        have TH := Lib.hid (fun W (hb : Below w4.heap.size w4 W) => thr_any (fitA P) (fitR P) (fitN P) (fitD P) P (by omega) (.slice (some ⟨bb, off, none⟩) N c') W (by rw [hP]; exact RF N N2 W hb))
        rw [t3.thr] at TH
        have AT := Lib.hid (fun t W => at_any (fitA P) (fitR P) (fitN P) (fitD P) t W)
        have A0 := Lib.hid t3.at0
        have HPL := Lib.hid (And.intro hplen hmem)
        have HPW := Lib.hid (RF N N2 w4 (Below.refl _ _))
        rw [← hP] at HPW
        have HRF := Lib.hid RF
        have HNX := Lib.hid (And.intro hDn (And.intro hr1 hr0))
        have NUM := Lib.hid (hold_nums N1 N2 hnc)
        have PL := Lib.hid (places hn.out (X := N) N2 ha.out)
        obtain ⟨u1, u2, u3, u4', u5, u7, u8⟩ := NUM.out
        generalize fitA P = x0 at *
        generalize fitR P = x1 at *
        generalize fitN P = x2 at *
        generalize fitD P = x3 at *
        have i1 : (i : Int) < (R.length : Int) := by omega
        have i0 : (0 : Int) ≤ (i : Int) := by omega
        clear t1 t2 t3 hp1 hmem hplen hRi hMap hci hr1 hr0 RF hDn hne hrl hk hD hRd hP hN N1 N2
        go_upto_region 16 with (fail)
        clear u1 u2 u5 u7 u8 i5 hcn
        go_wp2_with fail
        refine (FA.out _ hB).mono ?_
        rintro e w5 ⟨rfl, hb5⟩
        have hHs : Keeps w4 [(w5.heap.size, 0, .int .i64 x0), (w5.heap.size, 1, .int .i64 x1), (w5.heap.size, 2, .int .i64 x2), (w5.heap.size, 3, .int .i64 x3)] (w5.alloc (.cells #[.int .i64 x0, .int .i64 x1, .int .i64 x2, .int .i64 x3] 30)) := ⟨(under hB hb5).alloc (under hB hb5).size _, by simp [Cells, go_sem]⟩
        have HH := Lib.hid hHs
        clear hHs hb5 FA hcw
        go_upto_region 17 with (fail)
        have hHs : Keeps w4 [(w5.heap.size, 0, .int .i64 x0), (w5.heap.size, 1, .int .i64 x1), (w5.heap.size, 2, .int .i64 x2), (w5.heap.size, 3, .int .i64 x3)] (w5.alloc (.cells #[.int .i64 x0, .int .i64 x1, .int .i64 x2, .int .i64 x3] 30)) := HH.out
        generalize (w5.alloc (.cells #[.int .i64 x0, .int .i64 x1, .int .i64 x2, .int .i64 x3] 30)) = wi at hHs ⊢
        generalize w5.heap.size = g at *
        clear HH
        refine region_keeps (w0 := w4) (L := [(g, 0, .int .i64 x0), (g, 1, .int .i64 x1), (g, 2, .int .i64 x2), (g, 3, .int .i64 x3)]) (by kernel_rfl) hHs (fun hHeld0 => ?_)
        refine wpAnyH_take (i := 0) (oi := ⟨some 67, _, _, _, _, _⟩) (v := ?_) rfl (by kernel_rfl) (by kernel_rfl) (by kernel_rfl) (fun _ _ _ h => h) (Or.inl ⟨by rfl, ?_⟩) (by assumption) ?_
        rotate_left
        · intro wq hSw; go_simp; (try with_reducible rfl)
        try simp only [Act.put, List.setIfInBounds_toArray, List.set_cons_zero, List.set_cons_succ]
        refine wpAnyH_take (i := 1) (oi := ⟨some 68, _, _, _, _, _⟩) (v := ?_) rfl (by kernel_rfl) (by kernel_rfl) (by kernel_rfl) (fun _ _ _ h => h) (Or.inl ⟨by rfl, ?_⟩) (by assumption) ?_
        rotate_left
        · intro wq hSw; go_simp; (try with_reducible rfl)
        try simp only [Act.put, List.setIfInBounds_toArray, List.set_cons_zero, List.set_cons_succ]
        refine wpAnyH_take (i := 2) (oi := ⟨some 69, _, _, _, _, _⟩) (v := ?_) rfl (by kernel_rfl) (by kernel_rfl) (by kernel_rfl) (fun _ _ _ h => h) (Or.inl ⟨by rfl, ?_⟩) (by assumption) ?_
        rotate_left
        · intro wq hSw; go_simp; (try with_reducible rfl)
        try simp only [Act.put, List.setIfInBounds_toArray, List.set_cons_zero, List.set_cons_succ]
        refine wpAnyH_take (i := 3) (oi := ⟨some 70, _, _, _, _, _⟩) (v := ?_) rfl (by kernel_rfl) (by kernel_rfl) (by kernel_rfl) (fun _ _ _ h => h) (Or.inl ⟨by rfl, ?_⟩) (by assumption) ?_
        rotate_left
        · intro wq hSw; obtain ⟨⟨qz0, qc0, qf0⟩, ⟨qz1, qc1, qf1⟩, ⟨qz2, qc2, qf2⟩, ⟨qz3, qc3, qf3⟩, _⟩ := hSw.2; go_simp; (try with_reducible rfl)
        try simp only [Act.put, List.setIfInBounds_toArray, List.set_cons_zero, List.set_cons_succ]
        refine wpAnyH_ready (rs := [4]) (by kernel_rfl) (by simp) ?_
        refine AllReadyH.cons (o := ⟨some 71, _, _, _, _, _⟩) rfl (fun K hK => ?_) AllReadyH.nil
        go_simp
        ((with_reducible refine (CK.out _).mono ?_); rintro e w6 ⟨rfl, hb⟩)
        refine hK.out _ _ (hHeld0.next hb) (fun hHeld1 => ?_)
        clear hK K
        try clear hb
        try simp only [Act.put, List.setIfInBounds_toArray, List.set_cons_zero, List.set_cons_succ]
        refine wpAnyH_take (i := 5) (oi := ⟨some 72, _, _, _, _, _⟩) (v := ?_) rfl (by kernel_rfl) (by kernel_rfl) (by kernel_rfl) (fun _ _ _ h => h) (Or.inl ⟨by rfl, ?_⟩) (by assumption) ?_
        rotate_left
        · intro wq hSw; go_simp; (try with_reducible rfl)
        try simp only [Act.put, List.setIfInBounds_toArray, List.set_cons_zero, List.set_cons_succ]
        refine wpAnyH_take (i := 6) (oi := ⟨some 73, _, _, _, _, _⟩) (v := ?_) rfl (by kernel_rfl) (by kernel_rfl) (by kernel_rfl) (fun _ _ _ h => h) (Or.inl ⟨by rfl, ?_⟩) (by assumption) ?_
        rotate_left
        · intro wq hSw; go_simp; (try with_reducible rfl)
        try simp only [Act.put, List.setIfInBounds_toArray, List.set_cons_zero, List.set_cons_succ]
        refine wpAnyH_take (i := 7) (oi := ⟨some 74, _, _, _, _, _⟩) (v := ?_) rfl (by kernel_rfl) (by kernel_rfl) (by kernel_rfl) (fun _ _ _ h => h) (Or.inl ⟨by rfl, ?_⟩) (by assumption) ?_
        rotate_left
        · intro wq hSw; go_simp; (try with_reducible rfl)
        try simp only [Act.put, List.setIfInBounds_toArray, List.set_cons_zero, List.set_cons_succ]
        refine wpAnyH_take (i := 8) (oi := ⟨some 75, _, _, _, _, _⟩) (v := ?_) rfl (by kernel_rfl) (by kernel_rfl) (by kernel_rfl) (fun _ _ _ h => h) (Or.inl ⟨by rfl, ?_⟩) (by assumption) ?_
        rotate_left
        · intro wq hSw; go_simp; (try with_reducible rfl)
        try simp only [Act.put, List.setIfInBounds_toArray, List.set_cons_zero, List.set_cons_succ]
        refine wpAnyH_take (i := 9) (oi := ⟨some 76, _, _, _, _, _⟩) (v := ?_) rfl (by kernel_rfl) (by kernel_rfl) (by kernel_rfl) (fun _ _ _ h => h) (Or.inl ⟨by rfl, ?_⟩) (by assumption) ?_
        rotate_left
        · intro wq hSw; go_simp; (try with_reducible rfl)
        try simp only [Act.put, List.setIfInBounds_toArray, List.set_cons_zero, List.set_cons_succ]
        refine wpAnyH_take (i := 10) (oi := ⟨some 77, _, _, _, _, _⟩) (v := ?_) rfl (by kernel_rfl) (by kernel_rfl) (by kernel_rfl) (fun _ _ _ h => h) (Or.inl ⟨by rfl, ?_⟩) (by assumption) ?_
        rotate_left
        · intro wq hSw; go_simp; (try with_reducible rfl)
        try simp only [Act.put, List.setIfInBounds_toArray, List.set_cons_zero, List.set_cons_succ]
        refine wpAnyH_take (i := 11) (oi := ⟨some 78, _, _, _, _, _⟩) (v := ?_) rfl (by kernel_rfl) (by kernel_rfl) (by kernel_rfl) (fun _ _ _ h => h) (Or.inl ⟨by rfl, ?_⟩) (by assumption) ?_
        rotate_left
        · intro wq hSw; obtain ⟨⟨qz0, qc0, qf0⟩, ⟨qz1, qc1, qf1⟩, ⟨qz2, qc2, qf2⟩, ⟨qz3, qc3, qf3⟩, _⟩ := hSw.2; go_simp; (try with_reducible rfl)
        try simp only [Act.put, List.setIfInBounds_toArray, List.set_cons_zero, List.set_cons_succ]
        refine wpAnyH_ready (rs := [12]) (by kernel_rfl) (by simp) ?_
        refine AllReadyH.cons (o := ⟨some 79, _, _, _, _, _⟩) rfl (fun K hK => ?_) AllReadyH.nil
        go_simp
        ((with_reducible refine Calls.mono (TH.out _ (belK (L := [(g, 0, .int .i64 x0), (g, 1, .int .i64 x1), (g, 2, .int .i64 x2), (g, 3, .int .i64 x3)]) (by assumption))) ?_); rintro e w7 ⟨rfl, hb⟩)
        refine hK.out _ _ (hHeld1.next hb) (fun hHeld2 => ?_)
        clear hK K
        try clear hb
        try simp only [Act.put, List.setIfInBounds_toArray, List.set_cons_zero, List.set_cons_succ]
        refine wpAnyH_take (i := 13) (oi := ⟨some 80, _, _, _, _, _⟩) (v := ?_) rfl (by kernel_rfl) (by kernel_rfl) (by kernel_rfl) (fun _ _ _ h => h) (Or.inl ⟨by rfl, ?_⟩) (by assumption) ?_
        rotate_left
        · intro wq hSw; go_simp; (try with_reducible rfl)
        try simp only [Act.put, List.setIfInBounds_toArray, List.set_cons_zero, List.set_cons_succ]
        refine wpAnyH_take (i := 14) (oi := ⟨some 81, _, _, _, _, _⟩) (v := ?_) rfl (by kernel_rfl) (by kernel_rfl) (by kernel_rfl) (fun _ _ _ h => h) (Or.inl ⟨by rfl, ?_⟩) (by assumption) ?_
        rotate_left
        · intro wq hSw; go_simp; (try with_reducible rfl)
        try simp only [Act.put, List.setIfInBounds_toArray, List.set_cons_zero, List.set_cons_succ]
        refine wpAnyH_done (by kernel_rfl) ?_ _
        have hHeld := hHeld2
        obtain ⟨⟨kz0, kc0, kf0⟩, ⟨kz1, kc1, kf1⟩, ⟨kz2, kc2, kf2⟩, ⟨kz3, kc3, kf3⟩, _⟩ := hHeld.2
        all_goals
          have HHs := Lib.hid hHeld
          obtain ⟨_, _, e', _, hk0⟩ := HPW.out
          cases e'
          obtain ⟨bP, hbP⟩ : ∃ b, P[0]? = some b := ⟨P[0]'(by rw [HPL.out.1]; have := NUM.out.1; omega), List.getElem?_eq_getElem _⟩
          obtain ⟨_, _, e', hbw, hp0, _⟩ := hk0 0 _ hbP
          cases e'
          simp only [Nat.zero_mul, Nat.add_zero] at hp0
          have hT0 : bP.t = headT P := by
            cases P with
            | nil => simp at hbP
            | cons x q => simp at hbP; subst hbP; rfl
          rw [hT0] at hp0
          have h0ok := HPL.out.2 0 bP hbP
          rw [BdOk, hT0] at h0ok
          have HP0 := Lib.hid hp0
          have HKP := Lib.hid hk0
          have H0K := Lib.hid (And.intro h0ok.1 h0ok.2.1)
          obtain ⟨t0, ht0⟩ : ∃ t0, t0 = headT P := ⟨_, rfl⟩
          rw [← ht0] at HP0 H0K A0
          have hP80 : P.length ≤ 80 := Nat.le_trans (Int.ofNat_le.1 NUM.out.2.2.2.2.1) hn80
          clear hk0 hp0 h0ok hT0 hbP ht0 hHeld
          clear hHs kz0 kc0 kf0 kz1 kc1 kf1 kz2 kc2 kf2 kz3 kc3 kf3 hB CK TH
          go_wp2_with fail
          go_loopw [86] (fun o wr => ∃ j : Nat, o = .int .i64 j ∧ j ≤ P.length ∧ Hid (Keeps w4 [(g, 0, .int .i64 x0), (g, 1, .int .i64 x1), (g, 2, .int .i64 x2), (g, 3, .int .i64 x3)] wr)) (fun o _ => P.length - (intOf o).toNat)
          case atStart => exact ⟨0, rfl, Nat.zero_le _, HHs⟩
          case round =>
            obtain ⟨j, rfl, hj, hB⟩ := hrel
            clear HHs
            by_cases gj : j < P.length
            · obtain ⟨⟨t, lo, hi⟩, hx⟩ : ∃ s, P[j]? = some s := ⟨_, List.getElem?_eq_getElem gj⟩
              obtain ⟨_, _, e1, _, hc1, hc2', hc3⟩ := HKP.out j _ hx
              cases e1
              have c1 := (hB.out.1.cell (p := ⟨bb, off + j * 3, none⟩) hbw).trans hc1
              have c2' := (hB.out.1.cell (p := ⟨bb, off + j * 3 + 1, none⟩) hbw).trans hc2'
              have c3 := (hB.out.1.cell (p := ⟨bb, off + j * 3 + 2, none⟩) hbw).trans hc3
              simp only at c1 c2' c3
              have j1 : (j : Int) < (P.length : Int) := Int.ofNat_lt.2 gj
              have j0 : (0 : Int) ≤ (j : Int) := Int.natCast_nonneg _
              obtain ⟨q1, q2, _⟩ := HPL.out.2 j _ hx
              obtain ⟨o1, o2, o3⟩ := A0.out _ (List.mem_of_getElem? hx)
              simp only at q1 q2 o1 o2 o3
              obtain ⟨e1, e2⟩ := hold_at q1 q2 H0K.out.1 H0K.out.2
              have AC := Lib.hid (fun W => AT.out (t - t0) W)
              rw [o1] at AC
              have j2 : ¬ tlQ x0 x1 x2 x3 (t - t0) < lo := Int.not_lt.2 o2
              have j3 : ¬ hi < tlQ x0 x1 x2 x3 (t - t0) := Int.not_lt.2 o3
              generalize tlQ x0 x1 x2 x3 (t - t0) = y at *
              have hHeld := hB.out
              clear hc1 hc2' hc3 hx hB q1 q2 o1 o2 o3
              replace hHeld := (hHeld.alloc (.cells #[.int .i64 t, .int .i64 lo, .int .i64 hi] 50)).app (newK3 (hHeld.alloc (.cells #[.int .i64 t, .int .i64 lo, .int .i64 hi] 50)))
              have HH := Lib.hid hHeld
              clear hHeld
              go_upto_region 22 with (fail)
              have hHs : Keeps w4 [(g, 0, .int .i64 x0), (g, 1, .int .i64 x1), (g, 2, .int .i64 x2), (g, 3, .int .i64 x3), (wr.heap.size, 0, .int .i64 t), (wr.heap.size, 1, .int .i64 lo), (wr.heap.size, 2, .int .i64 hi)] (wr.alloc (.cells #[.int .i64 t, .int .i64 lo, .int .i64 hi] 50)) := HH.out
              clear HH
              have i8 := NUM.out.2.2.2.2.2.2
              refine region_keeps (w0 := w4) (L := [(g, 0, .int .i64 x0), (g, 1, .int .i64 x1), (g, 2, .int .i64 x2), (g, 3, .int .i64 x3), (wr.heap.size, 0, .int .i64 t), (wr.heap.size, 1, .int .i64 lo), (wr.heap.size, 2, .int .i64 hi)]) (by kernel_rfl) hHs (fun hHeld0 => ?_)
              refine wpAnyH_take (i := 0) (oi := ⟨some 91, _, _, _, _, _⟩) (v := ?_) rfl (by kernel_rfl) (by kernel_rfl) (by kernel_rfl) (fun _ _ _ h => h) (Or.inl ⟨by rfl, ?_⟩) (by assumption) ?_
              rotate_left
              · intro wq hSw; obtain ⟨⟨qz0, qc0, qf0⟩, ⟨qz1, qc1, qf1⟩, ⟨qz2, qc2, qf2⟩, ⟨qz3, qc3, qf3⟩, ⟨qz4, qc4, qf4⟩, ⟨qz5, qc5, qf5⟩, ⟨qz6, qc6, qf6⟩, _⟩ := hSw.2; have hp4 := (hSw.1.cell (p := ⟨bb, off, none⟩) hbw).trans HP0.out; go_simp; (try with_reducible rfl)
              try simp only [Act.put, List.setIfInBounds_toArray, List.set_cons_zero, List.set_cons_succ]
              refine wpAnyH_take (i := 1) (oi := ⟨some 92, _, _, _, _, _⟩) (v := ?_) rfl (by kernel_rfl) (by kernel_rfl) (by kernel_rfl) (fun _ _ _ h => h) (Or.inl ⟨by rfl, ?_⟩) (by assumption) ?_
              rotate_left
              · intro wq hSw; go_simp; (try with_reducible rfl)
              try simp only [Act.put, List.setIfInBounds_toArray, List.set_cons_zero, List.set_cons_succ]
              refine wpAnyH_take (i := 2) (oi := ⟨some 93, _, _, _, _, _⟩) (v := ?_) rfl (by kernel_rfl) (by kernel_rfl) (by kernel_rfl) (fun _ _ _ h => h) (Or.inl ⟨by rfl, ?_⟩) (by assumption) ?_
              rotate_left
              · intro wq hSw; obtain ⟨⟨qz0, qc0, qf0⟩, ⟨qz1, qc1, qf1⟩, ⟨qz2, qc2, qf2⟩, ⟨qz3, qc3, qf3⟩, ⟨qz4, qc4, qf4⟩, ⟨qz5, qc5, qf5⟩, ⟨qz6, qc6, qf6⟩, _⟩ := hSw.2; have hp4 := (hSw.1.cell (p := ⟨bb, off, none⟩) hbw).trans HP0.out; go_simp; (try with_reducible rfl)
              try simp only [Act.put, List.setIfInBounds_toArray, List.set_cons_zero, List.set_cons_succ]
              refine wpAnyH_take (i := 3) (oi := ⟨some 94, _, _, _, _, _⟩) (v := ?_) rfl (by kernel_rfl) (by kernel_rfl) (by kernel_rfl) (fun _ _ _ h => h) (Or.inl ⟨by rfl, ?_⟩) (by assumption) ?_
              rotate_left
              · intro wq hSw; go_simp; (try with_reducible rfl)
              try simp only [Act.put, List.setIfInBounds_toArray, List.set_cons_zero, List.set_cons_succ]
              refine wpAnyH_take (i := 4) (oi := ⟨some 95, _, _, _, _, _⟩) (v := ?_) rfl (by kernel_rfl) (by kernel_rfl) (by kernel_rfl) (fun _ _ _ h => h) (Or.inl ⟨by rfl, ?_⟩) (by assumption) ?_
              rotate_left
              · intro wq hSw; go_simp; (try with_reducible rfl)
              try simp only [Act.put, List.setIfInBounds_toArray, List.set_cons_zero, List.set_cons_succ]
              refine wpAnyH_take (i := 5) (oi := ⟨some 96, _, _, _, _, _⟩) (v := ?_) rfl (by kernel_rfl) (by kernel_rfl) (by kernel_rfl) (fun _ _ _ h => h) (Or.inl ⟨by rfl, ?_⟩) (by assumption) ?_
              rotate_left
              · intro wq hSw; go_simp; (try with_reducible rfl)
              try simp only [Act.put, List.setIfInBounds_toArray, List.set_cons_zero, List.set_cons_succ]
              refine wpAnyH_take (i := 6) (oi := ⟨some 97, _, _, _, _, _⟩) (v := ?_) rfl (by kernel_rfl) (by kernel_rfl) (by kernel_rfl) (fun _ _ _ h => h) (Or.inl ⟨by rfl, ?_⟩) (by assumption) ?_
              rotate_left
              · intro wq hSw; obtain ⟨⟨qz0, qc0, qf0⟩, ⟨qz1, qc1, qf1⟩, ⟨qz2, qc2, qf2⟩, ⟨qz3, qc3, qf3⟩, ⟨qz4, qc4, qf4⟩, ⟨qz5, qc5, qf5⟩, ⟨qz6, qc6, qf6⟩, _⟩ := hSw.2; have hp4 := (hSw.1.cell (p := ⟨bb, off, none⟩) hbw).trans HP0.out; go_simp; (try with_reducible rfl)
              try simp only [Act.put, List.setIfInBounds_toArray, List.set_cons_zero, List.set_cons_succ]
              refine wpAnyH_take (i := 7) (oi := ⟨some 98, _, _, _, _, _⟩) (v := ?_) rfl (by kernel_rfl) (by kernel_rfl) (by kernel_rfl) (fun _ _ _ h => h) (Or.inl ⟨by rfl, ?_⟩) (by assumption) ?_
              rotate_left
              · intro wq hSw; go_simp; (try with_reducible rfl)
              try simp only [Act.put, List.setIfInBounds_toArray, List.set_cons_zero, List.set_cons_succ]
              refine wpAnyH_ready (rs := [8]) (by kernel_rfl) (by simp) ?_
              refine AllReadyH.cons (o := ⟨some 99, _, _, _, _, _⟩) rfl (fun K hK => ?_) AllReadyH.nil
              go_simp
              (try rw [e2]); (try rw [e1]); (with_reducible refine (AC.out _).mono ?_); rintro e w7 ⟨rfl, hb⟩
              refine hK.out _ _ (hHeld0.next hb) (fun hHeld1 => ?_)
              clear hK K
              try clear hb
              try simp only [Act.put, List.setIfInBounds_toArray, List.set_cons_zero, List.set_cons_succ]
              refine wpAnyH_take (i := 9) (oi := ⟨some 90, _, _, _, _, _⟩) (v := ?_) rfl (by kernel_rfl) (by kernel_rfl) (by kernel_rfl) (fun _ _ _ h => h) (Or.inl ⟨by rfl, ?_⟩) (by assumption) ?_
              rotate_left
              · intro wq hSw; go_simp; (try with_reducible rfl)
              try simp only [Act.put, List.setIfInBounds_toArray, List.set_cons_zero, List.set_cons_succ]
              refine wpAnyH_take (i := 10) (oi := ⟨some 100, _, _, _, _, _⟩) (v := ?_) rfl (by kernel_rfl) (by kernel_rfl) (by kernel_rfl) (fun _ _ _ h => h) (Or.inl ⟨by rfl, ?_⟩) (by assumption) ?_
              rotate_left
              · intro wq hSw; go_simp; (try with_reducible rfl)
              try simp only [Act.put, List.setIfInBounds_toArray, List.set_cons_zero, List.set_cons_succ]
              refine wpAnyH_take (i := 11) (oi := ⟨some 101, _, _, _, _, _⟩) (v := ?_) rfl (by kernel_rfl) (by kernel_rfl) (by kernel_rfl) (fun _ _ _ h => h) (Or.inl ⟨by rfl, ?_⟩) (by assumption) ?_
              rotate_left
              · intro wq hSw; go_simp; (try with_reducible rfl)
              try simp only [Act.put, List.setIfInBounds_toArray, List.set_cons_zero, List.set_cons_succ]
              refine wpAnyH_take (i := 12) (oi := ⟨some 15, _, _, _, _, _⟩) (v := ?_) rfl (by kernel_rfl) (by kernel_rfl) (by kernel_rfl) (fun _ _ _ h => h) (Or.inl ⟨by rfl, ?_⟩) (by assumption) ?_
              rotate_left
              · intro wq hSw; go_simp; (try with_reducible rfl)
              try simp only [Act.put, List.setIfInBounds_toArray, List.set_cons_zero, List.set_cons_succ]
              refine wpAnyH_take (i := 13) (oi := ⟨some 16, _, _, _, _, _⟩) (v := ?_) rfl (by kernel_rfl) (by kernel_rfl) (by kernel_rfl) (fun _ _ _ h => h) (Or.inl ⟨by rfl, ?_⟩) (by assumption) ?_
              rotate_left
              · intro wq hSw; go_simp; (try with_reducible rfl)
              try simp only [Act.put, List.setIfInBounds_toArray, List.set_cons_zero, List.set_cons_succ]
              refine wpAnyH_done (by kernel_rfl) ?_ _
              have hHeld := hHeld1
              obtain ⟨⟨kz0, kc0, kf0⟩, ⟨kz1, kc1, kf1⟩, ⟨kz2, kc2, kf2⟩, ⟨kz3, kc3, kf3⟩, ⟨kz4, kc4, kf4⟩, ⟨kz5, kc5, kf5⟩, ⟨kz6, kc6, kf6⟩, _⟩ := hHeld.2
              all_goals
                go_wp2_with fail
                go_roundw
                case rel => exact ⟨j + 1, by simp, gj, Lib.hid ⟨hHeld.1, hHeld.2.1, hHeld.2.2.1, hHeld.2.2.2.1, hHeld.2.2.2.2.1, trivial⟩⟩
                case measure => exact index_less gj
            · have j1 : ¬ (j : Int) < (P.length : Int) := fun h => gj (Int.ofNat_lt.1 h)
              have HB := Lib.hid hB.out.1
              clear hB AT A0 gj hj
              go_upto_if 120 with (fail)
              go_cut [] (fun wx => Below w4.heap.size w4 wx)
              case first =>
                by_cases gN : P.length < n
                · obtain ⟨k4, k5, k6⟩ := hold_more gN hnc
                  have F2 := fit_any ((m.drop a).take (P.length + 1)) (hold_len k5 hn80) (.slice (some ⟨bb, off, none⟩) (P.length + 1) c') wr (HRF.out (P.length + 1) k5 wr HB.out)
                  rw [TO.out gN] at F2
                  replace F2 := Lib.hid F2
                  generalize fitA (List.take (P.length + 1) (m.drop a)) = fa2 at *
                  generalize fitR (List.take (P.length + 1) (m.drop a)) = fb2 at *
                  generalize fitN (List.take (P.length + 1) (m.drop a)) = fc2 at *
                  generalize fitD (List.take (P.length + 1) (m.drop a)) = fd2 at *
                  clear TO gN k5
                  go_wp2_with fail
                  refine F2.out.mono ?_
                  rintro e w8 ⟨rfl, hb8⟩
                  have HB8 := Lib.hid (under HB.out hb8)
                  clear hb8 F2
                  go_wp2_with fail
                  go_meet
                  case rel => exact HB8.out.alloc HB8.out.size _
                · have k6 : ¬ (P.length : Int) < (n : Int) := fun h => gN (Int.ofNat_lt.1 h)
                  clear gN TO
                  go_wp2_with fail
                  go_meet
                  case rel => exact HB.out
              case rest =>
                have HBC := Lib.hid hcut
                clear hcut HB TO
                have n3 := NUM.out.2.2.1
                have n2 := NUM.out.2.2.2.1
                have n1 := NUM.out.2.2.2.2.1
                have HDN := HNX.out.1
                have HD3 : Hid (R.drop (i + 1) = cutN (m.drop (a + P.length))) := Lib.hid (by rw [HDN, List.drop_drop])
                have n80 : n - P.length ≤ 80 := Nat.le_trans (Nat.sub_le _ _) hn80
                have nc : n - P.length ≤ c' - P.length := Nat.sub_le_sub_right hnc _
                clear HDN
                by_cases hcx : c' = P.length
                · have HRZ := Lib.hid (HNX.out.2.2 hcx)
                  have e0 : n - P.length = 0 := by
                    have := hnc
                    rw [hcx] at this
                    exact Nat.sub_eq_zero_of_le this
                  rw [e0] at HRZ
                  have PL2 := PL.out
                  rw [e0] at PL2
                  replace PL2 := Lib.hid PL2
                  replace e0 := Lib.hid e0
                  subst hcx
                  clear n80 nc PL
                  go_wp2_with fail
                  go_roundw
                  case rel => exact ⟨i + 1, a + P.length, 0, _, 0, by simp, rfl, gi, Lib.hid PL2.out.2, Lib.hid PL2.out.1, by decide, Nat.le_refl _, HD3, HRZ, HBC.out⟩
                  case measure => exact index_less gi
                · have hcy : ¬ P.length = c' := fun e => hcx e.symm
                  have HRZ := Lib.hid HNX.out.2.1
                  go_wp2_with fail
                  go_roundw
                  case rel => exact ⟨i + 1, a + P.length, n - P.length, _, c' - P.length, by simp, rfl, gi, Lib.hid PL.out.2, Lib.hid PL.out.1, n80, nc, HD3, HRZ, HBC.out⟩
                  case measure => exact index_less gi
      · have hii : i = R.length := Nat.le_antisymm hi (Nat.not_lt.1 gi)
        have hD2 := hD.out
        rw [hii, List.drop_length] at hD2
        have hn0 : n = 0 := by
          have h1 := congrArg List.length (cutN_none hD2.symm)
          rw [List.length_drop, List.length_nil] at h1
          rw [hn.out]; exact h1
        have i1 : ¬ (i : Int) < (R.length : Int) := fun h => gi (Int.ofNat_lt.1 h)
        clear hD hD2 hii gi hi hn hRd
        subst hn0
        go_wp2_with fail
        go_ret
        exact ⟨rfl, under HB4.out hB⟩
end Go.Proofs.Ytmdhgiaaofdjiaa.P10
