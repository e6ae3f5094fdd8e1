/-
  The law SlideTurns. Conditions: those written at each fact.
-/
import Derived.Test.YtmdhgiaaofdjiaaSlT
namespace Go.Proofs.Ytmdhgiaaofdjiaa.P10
open Go.RowKit Go.Shelf Go.Proofs.Ytmdhgiaaofdjiaa.P8

theorem slo_nums {m : List Bd} (h : okD m = true) : (-9223372036854775808 < (sloS m).a ∧ (sloS m).a ≤ 9223372036854775807) ∧ -9223372036854775808 < (sloS m).c ∧ (sloS m).c ≤ 9223372036854775807 := by
  unfold sloS
  split
  · have h1 := (slopeB_iff _ _).1 (low_bounds (firS_ok (row_ok h)).lo)
    have h2 := (slopeB_iff _ _).1 (low_bounds (firS_ok (row_ok h)).hi)
    show (-9223372036854775808 < lowN (firS m).a (firS m).b ∧ _) ∧ -9223372036854775808 < lowN (firS m).c (firS m).d ∧ _
    simp only [lowS]
    omega
  · simp [none0]
theorem row_short {m : List Bd} (h : okD m = true) : (rowS m).length ≤ 10000000 := by
  have h1 := cut_le _ m (Nat.le_refl _)
  have h2 := (okD_facts h).2.1
  have e : rowS m = cutN m := by simp [rowS, h]
  rw [e]
  omega
set_option maxRecDepth 100000 in
set_option maxHeartbeats 8000000 in
theorem lawTurns_any (l : List Bd) (hl : l.length ≤ 9223372036854775807) (y : Int) (hy : I64 y) (v : Value) (w : World) (h : ReadsD w v l) : Calls Try.prog 6 #[v, .int .i64 y] w (Ret w (.bool true)) := by
  have WK := Lib.hid wakes_any
  have FW := Lib.hid (fun W (hb : Below w.heap.size w W) => (show Calls Try.prog 8 #[v, .int .i64 80] W (LaidD W (l.take 80)) from few_any l hl 80 (by decide) v W (h.below hb)))
  obtain ⟨A, c, rfl, _, _⟩ := h
  have hml : (l.take 80).length ≤ 80 := by rw [List.length_take]; omega
  have HI := Lib.hid hy
  generalize l.take 80 = m at *
  clear hy
  go_enter Try.func6, Try.ntmps6
  go_wp2_with fail
  refine (WK.out _).mono ?_
  rintro en w1 ⟨rfl, hb1⟩
  go_wp2_with fail
  refine (FW.out w1 hb1).mono ?_
  rintro en w2 hh
  obtain ⟨hb2, A2, c2, rfl, hc2, hr2⟩ := hh.open
  have HB2 := Lib.hid (under hb1 hb2)
  have BC := Lib.hid (bcheck_any m (by omega) _ w2 hr2)
  clear hh hb1 hb2 WK FW
  cases gk : okD m
  · rw [gk] at BC
    simp only [Bool.false_eq_true, if_false] at BC
    clear gk hr2
    go_wp2_with fail
    refine BC.out.mono ?_
    rintro en w3 ⟨rfl, hb3⟩
    go_wp2_with fail
    go_ret
    exact ⟨rfl, under HB2.out hb3⟩
  rw [gk] at BC
  simp only [if_true] at BC
  have hne := okD_ne gk
  have HK := Lib.hid gk
  obtain ⟨bb, off, rfl⟩ := readsD_some hr2 hne
  have H2 := Lib.hid hr2
  clear gk
  go_wp2_with fail
  refine BC.out.mono ?_
  rintro en w3 ⟨rfl, hb3⟩
  have HB3 := Lib.hid (under HB2.out hb3)
  have H3 := Lib.hid (hr2.below hb3)
  have C1 := Lib.hid (cloneD m (by omega) _ w3 H3.out)
  clear hr2 H2 hb3 BC HB2
  go_wp2_with fail
  refine C1.out.mono ?_
  rintro en w4 hh
  obtain ⟨hb4, g1, c3, rfl, hc3, ho4⟩ := laid_own hh hne
  have C2 := Lib.hid (cloneD m (by omega) _ w4 (H3.out.below hb4))
  have HO4 := Lib.hid ho4
  have HB4 := Lib.hid hb4
  clear ho4 hh hb4 C1
  go_wp2_with fail
  refine C2.out.mono ?_
  rintro en w5 hh
  obtain ⟨hb5, g2, c4, rfl, hc4, ho5⟩ := laid_own hh hne
  have HD5 := Lib.hid (HO4.out.below hb5)
  have HL5 := Lib.hid (show OwnB w5 w3.heap.size g2 c4 m.length m from owns_less ho5 HB4.out.size)
  have HB5 := Lib.hid (under HB4.out hb5)
  have HG := Lib.hid (show g1 < w4.heap.size ∧ w4.heap.size ≤ g2 from ⟨HO4.out.base.2, ho5.base.1⟩)
  clear ho5 hh hb5 C2 HO4 HB4
  obtain ⟨j, hj⟩ : ∃ j, m.length = j + 1 := ⟨m.length - 1, by have := List.length_pos_iff.2 hne; omega⟩
  obtain ⟨⟨tl, lol, hil⟩, hx⟩ : ∃ s, m[j]? = some s := ⟨_, List.getElem?_eq_getElem (by omega)⟩
  obtain ⟨_, _, e1, hrk⟩ := id H3.out
  cases e1
  obtain ⟨_, _, e1, hbw, hc1, _⟩ := hrk.2 j _ hx
  cases e1
  have c1 := (HB5.out.cell (p := ⟨bb, off + j * 3, none⟩) hbw).trans hc1
  simp only at c1
  have i1 : wrap64 ((m.length : Int) - 1) = (j : Int) := i64_keeps (by omega) (by omega) |>.trans (by omega)
  have i2 : IntKind.i64.wrap ((m.length : Int) - 1) = (j : Int) := by rw [IntKind.wrap_i64]; omega
  have i3 : (0 : Int) ≤ (j : Int) := by omega
  have i4 : (j : Int) < (m.length : Int) := by omega
  have htl : 0 ≤ tl ∧ tl ≤ 281474976710656 := by
    have := (row_ok HK.out).1 _ (List.mem_of_getElem? hx)
    exact ⟨this.1, this.2.1⟩
  obtain ⟨S, hS⟩ : ∃ S, S = 281474976710656 - tl + 1 := ⟨_, rfl⟩
  have e1 : wrap64 (281474976710656 - tl) = 281474976710656 - tl := i64_keeps (by omega) (by omega)
  have e2 : wrap64 (281474976710656 - tl + 1) = S := by rw [hS]; exact i64_keeps (by omega) (by omega)
  have e3 : ¬ S = 0 := by omega
  have HX := Lib.hid (And.intro hx (And.intro htl hS))
  have HJ := Lib.hid hj
  clear hrk hc1 hj hS hx htl
  go_wp2_with fail
  clear c1 i1 i2 i3 i4 e1 e2
  have HZ : Hid (0 ≤ max y 0 % S ∧ tl + max y 0 % S ≤ 281474976710656) := Lib.hid (by
    have h1 := Int.emod_nonneg (max y 0) e3
    have h2 := Int.emod_lt_of_pos (max y 0) (show 0 < S by have := HX.out; omega)
    have h3 := HX.out.2.2
    omega)
  generalize max y 0 % S = z at *
  have HT : Hid (∀ b ∈ m, b.t + z ≤ 281474976710656) := Lib.hid (fun b hb => by
    have h1 := last_time (row_ok HK.out) hb (x := ⟨tl, lol, hil⟩) (by rw [show m.length - 1 = j by have := HJ.out; omega]; exact HX.out.1)
    have h2 := HZ.out.2
    simp only at h1
    omega)
  clear HX HJ e3
  go_loopw [49] (fun i wr => ∃ k : Nat, i = .int .i64 k ∧ k ≤ m.length ∧ Hid (OwnB wr w3.heap.size g1 c3 m.length (mixF dnB k m)) ∧ Hid (OwnB wr w3.heap.size g2 c4 m.length (mixF (laB z) k m)) ∧ Hid (Below w3.heap.size w3 wr)) (fun i _ => m.length - (intOf i).toNat)
  case atStart => exact ⟨0, rfl, Nat.zero_le _, by rw [mix_zero]; exact HD5, by rw [mix_zero]; exact HL5, HB5⟩
  case round =>
    obtain ⟨k, rfl, hk, HD, HL, HB⟩ := hrel
    clear HD5 HL5 HB5
    by_cases gk : k < m.length
    · obtain ⟨⟨t, lo, hi⟩, hx⟩ : ∃ s, m[k]? = some s := ⟨_, List.getElem?_eq_getElem gk⟩
      obtain ⟨_, _, e1, hrk⟩ := id H3.out
      cases e1
      obtain ⟨_, _, e1, hbw, hc1, hc2', hc3'⟩ := hrk.2 k _ hx
      cases e1
      have c1 := (HB.out.cell (p := ⟨bb, off + k * 3, none⟩) hbw).trans hc1
      have c2' := (HB.out.cell (p := ⟨bb, off + k * 3 + 1, none⟩) hbw).trans hc2'
      have c3' := (HB.out.cell (p := ⟨bb, off + k * 3 + 2, none⟩) hbw).trans hc3'
      simp only at c1 c2' c3'
      have i1 : (k : Int) < (m.length : Int) := by omega
      have i0 : (0 : Int) ≤ (k : Int) := by omega
      have HX := Lib.hid hx
      have HOK := Lib.hid (show 0 ≤ t ∧ t ≤ 281474976710656 ∧ lo ≤ hi ∧ -2305844108725321728 ≤ lo ∧ hi ≤ 2305844108725321728 from (row_ok HK.out).1 _ (List.mem_of_getElem? hx))
      have HH := Lib.hid (newK3 (Keeps.alloc (L := []) ⟨HB.out, trivial⟩ (.cells #[.int .i64 t, .int .i64 lo, .int .i64 hi] 50)))
      have HDi := Lib.hid (HD.out.below (below_alloc wr (.cells #[.int .i64 t, .int .i64 lo, .int .i64 hi] 50)))
      have HLi := Lib.hid (HL.out.below (below_alloc wr (.cells #[.int .i64 t, .int .i64 lo, .int .i64 hi] 50)))
      have HGB := Lib.hid (And.intro HD.out.base HL.out.base)
      clear hrk hc1 hc2' hc3' hx HB HD HL
      go_upto_region 11 with (fail)
      have hHs : Keeps w3 [(wr.heap.size, 0, .int .i64 t), (wr.heap.size, 1, .int .i64 lo), (wr.heap.size, 2, .int .i64 hi)] (wr.alloc (.cells #[.int .i64 t, .int .i64 lo, .int .i64 hi] 50)) := HH.out
      generalize wr.alloc (.cells #[.int .i64 t, .int .i64 lo, .int .i64 hi] 50) = wi at hHs HDi HLi ⊢
      generalize wr.heap.size = gb at *
      clear HH c1 c2' c3'
      go_cut [] (fun wx => Hid (OwnB wx w3.heap.size g1 c3 m.length (mixF dnB (k + 1) m)) ∧ Hid (OwnB wx w3.heap.size g2 c4 m.length (mixF (laB z) k m)) ∧ Hid (Below w3.heap.size w3 wx))
      case first =>
        have e1 : IntKind.i64.wrap (-hi) = -hi := by have := HOK.out; rw [IntKind.wrap_i64]; omega
        have e2 : IntKind.i64.wrap (-lo) = -lo := by have := HOK.out; rw [IntKind.wrap_i64]; omega
        have e3 : wrap64 (-hi) = -hi := by have := HOK.out; exact i64_keeps (by omega) (by omega)
        have e4 : wrap64 (-lo) = -lo := by have := HOK.out; exact i64_keeps (by omega) (by omega)
        have hg : w3.heap.size ≤ g1 := HGB.out.1.1
        have hg2 : g1 < gb := HGB.out.1.2
        have hN : ∀ q ∈ [(gb, (0 : Nat), Value.int .i64 t), (gb, 1, .int .i64 lo), (gb, 2, .int .i64 hi)], q.1 ≠ g1 := by
          intro q hq
          simp only [List.mem_cons, List.not_mem_nil, or_false] at hq
          rcases hq with rfl | rfl | rfl <;> (show _ ≠ g1; omega)
        obtain ⟨⟨f0, f0'⟩, ⟨f1, f1'⟩, ⟨f2, f2'⟩⟩ := HDi.out.cells (mix_at HX.out)
        simp only at f1 f2
        have hgi : g1 < wi.heap.size := HDi.out.base.2
        have HW := Lib.hid (Below.refl wi.heap.size wi).drew
        refine region_keepsB (w0 := w3) (L := [(gb, 0, .int .i64 t), (gb, 1, .int .i64 lo), (gb, 2, .int .i64 hi)]) (M := [(g1, k * 3 + 1, .int .i64 lo), (g1, k * 3 + 2, .int .i64 hi)]) (by kernel_rfl) hHs ⟨hHs.1, ⟨hgi, f1, f1'⟩, ⟨hgi, f2, f2'⟩, trivial⟩ (fun hHeld0 hT0 => ?_)
        refine wpAnyH_take (i := 0) (oi := ⟨some 54, _, _, _, _, _⟩) (v := ?_) rfl (by kernel_rfl) (by kernel_rfl) (by kernel_rfl) (fun _ _ _ h => h) (Or.inl ⟨by rfl, ?_⟩) (by assumption) ?_
        rotate_left
        · intro wq hSw; go_simp; (try with_reducible rfl)
        try simp only [Act.put, List.setIfInBounds_toArray, List.set_cons_zero, List.set_cons_succ]
        refine wpAnyH_take (i := 1) (oi := ⟨some 55, _, _, _, _, _⟩) (v := ?_) rfl (by kernel_rfl) (by kernel_rfl) (by kernel_rfl) (fun _ _ _ h => h) (Or.inl ⟨by rfl, ?_⟩) (by assumption) ?_
        rotate_left
        · intro wq hSw; go_simp; (try with_reducible rfl)
        try simp only [Act.put, List.setIfInBounds_toArray, List.set_cons_zero, List.set_cons_succ]
        refine wpAnyH_take (i := 2) (oi := ⟨some 56, _, _, _, _, _⟩) (v := ?_) rfl (by kernel_rfl) (by kernel_rfl) (by kernel_rfl) (fun _ _ _ h => h) (Or.inl ⟨by rfl, ?_⟩) (by assumption) ?_
        rotate_left
        · intro wq hSw; go_simp; (try with_reducible rfl)
        try simp only [Act.put, List.setIfInBounds_toArray, List.set_cons_zero, List.set_cons_succ]
        refine wpAnyH_take (i := 3) (oi := ⟨some 57, _, _, _, _, _⟩) (v := ?_) rfl (by kernel_rfl) (by kernel_rfl) (by kernel_rfl) (fun _ _ _ h => h) (Or.inl ⟨by rfl, ?_⟩) (by assumption) ?_
        rotate_left
        · intro wq hSw; go_simp; (try with_reducible rfl)
        try simp only [Act.put, List.setIfInBounds_toArray, List.set_cons_zero, List.set_cons_succ]
        refine wpAnyH_take (i := 4) (oi := ⟨some 58, _, _, _, _, _⟩) (v := ?_) rfl (by kernel_rfl) (by kernel_rfl) (by kernel_rfl) (fun _ _ _ h => h) (Or.inl ⟨by rfl, ?_⟩) (by assumption) ?_
        rotate_left
        · intro wq hSw; go_simp; (try with_reducible rfl)
        try simp only [Act.put, List.setIfInBounds_toArray, List.set_cons_zero, List.set_cons_succ]
        refine wpAnyH_take (i := 5) (oi := ⟨some 59, _, _, _, _, _⟩) (v := ?_) rfl (by kernel_rfl) (by kernel_rfl) (by kernel_rfl) (fun _ _ _ h => h) (Or.inl ⟨by rfl, ?_⟩) (by assumption) ?_
        rotate_left
        · intro wq hSw; obtain ⟨⟨qz0, qc0, qf0⟩, ⟨qz1, qc1, qf1⟩, ⟨qz2, qc2, qf2⟩, _⟩ := hSw.2; go_simp; (try with_reducible rfl)
        try simp only [Act.put, List.setIfInBounds_toArray, List.set_cons_zero, List.set_cons_succ]
        refine wpAnyH_take (i := 6) (oi := ⟨some 60, _, _, _, _, _⟩) (v := ?_) rfl (by kernel_rfl) (by kernel_rfl) (by kernel_rfl) (fun _ _ _ h => h) (Or.inl ⟨by rfl, ?_⟩) (by assumption) ?_
        rotate_left
        · intro wq hSw; go_simp; (try with_reducible rfl)
        try simp only [Act.put, List.setIfInBounds_toArray, List.set_cons_zero, List.set_cons_succ]
        refine wpAnyH_take (i := 7) (oi := ⟨some 61, _, _, _, _, _⟩) (v := ?_) rfl (by kernel_rfl) (by kernel_rfl) (by kernel_rfl) (fun _ _ _ h => h) (Or.inl ⟨by rfl, ?_⟩) (by assumption) ?_
        rotate_left
        · intro wq hSw; go_simp; (try with_reducible rfl)
        try simp only [Act.put, List.setIfInBounds_toArray, List.set_cons_zero, List.set_cons_succ]
        refine wpAnyH_take (i := 8) (oi := ⟨some 62, _, _, _, _, _⟩) (v := ?_) rfl (by kernel_rfl) (by kernel_rfl) (by kernel_rfl) (fun _ _ _ h => h) (Or.inl ⟨by rfl, ?_⟩) (by assumption) ?_
        rotate_left
        · intro wq hSw; obtain ⟨⟨qz0, qc0, qf0⟩, ⟨qz1, qc1, qf1⟩, ⟨qz2, qc2, qf2⟩, _⟩ := hSw.2; go_simp; (try with_reducible rfl)
        try simp only [Act.put, List.setIfInBounds_toArray, List.set_cons_zero, List.set_cons_succ]
        refine wpAnyH_take (i := 9) (oi := ⟨some 63, _, _, _, _, _⟩) (v := ?_) rfl (by kernel_rfl) (by kernel_rfl) (by kernel_rfl) (fun _ _ _ h => h) (Or.inl ⟨by rfl, ?_⟩) (by assumption) ?_
        rotate_left
        · intro wq hSw; go_simp; (try with_reducible rfl)
        try simp only [Act.put, List.setIfInBounds_toArray, List.set_cons_zero, List.set_cons_succ]
        refine wpAnyH_take (i := 10) (oi := ⟨some 64, _, _, _, _, _⟩) (v := ?_) rfl (by kernel_rfl) (by kernel_rfl) (by kernel_rfl) (fun _ _ _ h => h) (Or.inl ⟨by rfl, ?_⟩) (by assumption) ?_
        rotate_left
        · intro wq hSw; go_simp; (try with_reducible rfl)
        try simp only [Act.put, List.setIfInBounds_toArray, List.set_cons_zero, List.set_cons_succ]
        refine wpAnyH_take (i := 11) (oi := ⟨some 65, _, _, _, _, _⟩) (v := ?_) rfl (by kernel_rfl) (by kernel_rfl) (by kernel_rfl) (fun _ _ _ h => h) (Or.inl ⟨by rfl, ?_⟩) (by assumption) ?_
        rotate_left
        · intro wq hSw; go_simp; (try with_reducible rfl)
        try simp only [Act.put, List.setIfInBounds_toArray, List.set_cons_zero, List.set_cons_succ]
        refine wpAnyH_ready (rs := [12]) (by kernel_rfl) (by simp) ?_
        refine AllReadyH.cons (o := ⟨none, _, _, _, _, _⟩) rfl (fun K hK => ?_) AllReadyH.nil
        obtain ⟨⟨t0z0, t0c0, t0f0⟩, ⟨t0z1, t0c1, t0f1⟩, _⟩ := hT0.2; (try simp at t0z0); (try simp at t0c0); (try simp at t0f0); (try simp at t0z1); (try simp at t0c1); (try simp at t0f1)
        go_simp
        refine hK.out _ _ ((by first | exact (hHeld0.set (p := ⟨g1, k * 3 + 1, none⟩) hg hN _) | exact (hHeld0.set (p := ⟨g1, k * 3 + 2, none⟩) hg hN _) | exact (hHeld0.set (p := ⟨g1, k * 3 + 1, none⟩) hg hN _).drew | exact (hHeld0.set (p := ⟨g1, k * 3 + 2, none⟩) hg hN _).drew)) (fun hHeld1 => ?_)
        clear hK K
        try clear hb
        try simp only [Act.put, List.setIfInBounds_toArray, List.set_cons_zero, List.set_cons_succ]
        refine wpAnyH_take (i := 13) (oi := ⟨some 66, _, _, _, _, _⟩) (v := ?_) rfl (by kernel_rfl) (by kernel_rfl) (by kernel_rfl) (fun _ _ _ h => h) (Or.inl ⟨by rfl, ?_⟩) (by assumption) ?_
        rotate_left
        · intro wq hSw; go_simp; (try with_reducible rfl)
        try simp only [Act.put, List.setIfInBounds_toArray, List.set_cons_zero, List.set_cons_succ]
        refine wpAnyH_take (i := 14) (oi := ⟨some 67, _, _, _, _, _⟩) (v := ?_) rfl (by kernel_rfl) (by kernel_rfl) (by kernel_rfl) (fun _ _ _ h => h) (Or.inl ⟨by rfl, ?_⟩) (by assumption) ?_
        rotate_left
        · intro wq hSw; go_simp; (try with_reducible rfl)
        try simp only [Act.put, List.setIfInBounds_toArray, List.set_cons_zero, List.set_cons_succ]
        refine wpAnyH_ready (rs := [15]) (by kernel_rfl) (by simp) ?_
        refine AllReadyH.cons (o := ⟨none, _, _, _, _, _⟩) rfl (fun K hK => ?_) AllReadyH.nil
        go_simp
        refine hK.out _ _ ((by first | exact (hHeld1.set (p := ⟨g1, k * 3 + 1, none⟩) hg hN _) | exact (hHeld1.set (p := ⟨g1, k * 3 + 2, none⟩) hg hN _) | exact (hHeld1.set (p := ⟨g1, k * 3 + 1, none⟩) hg hN _).drew | exact (hHeld1.set (p := ⟨g1, k * 3 + 2, none⟩) hg hN _).drew)) (fun hHeld2 => ?_)
        clear hK K
        try clear hb
        try simp only [Act.put, List.setIfInBounds_toArray, List.set_cons_zero, List.set_cons_succ]
        refine wpAnyH_done (by kernel_rfl) ?_ _
        have hHeld := hHeld2
        obtain ⟨⟨kz0, kc0, kf0⟩, ⟨kz1, kc1, kf1⟩, ⟨kz2, kc2, kf2⟩, _⟩ := hHeld.2
        all_goals
          have hw := Lib.hid hHeld.1
          clear hHeld0 hT0 hHeld1 hHeld kz0 kc0 kf0 kz1 kc1 kf1 kz2 kc2 kf2
          go_wp2_with fail
          go_meet
          case rel =>
            have hne2 : g2 ≠ g1 := by have := HG.out; omega
            refine ⟨Lib.hid ?_, Lib.hid ?_, hw⟩
            · rw [← mix_set HX.out]
              first
                | exact (HDi.out.set12 (mix_at HX.out) (-hi) (-lo)).below (Below.refl _ _).drew
                | exact (HDi.out.set21 (mix_at HX.out) (-hi) (-lo)).below (Below.refl _ _).drew
            · exact ((HLi.out.other _ _ hne2).other _ _ hne2).below (Below.refl _ _).drew
      case rest =>
        obtain ⟨HD, HL, HB⟩ := hcut
        clear hHs HDi HLi
        obtain ⟨⟨f0, f0'⟩, _, _⟩ := HL.out.cells (mix_at HX.out)
        simp only at f0
        have hgi : g2 < wc.heap.size := HL.out.base.2
        have e1 : IntKind.i64.wrap (t + z) = t + z := by
          have := HOK.out
          have := HZ.out
          have h3 := HT.out _ (List.mem_of_getElem? HX.out)
          simp only at h3
          rw [IntKind.wrap_i64]; omega
        have e2 : wrap64 (t + z) = t + z := by
          have := HOK.out
          have := HZ.out
          have h3 := HT.out _ (List.mem_of_getElem? HX.out)
          simp only at h3
          exact i64_keeps (by omega) (by omega)
        go_wp2_with fail
        go_roundw
        case rel =>
          have hne2 : g1 ≠ g2 := by have := HG.out; omega
          refine ⟨k + 1, by simp, gk, Lib.hid ?_, Lib.hid ?_, Lib.hid ?_⟩
          · exact HD.out.other _ _ hne2
          · rw [← mix_set HX.out]
            have h5 := HL.out.set0 (mix_at HX.out) (t + z)
            first | exact h5 | (simp only [e1, e2]; exact h5) | (rw [e1]; exact h5) | (rw [e2]; exact h5)
          · exact HB.out.setCell (p := ⟨g2, k * 3, none⟩) HGB.out.2.1 _
        case measure => exact index_less gk
    · have hkk : k = m.length := by omega
      have i1 : ¬ (k : Int) < (m.length : Int) := by omega
      rw [mix_all _ (by omega)] at HD HL
      have RD := Lib.hid HD.out.reads
      have RL := Lib.hid HL.out.reads
      have RM := Lib.hid (H3.out.below HB.out)
      have LO := Lib.hid (later_ok HK.out HZ.out.1 HT.out)
      have CU := Lib.hid (cut_any m (by omega) _ wr RM.out)
      have CD := Lib.hid (fun W (hb : Below wr.heap.size wr W) => cut_any (m.map dnB) (by rw [List.length_map]; omega) _ W (RD.out.below hb))
      rw [(code_dn m).1, (code_dn m).2] at CD
      have e1 : codeS m = 0 := by simp [codeS, HK.out]
      rw [e1] at CU CD
      have FA := Lib.hid (fun W (hb : Below wr.heap.size wr W) => fit_any m (by omega) _ W (RM.out.below hb))
      have FB := Lib.hid (fun W (hb : Below wr.heap.size wr W) => fit_any (m.map (laB z)) (by rw [List.length_map]; omega) _ W (RL.out.below hb))
      rw [LO.out.e, LO.out.a, LO.out.r, LO.out.n, LO.out.d] at FB
      have SA := Lib.hid (fun W (hb : Below wr.heap.size wr W) => slopes_any m (by omega) _ W (RM.out.below hb))
      have SB := Lib.hid (fun W (hb : Below wr.heap.size wr W) => slopes_any (m.map dnB) (by rw [List.length_map]; omega) _ W (RD.out.below hb))
      rw [sloS_dn, fitE_dn] at SB
      have HSL : Hid ((-9223372036854775808 < (sloS m).a ∧ (sloS m).a ≤ 9223372036854775807) ∧ -9223372036854775808 < (sloS m).c ∧ (sloS m).c ≤ 9223372036854775807) := Lib.hid (slo_nums HK.out)
      have HEQ := Lib.hid (fun (v v2 : Value) (W : World) h1 h2 => equalN ((rowS m).map (fun n : Nat => (n : Int))) (by rw [List.length_map]; exact row_short HK.out) v v2 W h1 h2)
      have HBB := Lib.hid (under HB3.out HB.out)
      have RC := Lib.hid (fun (B : Nat) (v : Value) (W : World) (ho : RowC B (rowS m) v W) => (reads_own (l := (rowS m).map (fun n : Nat => (n : Int))) (k := .i64) (by unfold RowC cntV at ho; rw [List.length_map, List.map_map]; exact ho) : Reads .i64 W v ((rowS m).map (fun n : Nat => (n : Int)))))
      generalize fitA m = x0 at *
      generalize fitR m = x1 at *
      generalize fitN m = x2 at *
      generalize fitD m = x3 at *
      generalize fitE m = ee at *
      generalize sloS m = s at *
      obtain ⟨p1, p2, p3, p4⟩ := s
      simp only [nsS] at SA SB HSL
      clear hkk e1 HT HZ LO RD RL RM HD HL H3 HK
      go_wp2_with fail
      refine CU.out.mono ?_
      rintro en w6 ⟨hb6, A6, n6, c6, rfl, ho6⟩
      have R6 := Lib.hid (RC.out _ _ _ ho6)
      have HB6 := Lib.hid hb6
      clear ho6 hb6 CU
      go_wp2_with fail
      refine (CD.out _ HB6.out).mono ?_
      rintro en w7 ⟨hb7, A7, n7, c7, rfl, ho7⟩
      have R7 := Lib.hid (RC.out _ _ _ ho7)
      have R6b := Lib.hid (R6.out.below hb7)
      have HB7 := Lib.hid (under HB6.out hb7)
      clear ho7 hb7 CD R6 RC HB6
      go_wp2_with fail
      refine (FA.out _ HB7.out).mono ?_
      rintro en w8 ⟨rfl, hb8⟩
      have h8 := (show Keeps w7 [] w8 from ⟨hb8, trivial⟩).alloc (.cells #[.int .i64 x0, .int .i64 x1, .int .i64 x2, .int .i64 x3] 30)
      have K8 := Lib.hid (newK4 h8)
      clear h8 hb8 FA
      go_wp2_with fail
      refine (FB.out _ (under HB7.out K8.out.1)).mono ?_
      rintro en w9 ⟨rfl, hb9⟩
      have h9 := (K8.out.next hb9).alloc (.cells #[.int .i64 x0, .int .i64 x1, .int .i64 x2, .int .i64 x3] 30)
      have K9 := Lib.hid (Keeps.app (newK4 h9) h9)
      clear h9 hb9 FB K8
      go_wp2_with fail
      refine (SA.out _ (under HB7.out K9.out.1)).mono ?_
      rintro en w10 ⟨rfl, hb10⟩
      have h10 := ((K9.out.next hb10).alloc (.cells #[.int .i64 p1, .int .i64 p2] 34)).alloc (.cells #[.int .i64 p3, .int .i64 p4] 34)
      have K10 := Lib.hid (Keeps.app (l := [(w10.heap.size, 0, .int .i64 p1), (w10.heap.size, 1, .int .i64 p2), (w10.heap.size + 1, 0, .int .i64 p3), (w10.heap.size + 1, 1, .int .i64 p4)]) ⟨h10.1, by simp [Cells, go_sem]⟩ h10)
      clear h10 hb10 SA K9
      go_wp2_with fail
      refine (SB.out _ (under HB7.out K10.out.1)).mono ?_
      rintro en w11 ⟨rfl, hb11⟩
      have h11 := ((K10.out.next hb11).alloc (.cells #[.int .i64 (-p3), .int .i64 p4] 34)).alloc (.cells #[.int .i64 (-p1), .int .i64 p2] 34)
      have K11 := Lib.hid (Keeps.app (l := [(w11.heap.size, 0, .int .i64 (-p3)), (w11.heap.size, 1, .int .i64 p4), (w11.heap.size + 1, 0, .int .i64 (-p1)), (w11.heap.size + 1, 1, .int .i64 p2)]) ⟨h11.1, by simp [Cells, go_sem]⟩ h11)
      clear h11 hb11 SB K10
      go_upto_region 20 with (fail)
      have hHs : Keeps w7 [(w11.heap.size, 0, .int .i64 (-p3)), (w11.heap.size, 1, .int .i64 p4), (w11.heap.size + 1, 0, .int .i64 (-p1)), (w11.heap.size + 1, 1, .int .i64 p2), (w10.heap.size, 0, .int .i64 p1), (w10.heap.size, 1, .int .i64 p2), (w10.heap.size + 1, 0, .int .i64 p3), (w10.heap.size + 1, 1, .int .i64 p4), (w9.heap.size, 0, .int .i64 x0), (w9.heap.size, 1, .int .i64 x1), (w9.heap.size, 2, .int .i64 x2), (w9.heap.size, 3, .int .i64 x3), (w8.heap.size, 0, .int .i64 x0), (w8.heap.size, 1, .int .i64 x1), (w8.heap.size, 2, .int .i64 x2), (w8.heap.size, 3, .int .i64 x3)] ((w11.alloc (.cells #[.int .i64 (-p3), .int .i64 p4] 34)).alloc (.cells #[.int .i64 (-p1), .int .i64 p2] 34)) := K11.out
      generalize (w11.alloc (.cells #[.int .i64 (-p3), .int .i64 p4] 34)).alloc (.cells #[.int .i64 (-p1), .int .i64 p2] 34) = wi at hHs ⊢
      generalize w11.heap.size = ga at *
      generalize w10.heap.size = gb at *
      generalize w9.heap.size = gx at *
      generalize w8.heap.size = gy at *
      clear K11
      have EQ := Lib.hid (HEQ.out _ _ _ (R6b.out.below hHs.1) (R7.out.below hHs.1))
      clear HEQ R6b R7
      have HK7 := Lib.hid hHs
      clear hHs
      go_wp2_with fail
      refine EQ.out.mono ?_
      rintro en w12 ⟨rfl, hb12⟩
      have HK8 := Lib.hid (HK7.out.next hb12)
      obtain ⟨⟨kz0, kc0, kf0⟩, ⟨kz1, kc1, kf1⟩, ⟨kz2, kc2, kf2⟩, ⟨kz3, kc3, kf3⟩, ⟨kz4, kc4, kf4⟩, ⟨kz5, kc5, kf5⟩, ⟨kz6, kc6, kf6⟩, ⟨kz7, kc7, kf7⟩, ⟨kz8, kc8, kf8⟩, ⟨kz9, kc9, kf9⟩, ⟨kz10, kc10, kf10⟩, ⟨kz11, kc11, kf11⟩, ⟨kz12, kc12, kf12⟩, ⟨kz13, kc13, kf13⟩, ⟨kz14, kc14, kf14⟩, ⟨kz15, kc15, kf15⟩, _⟩ := HK8.out.2
      have HF := Lib.hid (under HBB.out (under HB7.out HK8.out.1))
      have e1 : wrap64 p1 = p1 := i64_keeps (by have := HSL.out; omega) (by have := HSL.out; omega)
      have e2 : IntKind.i64.wrap p1 = p1 := by have := HSL.out; rw [IntKind.wrap_i64]; omega
      have e3 : wrap64 p3 = p3 := i64_keeps (by have := HSL.out; omega) (by have := HSL.out; omega)
      have e4 : IntKind.i64.wrap p3 = p3 := by have := HSL.out; rw [IntKind.wrap_i64]; omega
      clear HK7 HK8 EQ hb12 HBB HB7 HSL
      go_wp2_with fail
      go_ret
      exact ⟨by simp, HF.out⟩
end Go.Proofs.Ytmdhgiaaofdjiaa.P10
