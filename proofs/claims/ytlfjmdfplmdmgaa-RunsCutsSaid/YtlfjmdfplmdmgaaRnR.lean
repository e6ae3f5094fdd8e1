/-
  Layer 7: runs: Join, with the error by which it is left. Conditions: those written at each fact.
-/
import Derived.Test.YtlfjmdfplmdmgaaRnQ
namespace Go.Proofs.Ytlfjmdfplmdmgaa
open Go.RowKit Go.Shelf

/-- May the runs m come behind the runs l? -/
def behindL (l m : List Rn) : Bool := match l[l.length - 1]?, m[0]? with | some a, some b => decide (a.f + (a.c - 1) * a.s < b.f) | _, _ => false
def codeJ (l m : List Rn) : Int := if okB l && okB m then (if behindL l m && decide (totalR l + totalR m ≤ 256) then 0 else 2) else 170

set_option maxRecDepth 100000 in
set_option maxHeartbeats 2000000 in
theorem join1_any (l m : List Rn) (hl : l.length ≤ 1000000) (hm : m.length ≤ 1000000) (v u : Value) (W : World) (B C : Nat) (hb : Boxed W B 22 v) (hcx : Boxed W C 22 u) (h : ReadsR W v l) (hu : ReadsR W u m) :
    Calls Try.prog 60 #[.pointer (some ⟨B, 0, none⟩), .pointer (some ⟨C, 0, none⟩)] W (RowOr W (codeJ l m) (laidR (timesR l ++ timesR m))) := by
  have CA := Lib.hid (fun W' (hb' : Below W.heap.size W W') => count_any l (by omega) v W' (h.below hb'))
  have CB := Lib.hid (fun W' (hb' : Below W.heap.size W W') => count_any m (by omega) u W' (hu.below hb'))
  have hr := h
  have hru := hu
  obtain ⟨A, c, rfl, hc, hk⟩ := h
  obtain ⟨A2, c2, rfl, hc2, hk2⟩ := hu
  have hbl := hb.lt
  have hbc := hb.cell
  have hbf := hb.frozen
  have hcl := hcx.lt
  have hcc := hcx.cell
  have hcf := hcx.frozen
  clear hb hcx
  have HS : Hid (Keeps W [(B, 0, .slice A l.length c), (C, 0, .slice A2 m.length c2)] W) := Lib.hid ⟨Below.refl _ _, ⟨hbl, hbc, hbf⟩, ⟨hcl, hcc, hcf⟩, trivial⟩
  cases g1 : okB l
  · have HC : Hid (codeJ l m = 170) := Lib.hid (by simp [codeJ, g1])
    have C1 : Hid (∀ W', Below W.heap.size W W' → Calls Try.prog 38 #[.slice A l.length c] W' (fun e w' => e = thrown 170 ∧ Below W'.heap.size W' w')) := Lib.hid (fun W' hb' => (CA.out W' hb').mono fun e w' he => ⟨by rw [he.1, g1]; rfl, he.2⟩)
    clear g1
    go_enter Try.func60, Try.ntmps60
    go_wp2_with fail
    refine region_keeps (w0 := W) (L := [(B, 0, .slice A l.length c), (C, 0, .slice A2 m.length c2)]) (by kernel_rfl) HS.out (fun hHeld0 => ?_)
    refine wpAnyH_take (i := 0) (oi := ⟨some 4, _, _, _, _, _⟩) (v := ?_) rfl (by kernel_rfl) (by kernel_rfl) (by kernel_rfl) (fun _ _ _ h => h) (Or.inl ⟨by rfl, ?_⟩) (by assumption) ?_
    rotate_left
    · intro wq hSw; obtain ⟨⟨qz0, qc0, qf0⟩, ⟨qz1, qc1, qf1⟩, _⟩ := hSw.2; go_simp; (try with_reducible rfl)
    try simp only [Act.put, List.setIfInBounds_toArray, List.set_cons_zero, List.set_cons_succ]
    refine wpAnyH_take (i := 2) (oi := ⟨some 6, _, _, _, _, _⟩) (v := ?_) rfl (by kernel_rfl) (by kernel_rfl) (by kernel_rfl) (fun _ _ _ h => h) (Or.inl ⟨by rfl, ?_⟩) (by assumption) ?_
    rotate_left
    · intro wq hSw; obtain ⟨⟨qz0, qc0, qf0⟩, ⟨qz1, qc1, qf1⟩, _⟩ := hSw.2; go_simp; (try with_reducible rfl)
    try simp only [Act.put, List.setIfInBounds_toArray, List.set_cons_zero, List.set_cons_succ]
    refine wpAnyH_ready (rs := [1]) (by kernel_rfl) (by simp) ?_
    refine AllReadyH.cons (o := ⟨some 5, _, _, _, _, _⟩) rfl (fun K hK => ?_) AllReadyH.nil
    go_simp
    (have hB0 := hHeld0.1; (with_reducible refine (C1.out _ hB0).mono ?_); clear hB0; rintro e w5 ⟨rfl, hb⟩)
    have hHeld := hHeld0
    all_goals
      exact ⟨rfl, (hHeld.next hb).1, .inr ⟨170, rfl, HC.out, by decide⟩⟩
  have C1 : Hid (∀ W', Below W.heap.size W W' → Calls Try.prog 38 #[.slice A l.length c] W' (Ret W' (.int .i64 (totalR l)))) := Lib.hid (fun W' hb' => (CA.out W' hb').mono fun e w' he => ⟨by rw [he.1, g1]; rfl, he.2⟩)
  cases g2 : okB m
  · have HC : Hid (codeJ l m = 170) := Lib.hid (by simp [codeJ, g2])
    have C2 : Hid (∀ W', Below W.heap.size W W' → Calls Try.prog 38 #[.slice A2 m.length c2] W' (fun e w' => e = thrown 170 ∧ Below W'.heap.size W' w')) := Lib.hid (fun W' hb' => (CB.out W' hb').mono fun e w' he => ⟨by rw [he.1, g2]; rfl, he.2⟩)
    clear g1 g2
    generalize totalR l = n1 at C1
    go_enter Try.func60, Try.ntmps60
    go_wp2_with fail
    refine region_keeps (w0 := W) (L := [(B, 0, .slice A l.length c), (C, 0, .slice A2 m.length c2)]) (by kernel_rfl) HS.out (fun hHeld0 => ?_)
    refine wpAnyH_take (i := 0) (oi := ⟨some 4, _, _, _, _, _⟩) (v := ?_) rfl (by kernel_rfl) (by kernel_rfl) (by kernel_rfl) (fun _ _ _ h => h) (Or.inl ⟨by rfl, ?_⟩) (by assumption) ?_
    rotate_left
    · intro wq hSw; obtain ⟨⟨qz0, qc0, qf0⟩, ⟨qz1, qc1, qf1⟩, _⟩ := hSw.2; go_simp; (try with_reducible rfl)
    try simp only [Act.put, List.setIfInBounds_toArray, List.set_cons_zero, List.set_cons_succ]
    refine wpAnyH_take (i := 2) (oi := ⟨some 6, _, _, _, _, _⟩) (v := ?_) rfl (by kernel_rfl) (by kernel_rfl) (by kernel_rfl) (fun _ _ _ h => h) (Or.inl ⟨by rfl, ?_⟩) (by assumption) ?_
    rotate_left
    · intro wq hSw; obtain ⟨⟨qz0, qc0, qf0⟩, ⟨qz1, qc1, qf1⟩, _⟩ := hSw.2; go_simp; (try with_reducible rfl)
    try simp only [Act.put, List.setIfInBounds_toArray, List.set_cons_zero, List.set_cons_succ]
    refine wpAnyH_ready (rs := [1]) (by kernel_rfl) (by simp) ?_
    refine AllReadyH.cons (o := ⟨some 5, _, _, _, _, _⟩) rfl (fun K hK => ?_) AllReadyH.nil
    go_simp
    (have hB0 := hHeld0.1; (with_reducible refine (C1.out _ hB0).mono ?_); clear hB0; rintro e w5 ⟨rfl, hb⟩)
    refine hK.out _ _ (hHeld0.next hb) (fun hHeld1 => ?_)
    clear hK K
    try clear hb
    try simp only [Act.put, List.setIfInBounds_toArray, List.set_cons_zero, List.set_cons_succ]
    refine wpAnyH_ready (rs := [3]) (by kernel_rfl) (by simp) ?_
    refine AllReadyH.cons (o := ⟨some 7, _, _, _, _, _⟩) rfl (fun K hK => ?_) AllReadyH.nil
    go_simp
    (have hB0 := hHeld1.1; (with_reducible refine (C2.out _ hB0).mono ?_); clear hB0; rintro e w6 ⟨rfl, hb⟩)
    have hHeld := hHeld1
    all_goals
      exact ⟨rfl, (hHeld.next hb).1, .inr ⟨170, rfl, HC.out, by decide⟩⟩
  have C2 : Hid (∀ W', Below W.heap.size W W' → Calls Try.prog 38 #[.slice A2 m.length c2] W' (Ret W' (.int .i64 (totalR m)))) := Lib.hid (fun W' hb' => (CB.out W' hb').mono fun e w' he => ⟨by rw [he.1, g2]; rfl, he.2⟩)
  obtain ⟨hne, hR, hT, hl2⟩ := okB_facts g1
  obtain ⟨hne2, hR2, hT2, hm2⟩ := okB_facts g2
  have hln : 0 < l.length := List.length_pos_iff.2 hne
  have hmn : 0 < m.length := List.length_pos_iff.2 hne2
  obtain ⟨j, hj⟩ : ∃ j, l.length = j + 1 := ⟨l.length - 1, by omega⟩
  obtain ⟨⟨f, s, d⟩, hx⟩ : ∃ s, l[l.length - 1]? = some s := ⟨_, List.getElem?_eq_getElem (by omega)⟩
  obtain ⟨⟨f2, s2, d2⟩, hy⟩ : ∃ s, m[0]? = some s := ⟨_, List.getElem?_eq_getElem (by omega)⟩
  have HCJ : Hid (codeJ l m = if f + (d - 1) * s < f2 ∧ totalR l + totalR m ≤ 256 then 0 else 2) := Lib.hid (by
    simp only [codeJ, g1, g2, behindL, hx, hy, Bool.and_true, if_true, Bool.and_eq_true, decide_eq_true_eq])
  obtain ⟨bb, off, rfl, hbw, p1, p2, p3⟩ := hk _ _ hx
  obtain ⟨bb2, off2, rfl, hbw2, q1, q2, q3⟩ := hk2 _ _ hy
  simp only [Nat.zero_mul, Nat.add_zero] at p1 p2 p3 q1 q2 q3
  obtain ⟨o1, o2, o3, o4, o5, o6, o7⟩ : RunOk ⟨f, s, d⟩ := hR _ (List.mem_of_getElem? hx)
  simp only at o1 o2 o3 o4 o5 o6 o7
  have LS := Lib.hid (last_at f s d o1 (by omega) o4 o5 o3 o7)
  have hpos1 := totalR_pos (l := l) (fun r hr => by have := (hR r hr).1; omega)
  have hpos2 := totalR_pos (l := m) (fun r hr => by have := (hR2 r hr).1; omega)
  have hTL := timesR_length (l := l) (fun r hr => by have := (hR r hr).1; omega)
  have hTM := timesR_length (l := m) (fun r hr => by have := (hR2 r hr).1; omega)
  have LA := Lib.hid (fun W' (hb' : Below W.heap.size W W') => lay2_any [(.slice (some ⟨bb, off, none⟩) l.length c, l), (.slice (some ⟨bb2, off2, none⟩) m.length c2, m)] (W'.alloc (.cells #[.slice (some ⟨bb, off, none⟩) l.length c, .slice (some ⟨bb2, off2, none⟩) m.length c2] 22)) (fun p hp => by
        rcases List.mem_cons.1 hp with rfl | hp
        · exact ⟨(hr.below hb').below (below_alloc W' _), hl, hR⟩
        · rcases List.mem_singleton.1 hp with rfl
          exact ⟨(hru.below hb').below (below_alloc W' _), hm, hR2⟩) (by simp) (by simp [timesP]; omega) (fun t ht => by
        simp only [timesP, List.append_nil, List.mem_append] at ht
        rcases ht with ht | ht
        · exact times_all hR t ht
        · exact times_all hR2 t ht) (.slice (some ⟨W'.heap.size, 0, none⟩) 2 2)
      ⟨_, 2, rfl, by simp, fun i u hi => by
        match i, hi with
        | 0, hi => simp at hi; subst hi; exact ⟨W'.heap.size, 0, rfl, by simp, by simp [go_sem]⟩
        | 1, hi => simp at hi; subst hi; exact ⟨W'.heap.size, 0, rfl, by simp, by simp [go_sem]⟩
        | i + 2, hi => simp at hi⟩)
  have eT : timesP [(.slice (some ⟨bb, off, none⟩) l.length c, l), (.slice (some ⟨bb2, off2, none⟩) m.length c2, m)] = timesR l ++ timesR m := by simp [timesP]
  rw [eT] at LA
  clear hr hru hk hk2 CA CB hne hR hne2 hR2 eT g1 g2 hTL hTM hx hy
  generalize totalR l = n1 at *
  generalize totalR m = n2 at *
  generalize timesR l ++ timesR m = T at *
  generalize f + (d - 1) * s = z at *
  have em : wrap64 (n1 + n2) = n1 + n2 := i64_keeps (by omega) (by omega)
  have ew : IntKind.i64.wrap (n1 + n2) = n1 + n2 := by rw [IntKind.wrap_i64]; omega
  rw [show l.length - 1 = j by omega] at p1 p2 p3
  have i1 : (0 : Int) < (m.length : Int) := by omega
  have ej : IntKind.i64.wrap ((l.length : Int) - 1) = (j : Int) := by rw [IntKind.wrap_i64]; omega
  have ij : (j : Int) < (l.length : Int) := by omega
  have j0 : (0 : Int) ≤ (j : Int) := by omega
  have P1 := Lib.hid p1
  have P2 := Lib.hid p2
  have P3 := Lib.hid p3
  have Q1 := Lib.hid q1
  clear p1 p2 p3 q1 q2 q3 hj
  by_cases gz : z < f2
  · by_cases gn : n1 + n2 ≤ 256
    · have HC : Hid (codeJ l m = 0) := Lib.hid (by rw [HCJ.out, if_pos ⟨gz, gn⟩])
      have MT := Lib.hid (must_true 2)
      clear HCJ
      go_enter Try.func60, Try.ntmps60
      go_wp2_with fail
      refine region_keeps (w0 := W) (L := [(B, 0, .slice (some ⟨bb, off, none⟩) l.length c), (C, 0, .slice (some ⟨bb2, off2, none⟩) m.length c2)]) (by kernel_rfl) HS.out (fun hHeld0 => ?_)
      refine wpAnyH_take (i := 0) (oi := ⟨some 4, _, _, _, _, _⟩) (v := ?_) rfl (by kernel_rfl) (by kernel_rfl) (by kernel_rfl) (fun _ _ _ h => h) (Or.inl ⟨by rfl, ?_⟩) (by assumption) ?_
      rotate_left
      · intro wq hSw; obtain ⟨⟨qz0, qc0, qf0⟩, ⟨qz1, qc1, qf1⟩, _⟩ := hSw.2; go_simp; (try with_reducible rfl)
      try simp only [Act.put, List.setIfInBounds_toArray, List.set_cons_zero, List.set_cons_succ]
      refine wpAnyH_take (i := 2) (oi := ⟨some 6, _, _, _, _, _⟩) (v := ?_) rfl (by kernel_rfl) (by kernel_rfl) (by kernel_rfl) (fun _ _ _ h => h) (Or.inl ⟨by rfl, ?_⟩) (by assumption) ?_
      rotate_left
      · intro wq hSw; obtain ⟨⟨qz0, qc0, qf0⟩, ⟨qz1, qc1, qf1⟩, _⟩ := hSw.2; go_simp; (try with_reducible rfl)
      try simp only [Act.put, List.setIfInBounds_toArray, List.set_cons_zero, List.set_cons_succ]
      refine wpAnyH_ready (rs := [1]) (by kernel_rfl) (by simp) ?_
      refine AllReadyH.cons (o := ⟨some 5, _, _, _, _, _⟩) rfl (fun K hK => ?_) AllReadyH.nil
      go_simp
      (have hB0 := hHeld0.1; (with_reducible refine (C1.out _ hB0).mono ?_); clear hB0; rintro e w5 ⟨rfl, hb⟩)
      refine hK.out _ _ (hHeld0.next hb) (fun hHeld1 => ?_)
      clear hK K
      try clear hb
      try simp only [Act.put, List.setIfInBounds_toArray, List.set_cons_zero, List.set_cons_succ]
      refine wpAnyH_ready (rs := [3]) (by kernel_rfl) (by simp) ?_
      refine AllReadyH.cons (o := ⟨some 7, _, _, _, _, _⟩) rfl (fun K hK => ?_) AllReadyH.nil
      go_simp
      (have hB0 := hHeld1.1; (with_reducible refine (C2.out _ hB0).mono ?_); clear hB0; rintro e w6 ⟨rfl, hb⟩)
      refine hK.out _ _ (hHeld1.next hb) (fun hHeld2 => ?_)
      clear hK K
      try clear hb
      try simp only [Act.put, List.setIfInBounds_toArray, List.set_cons_zero, List.set_cons_succ]
      refine wpAnyH_take (i := 4) (oi := ⟨some 8, _, _, _, _, _⟩) (v := ?_) rfl (by kernel_rfl) (by kernel_rfl) (by kernel_rfl) (fun _ _ _ h => h) (Or.inl ⟨by rfl, ?_⟩) (by assumption) ?_
      rotate_left
      · intro wq hSw; go_simp; (try with_reducible rfl)
      try simp only [Act.put, List.setIfInBounds_toArray, List.set_cons_zero, List.set_cons_succ]
      refine wpAnyH_take (i := 5) (oi := ⟨some 3, _, _, _, _, _⟩) (v := ?_) rfl (by kernel_rfl) (by kernel_rfl) (by kernel_rfl) (fun _ _ _ h => h) (Or.inl ⟨by rfl, ?_⟩) (by assumption) ?_
      rotate_left
      · intro wq hSw; go_simp; (try with_reducible rfl)
      try simp only [Act.put, List.setIfInBounds_toArray, List.set_cons_zero, List.set_cons_succ]
      refine wpAnyH_done (by kernel_rfl) ?_ _
      have hHeld := hHeld2
      obtain ⟨⟨kz0, kc0, kf0⟩, ⟨kz1, kc1, kf1⟩, _⟩ := hHeld.2
      all_goals
        have HK6 := Lib.hid hHeld
        clear hHeld0 hHeld1 hHeld2
        go_wp2_with fail
        have hn3 : n1 + n2 ≤ 256 := gn
        refine region_keeps (w0 := W) (L := [(B, 0, .slice (some ⟨bb, off, none⟩) l.length c), (C, 0, .slice (some ⟨bb2, off2, none⟩) m.length c2)]) (by kernel_rfl) HK6.out (fun hHeld0 => ?_)
        refine wpAnyH_take (i := 0) (oi := ⟨some 9, _, _, _, _, _⟩) (v := ?_) rfl (by kernel_rfl) (by kernel_rfl) (by kernel_rfl) (fun _ _ _ h => h) (Or.inl ⟨by rfl, ?_⟩) (by assumption) ?_
        rotate_left
        · intro wq hSw; obtain ⟨⟨qz0, qc0, qf0⟩, ⟨qz1, qc1, qf1⟩, _⟩ := hSw.2; have x1 := (hSw.1.cell (p := ⟨bb, off + j * 3, none⟩) hbw).trans P1.out; have x2 := (hSw.1.cell (p := ⟨bb, off + j * 3 + 1, none⟩) hbw).trans P2.out; have x3 := (hSw.1.cell (p := ⟨bb, off + j * 3 + 2, none⟩) hbw).trans P3.out; have x4 := (hSw.1.cell (p := ⟨bb2, off2, none⟩) hbw2).trans Q1.out; go_simp; (try with_reducible rfl)
        try simp only [Act.put, List.setIfInBounds_toArray, List.set_cons_zero, List.set_cons_succ]
        refine wpAnyH_take (i := 1) (oi := ⟨some 10, _, _, _, _, _⟩) (v := ?_) rfl (by kernel_rfl) (by kernel_rfl) (by kernel_rfl) (fun _ _ _ h => h) (Or.inl ⟨by rfl, ?_⟩) (by assumption) ?_
        rotate_left
        · intro wq hSw; obtain ⟨⟨qz0, qc0, qf0⟩, ⟨qz1, qc1, qf1⟩, _⟩ := hSw.2; have x1 := (hSw.1.cell (p := ⟨bb, off + j * 3, none⟩) hbw).trans P1.out; have x2 := (hSw.1.cell (p := ⟨bb, off + j * 3 + 1, none⟩) hbw).trans P2.out; have x3 := (hSw.1.cell (p := ⟨bb, off + j * 3 + 2, none⟩) hbw).trans P3.out; have x4 := (hSw.1.cell (p := ⟨bb2, off2, none⟩) hbw2).trans Q1.out; go_simp; (try with_reducible rfl)
        try simp only [Act.put, List.setIfInBounds_toArray, List.set_cons_zero, List.set_cons_succ]
        refine wpAnyH_take (i := 2) (oi := ⟨some 11, _, _, _, _, _⟩) (v := ?_) rfl (by kernel_rfl) (by kernel_rfl) (by kernel_rfl) (fun _ _ _ h => h) (Or.inl ⟨by rfl, ?_⟩) (by assumption) ?_
        rotate_left
        · intro wq hSw; go_simp; (try with_reducible rfl)
        try simp only [Act.put, List.setIfInBounds_toArray, List.set_cons_zero, List.set_cons_succ]
        refine wpAnyH_take (i := 3) (oi := ⟨some 12, _, _, _, _, _⟩) (v := ?_) rfl (by kernel_rfl) (by kernel_rfl) (by kernel_rfl) (fun _ _ _ h => h) (Or.inl ⟨by rfl, ?_⟩) (by assumption) ?_
        rotate_left
        · intro wq hSw; go_simp; (try with_reducible rfl)
        try simp only [Act.put, List.setIfInBounds_toArray, List.set_cons_zero, List.set_cons_succ]
        refine wpAnyH_take (i := 4) (oi := ⟨some 13, _, _, _, _, _⟩) (v := ?_) rfl (by kernel_rfl) (by kernel_rfl) (by kernel_rfl) (fun _ _ _ h => h) (Or.inl ⟨by rfl, ?_⟩) (by assumption) ?_
        rotate_left
        · intro wq hSw; go_simp; (try with_reducible rfl)
        try simp only [Act.put, List.setIfInBounds_toArray, List.set_cons_zero, List.set_cons_succ]
        refine wpAnyH_take (i := 5) (oi := ⟨some 14, _, _, _, _, _⟩) (v := ?_) rfl (by kernel_rfl) (by kernel_rfl) (by kernel_rfl) (fun _ _ _ h => h) (Or.inl ⟨by rfl, ?_⟩) (by assumption) ?_
        rotate_left
        · intro wq hSw; obtain ⟨⟨qz0, qc0, qf0⟩, ⟨qz1, qc1, qf1⟩, _⟩ := hSw.2; have x1 := (hSw.1.cell (p := ⟨bb, off + j * 3, none⟩) hbw).trans P1.out; have x2 := (hSw.1.cell (p := ⟨bb, off + j * 3 + 1, none⟩) hbw).trans P2.out; have x3 := (hSw.1.cell (p := ⟨bb, off + j * 3 + 2, none⟩) hbw).trans P3.out; have x4 := (hSw.1.cell (p := ⟨bb2, off2, none⟩) hbw2).trans Q1.out; go_simp; (try with_reducible rfl)
        try simp only [Act.put, List.setIfInBounds_toArray, List.set_cons_zero, List.set_cons_succ]
        refine wpAnyH_take (i := 7) (oi := ⟨some 16, _, _, _, _, _⟩) (v := ?_) rfl (by kernel_rfl) (by kernel_rfl) (by kernel_rfl) (fun _ _ _ h => h) (Or.inl ⟨by rfl, ?_⟩) (by assumption) ?_
        rotate_left
        · intro wq hSw; obtain ⟨⟨qz0, qc0, qf0⟩, ⟨qz1, qc1, qf1⟩, _⟩ := hSw.2; have x1 := (hSw.1.cell (p := ⟨bb, off + j * 3, none⟩) hbw).trans P1.out; have x2 := (hSw.1.cell (p := ⟨bb, off + j * 3 + 1, none⟩) hbw).trans P2.out; have x3 := (hSw.1.cell (p := ⟨bb, off + j * 3 + 2, none⟩) hbw).trans P3.out; have x4 := (hSw.1.cell (p := ⟨bb2, off2, none⟩) hbw2).trans Q1.out; go_simp; (try with_reducible rfl)
        try simp only [Act.put, List.setIfInBounds_toArray, List.set_cons_zero, List.set_cons_succ]
        refine wpAnyH_take (i := 8) (oi := ⟨some 17, _, _, _, _, _⟩) (v := ?_) rfl (by kernel_rfl) (by kernel_rfl) (by kernel_rfl) (fun _ _ _ h => h) (Or.inl ⟨by rfl, ?_⟩) (by assumption) ?_
        rotate_left
        · intro wq hSw; go_simp; (try with_reducible rfl)
        try simp only [Act.put, List.setIfInBounds_toArray, List.set_cons_zero, List.set_cons_succ]
        refine wpAnyH_take (i := 9) (oi := ⟨some 18, _, _, _, _, _⟩) (v := ?_) rfl (by kernel_rfl) (by kernel_rfl) (by kernel_rfl) (fun _ _ _ h => h) (Or.inl ⟨by rfl, ?_⟩) (by assumption) ?_
        rotate_left
        · intro wq hSw; go_simp; (try with_reducible rfl)
        try simp only [Act.put, List.setIfInBounds_toArray, List.set_cons_zero, List.set_cons_succ]
        refine wpAnyH_take (i := 10) (oi := ⟨some 19, _, _, _, _, _⟩) (v := ?_) rfl (by kernel_rfl) (by kernel_rfl) (by kernel_rfl) (fun _ _ _ h => h) (Or.inl ⟨by rfl, ?_⟩) (by assumption) ?_
        rotate_left
        · intro wq hSw; obtain ⟨⟨qz0, qc0, qf0⟩, ⟨qz1, qc1, qf1⟩, _⟩ := hSw.2; have x1 := (hSw.1.cell (p := ⟨bb, off + j * 3, none⟩) hbw).trans P1.out; have x2 := (hSw.1.cell (p := ⟨bb, off + j * 3 + 1, none⟩) hbw).trans P2.out; have x3 := (hSw.1.cell (p := ⟨bb, off + j * 3 + 2, none⟩) hbw).trans P3.out; have x4 := (hSw.1.cell (p := ⟨bb2, off2, none⟩) hbw2).trans Q1.out; go_simp; (try with_reducible rfl)
        try simp only [Act.put, List.setIfInBounds_toArray, List.set_cons_zero, List.set_cons_succ]
        refine wpAnyH_ready (rs := [6]) (by kernel_rfl) (by simp) ?_
        refine AllReadyH.cons (o := ⟨some 15, _, _, _, _, _⟩) rfl (fun K hK => ?_) AllReadyH.nil
        go_simp
        (first | ((with_reducible refine (LS.out _).mono ?_); rintro e w7 ⟨rfl, hb⟩) | ((with_reducible refine (MT.out _).mono ?_); rintro e w8 ⟨rfl, hb⟩))
        refine hK.out _ _ (hHeld0.next hb) (fun hHeld1 => ?_)
        clear hK K
        try clear hb
        try simp only [Act.put, List.setIfInBounds_toArray, List.set_cons_zero, List.set_cons_succ]
        refine wpAnyH_take (i := 11) (oi := ⟨some 20, _, _, _, _, _⟩) (v := ?_) rfl (by kernel_rfl) (by kernel_rfl) (by kernel_rfl) (fun _ _ _ h => h) (Or.inl ⟨by rfl, ?_⟩) (by assumption) ?_
        rotate_left
        · intro wq hSw; go_simp; (try with_reducible rfl)
        try simp only [Act.put, List.setIfInBounds_toArray, List.set_cons_zero, List.set_cons_succ]
        refine wpAnyH_take (i := 12) (oi := ⟨some 21, _, _, _, _, _⟩) (v := ?_) rfl (by kernel_rfl) (by kernel_rfl) (by kernel_rfl) (fun _ _ _ h => h) (Or.inl ⟨by rfl, ?_⟩) (by assumption) ?_
        rotate_left
        · intro wq hSw; go_simp; (try with_reducible rfl)
        try simp only [Act.put, List.setIfInBounds_toArray, List.set_cons_zero, List.set_cons_succ]
        refine wpAnyH_take (i := 13) (oi := ⟨some 22, _, _, _, _, _⟩) (v := ?_) rfl (by kernel_rfl) (by kernel_rfl) (by kernel_rfl) (fun _ _ _ h => h) (Or.inl ⟨by rfl, ?_⟩) (by assumption) ?_
        rotate_left
        · intro wq hSw; go_simp; (try with_reducible rfl)
        try simp only [Act.put, List.setIfInBounds_toArray, List.set_cons_zero, List.set_cons_succ]
        refine wpAnyH_take (i := 14) (oi := ⟨some 23, _, _, _, _, _⟩) (v := ?_) rfl (by kernel_rfl) (by kernel_rfl) (by kernel_rfl) (fun _ _ _ h => h) (Or.inl ⟨by rfl, ?_⟩) (by assumption) ?_
        rotate_left
        · intro wq hSw; go_simp; (try with_reducible rfl)
        try simp only [Act.put, List.setIfInBounds_toArray, List.set_cons_zero, List.set_cons_succ]
        refine wpAnyH_take (i := 15) (oi := ⟨some 24, _, _, _, _, _⟩) (v := ?_) rfl (by kernel_rfl) (by kernel_rfl) (by kernel_rfl) (fun _ _ _ h => h) (Or.inl ⟨by rfl, ?_⟩) (by assumption) ?_
        rotate_left
        · intro wq hSw; go_simp; (try with_reducible rfl)
        try simp only [Act.put, List.setIfInBounds_toArray, List.set_cons_zero, List.set_cons_succ]
        refine wpAnyH_ready (rs := [16]) (by kernel_rfl) (by simp) ?_
        refine AllReadyH.cons (o := ⟨some 25, _, _, _, _, _⟩) rfl (fun K hK => ?_) AllReadyH.nil
        go_simp
        (first | ((with_reducible refine (LS.out _).mono ?_); rintro e w7 ⟨rfl, hb⟩) | ((with_reducible refine (MT.out _).mono ?_); rintro e w8 ⟨rfl, hb⟩))
        refine hK.out _ _ (hHeld1.next hb) (fun hHeld2 => ?_)
        clear hK K
        try clear hb
        try simp only [Act.put, List.setIfInBounds_toArray, List.set_cons_zero, List.set_cons_succ]
        refine wpAnyH_done (by kernel_rfl) ?_ _
        have hHeld := hHeld2
        obtain ⟨⟨kz0, kc0, kf0⟩, ⟨kz1, kc1, kf1⟩, _⟩ := hHeld.2
        all_goals
          go_wp2_with fail
          refine (LA.out _ hHeld.1).mono ?_
          rintro e w9 ⟨y, rfl, hb9, ho9⟩
          have HO := Lib.hid ho9
          clear ho9
          go_wp2_with fail
          go_ret
          exact ⟨under hHeld.1 (past1 hb9), .inl ⟨_, rfl, HC.out, owns_less HO.out (by have := hHeld.1.size; simp; omega)⟩⟩
    · have HC : Hid (codeJ l m = 2) := Lib.hid (by rw [HCJ.out, if_neg (fun h => gn h.2)])
      have MF := Lib.hid (must_false 2)
      have GN := Lib.hid gn
      clear HCJ gn
      go_enter Try.func60, Try.ntmps60
      go_wp2_with fail
      refine region_keeps (w0 := W) (L := [(B, 0, .slice (some ⟨bb, off, none⟩) l.length c), (C, 0, .slice (some ⟨bb2, off2, none⟩) m.length c2)]) (by kernel_rfl) HS.out (fun hHeld0 => ?_)
      refine wpAnyH_take (i := 0) (oi := ⟨some 4, _, _, _, _, _⟩) (v := ?_) rfl (by kernel_rfl) (by kernel_rfl) (by kernel_rfl) (fun _ _ _ h => h) (Or.inl ⟨by rfl, ?_⟩) (by assumption) ?_
      rotate_left
      · intro wq hSw; obtain ⟨⟨qz0, qc0, qf0⟩, ⟨qz1, qc1, qf1⟩, _⟩ := hSw.2; go_simp; (try with_reducible rfl)
      try simp only [Act.put, List.setIfInBounds_toArray, List.set_cons_zero, List.set_cons_succ]
      refine wpAnyH_take (i := 2) (oi := ⟨some 6, _, _, _, _, _⟩) (v := ?_) rfl (by kernel_rfl) (by kernel_rfl) (by kernel_rfl) (fun _ _ _ h => h) (Or.inl ⟨by rfl, ?_⟩) (by assumption) ?_
      rotate_left
      · intro wq hSw; obtain ⟨⟨qz0, qc0, qf0⟩, ⟨qz1, qc1, qf1⟩, _⟩ := hSw.2; go_simp; (try with_reducible rfl)
      try simp only [Act.put, List.setIfInBounds_toArray, List.set_cons_zero, List.set_cons_succ]
      refine wpAnyH_ready (rs := [1]) (by kernel_rfl) (by simp) ?_
      refine AllReadyH.cons (o := ⟨some 5, _, _, _, _, _⟩) rfl (fun K hK => ?_) AllReadyH.nil
      go_simp
      (have hB0 := hHeld0.1; (with_reducible refine (C1.out _ hB0).mono ?_); clear hB0; rintro e w5 ⟨rfl, hb⟩)
      refine hK.out _ _ (hHeld0.next hb) (fun hHeld1 => ?_)
      clear hK K
      try clear hb
      try simp only [Act.put, List.setIfInBounds_toArray, List.set_cons_zero, List.set_cons_succ]
      refine wpAnyH_ready (rs := [3]) (by kernel_rfl) (by simp) ?_
      refine AllReadyH.cons (o := ⟨some 7, _, _, _, _, _⟩) rfl (fun K hK => ?_) AllReadyH.nil
      go_simp
      (have hB0 := hHeld1.1; (with_reducible refine (C2.out _ hB0).mono ?_); clear hB0; rintro e w6 ⟨rfl, hb⟩)
      refine hK.out _ _ (hHeld1.next hb) (fun hHeld2 => ?_)
      clear hK K
      try clear hb
      try simp only [Act.put, List.setIfInBounds_toArray, List.set_cons_zero, List.set_cons_succ]
      refine wpAnyH_take (i := 4) (oi := ⟨some 8, _, _, _, _, _⟩) (v := ?_) rfl (by kernel_rfl) (by kernel_rfl) (by kernel_rfl) (fun _ _ _ h => h) (Or.inl ⟨by rfl, ?_⟩) (by assumption) ?_
      rotate_left
      · intro wq hSw; go_simp; (try with_reducible rfl)
      try simp only [Act.put, List.setIfInBounds_toArray, List.set_cons_zero, List.set_cons_succ]
      refine wpAnyH_take (i := 5) (oi := ⟨some 3, _, _, _, _, _⟩) (v := ?_) rfl (by kernel_rfl) (by kernel_rfl) (by kernel_rfl) (fun _ _ _ h => h) (Or.inl ⟨by rfl, ?_⟩) (by assumption) ?_
      rotate_left
      · intro wq hSw; go_simp; (try with_reducible rfl)
      try simp only [Act.put, List.setIfInBounds_toArray, List.set_cons_zero, List.set_cons_succ]
      refine wpAnyH_done (by kernel_rfl) ?_ _
      have hHeld := hHeld2
      obtain ⟨⟨kz0, kc0, kf0⟩, ⟨kz1, kc1, kf1⟩, _⟩ := hHeld.2
      all_goals
        have HK6 := Lib.hid hHeld
        clear hHeld0 hHeld1 hHeld2
        go_wp2_with fail
        have gn2 : decide (n1 + n2 ≤ 256) = false := decide_eq_false (by have := GN.out; omega)
        have gn3 : ¬ n1 + n2 ≤ 256 := by have := GN.out; omega
        refine region_keeps (w0 := W) (L := [(B, 0, .slice (some ⟨bb, off, none⟩) l.length c), (C, 0, .slice (some ⟨bb2, off2, none⟩) m.length c2)]) (by kernel_rfl) HK6.out (fun hHeld0 => ?_)
        refine wpAnyH_take (i := 0) (oi := ⟨some 9, _, _, _, _, _⟩) (v := ?_) rfl (by kernel_rfl) (by kernel_rfl) (by kernel_rfl) (fun _ _ _ h => h) (Or.inl ⟨by rfl, ?_⟩) (by assumption) ?_
        rotate_left
        · intro wq hSw; obtain ⟨⟨qz0, qc0, qf0⟩, ⟨qz1, qc1, qf1⟩, _⟩ := hSw.2; have x1 := (hSw.1.cell (p := ⟨bb, off + j * 3, none⟩) hbw).trans P1.out; have x2 := (hSw.1.cell (p := ⟨bb, off + j * 3 + 1, none⟩) hbw).trans P2.out; have x3 := (hSw.1.cell (p := ⟨bb, off + j * 3 + 2, none⟩) hbw).trans P3.out; have x4 := (hSw.1.cell (p := ⟨bb2, off2, none⟩) hbw2).trans Q1.out; go_simp; (try with_reducible rfl)
        try simp only [Act.put, List.setIfInBounds_toArray, List.set_cons_zero, List.set_cons_succ]
        refine wpAnyH_take (i := 1) (oi := ⟨some 10, _, _, _, _, _⟩) (v := ?_) rfl (by kernel_rfl) (by kernel_rfl) (by kernel_rfl) (fun _ _ _ h => h) (Or.inl ⟨by rfl, ?_⟩) (by assumption) ?_
        rotate_left
        · intro wq hSw; obtain ⟨⟨qz0, qc0, qf0⟩, ⟨qz1, qc1, qf1⟩, _⟩ := hSw.2; have x1 := (hSw.1.cell (p := ⟨bb, off + j * 3, none⟩) hbw).trans P1.out; have x2 := (hSw.1.cell (p := ⟨bb, off + j * 3 + 1, none⟩) hbw).trans P2.out; have x3 := (hSw.1.cell (p := ⟨bb, off + j * 3 + 2, none⟩) hbw).trans P3.out; have x4 := (hSw.1.cell (p := ⟨bb2, off2, none⟩) hbw2).trans Q1.out; go_simp; (try with_reducible rfl)
        try simp only [Act.put, List.setIfInBounds_toArray, List.set_cons_zero, List.set_cons_succ]
        refine wpAnyH_take (i := 2) (oi := ⟨some 11, _, _, _, _, _⟩) (v := ?_) rfl (by kernel_rfl) (by kernel_rfl) (by kernel_rfl) (fun _ _ _ h => h) (Or.inl ⟨by rfl, ?_⟩) (by assumption) ?_
        rotate_left
        · intro wq hSw; go_simp; (try with_reducible rfl)
        try simp only [Act.put, List.setIfInBounds_toArray, List.set_cons_zero, List.set_cons_succ]
        refine wpAnyH_take (i := 3) (oi := ⟨some 12, _, _, _, _, _⟩) (v := ?_) rfl (by kernel_rfl) (by kernel_rfl) (by kernel_rfl) (fun _ _ _ h => h) (Or.inl ⟨by rfl, ?_⟩) (by assumption) ?_
        rotate_left
        · intro wq hSw; go_simp; (try with_reducible rfl)
        try simp only [Act.put, List.setIfInBounds_toArray, List.set_cons_zero, List.set_cons_succ]
        refine wpAnyH_take (i := 4) (oi := ⟨some 13, _, _, _, _, _⟩) (v := ?_) rfl (by kernel_rfl) (by kernel_rfl) (by kernel_rfl) (fun _ _ _ h => h) (Or.inl ⟨by rfl, ?_⟩) (by assumption) ?_
        rotate_left
        · intro wq hSw; go_simp; (try with_reducible rfl)
        try simp only [Act.put, List.setIfInBounds_toArray, List.set_cons_zero, List.set_cons_succ]
        refine wpAnyH_take (i := 5) (oi := ⟨some 14, _, _, _, _, _⟩) (v := ?_) rfl (by kernel_rfl) (by kernel_rfl) (by kernel_rfl) (fun _ _ _ h => h) (Or.inl ⟨by rfl, ?_⟩) (by assumption) ?_
        rotate_left
        · intro wq hSw; obtain ⟨⟨qz0, qc0, qf0⟩, ⟨qz1, qc1, qf1⟩, _⟩ := hSw.2; have x1 := (hSw.1.cell (p := ⟨bb, off + j * 3, none⟩) hbw).trans P1.out; have x2 := (hSw.1.cell (p := ⟨bb, off + j * 3 + 1, none⟩) hbw).trans P2.out; have x3 := (hSw.1.cell (p := ⟨bb, off + j * 3 + 2, none⟩) hbw).trans P3.out; have x4 := (hSw.1.cell (p := ⟨bb2, off2, none⟩) hbw2).trans Q1.out; go_simp; (try with_reducible rfl)
        try simp only [Act.put, List.setIfInBounds_toArray, List.set_cons_zero, List.set_cons_succ]
        refine wpAnyH_take (i := 7) (oi := ⟨some 16, _, _, _, _, _⟩) (v := ?_) rfl (by kernel_rfl) (by kernel_rfl) (by kernel_rfl) (fun _ _ _ h => h) (Or.inl ⟨by rfl, ?_⟩) (by assumption) ?_
        rotate_left
        · intro wq hSw; obtain ⟨⟨qz0, qc0, qf0⟩, ⟨qz1, qc1, qf1⟩, _⟩ := hSw.2; have x1 := (hSw.1.cell (p := ⟨bb, off + j * 3, none⟩) hbw).trans P1.out; have x2 := (hSw.1.cell (p := ⟨bb, off + j * 3 + 1, none⟩) hbw).trans P2.out; have x3 := (hSw.1.cell (p := ⟨bb, off + j * 3 + 2, none⟩) hbw).trans P3.out; have x4 := (hSw.1.cell (p := ⟨bb2, off2, none⟩) hbw2).trans Q1.out; go_simp; (try with_reducible rfl)
        try simp only [Act.put, List.setIfInBounds_toArray, List.set_cons_zero, List.set_cons_succ]
        refine wpAnyH_take (i := 8) (oi := ⟨some 17, _, _, _, _, _⟩) (v := ?_) rfl (by kernel_rfl) (by kernel_rfl) (by kernel_rfl) (fun _ _ _ h => h) (Or.inl ⟨by rfl, ?_⟩) (by assumption) ?_
        rotate_left
        · intro wq hSw; go_simp; (try with_reducible rfl)
        try simp only [Act.put, List.setIfInBounds_toArray, List.set_cons_zero, List.set_cons_succ]
        refine wpAnyH_take (i := 9) (oi := ⟨some 18, _, _, _, _, _⟩) (v := ?_) rfl (by kernel_rfl) (by kernel_rfl) (by kernel_rfl) (fun _ _ _ h => h) (Or.inl ⟨by rfl, ?_⟩) (by assumption) ?_
        rotate_left
        · intro wq hSw; go_simp; (try with_reducible rfl)
        try simp only [Act.put, List.setIfInBounds_toArray, List.set_cons_zero, List.set_cons_succ]
        refine wpAnyH_take (i := 10) (oi := ⟨some 19, _, _, _, _, _⟩) (v := ?_) rfl (by kernel_rfl) (by kernel_rfl) (by kernel_rfl) (fun _ _ _ h => h) (Or.inl ⟨by rfl, ?_⟩) (by assumption) ?_
        rotate_left
        · intro wq hSw; obtain ⟨⟨qz0, qc0, qf0⟩, ⟨qz1, qc1, qf1⟩, _⟩ := hSw.2; have x1 := (hSw.1.cell (p := ⟨bb, off + j * 3, none⟩) hbw).trans P1.out; have x2 := (hSw.1.cell (p := ⟨bb, off + j * 3 + 1, none⟩) hbw).trans P2.out; have x3 := (hSw.1.cell (p := ⟨bb, off + j * 3 + 2, none⟩) hbw).trans P3.out; have x4 := (hSw.1.cell (p := ⟨bb2, off2, none⟩) hbw2).trans Q1.out; go_simp; (try with_reducible rfl)
        try simp only [Act.put, List.setIfInBounds_toArray, List.set_cons_zero, List.set_cons_succ]
        refine wpAnyH_ready (rs := [6]) (by kernel_rfl) (by simp) ?_
        refine AllReadyH.cons (o := ⟨some 15, _, _, _, _, _⟩) rfl (fun K hK => ?_) AllReadyH.nil
        go_simp
        (first | ((with_reducible refine (LS.out _).mono ?_); rintro e w7 ⟨rfl, hb⟩) | ((with_reducible refine (MF.out _).mono ?_); rintro e w8 ⟨rfl, hb⟩))
        refine hK.out _ _ (hHeld0.next hb) (fun hHeld1 => ?_)
        clear hK K
        try clear hb
        try simp only [Act.put, List.setIfInBounds_toArray, List.set_cons_zero, List.set_cons_succ]
        refine wpAnyH_take (i := 11) (oi := ⟨some 20, _, _, _, _, _⟩) (v := ?_) rfl (by kernel_rfl) (by kernel_rfl) (by kernel_rfl) (fun _ _ _ h => h) (Or.inl ⟨by rfl, ?_⟩) (by assumption) ?_
        rotate_left
        · intro wq hSw; go_simp; (try with_reducible rfl)
        try simp only [Act.put, List.setIfInBounds_toArray, List.set_cons_zero, List.set_cons_succ]
        refine wpAnyH_take (i := 12) (oi := ⟨some 21, _, _, _, _, _⟩) (v := ?_) rfl (by kernel_rfl) (by kernel_rfl) (by kernel_rfl) (fun _ _ _ h => h) (Or.inl ⟨by rfl, ?_⟩) (by assumption) ?_
        rotate_left
        · intro wq hSw; go_simp; (try with_reducible rfl)
        try simp only [Act.put, List.setIfInBounds_toArray, List.set_cons_zero, List.set_cons_succ]
        refine wpAnyH_take (i := 13) (oi := ⟨some 22, _, _, _, _, _⟩) (v := ?_) rfl (by kernel_rfl) (by kernel_rfl) (by kernel_rfl) (fun _ _ _ h => h) (Or.inl ⟨by rfl, ?_⟩) (by assumption) ?_
        rotate_left
        · intro wq hSw; go_simp; (try with_reducible rfl)
        try simp only [Act.put, List.setIfInBounds_toArray, List.set_cons_zero, List.set_cons_succ]
        refine wpAnyH_take (i := 14) (oi := ⟨some 23, _, _, _, _, _⟩) (v := ?_) rfl (by kernel_rfl) (by kernel_rfl) (by kernel_rfl) (fun _ _ _ h => h) (Or.inl ⟨by rfl, ?_⟩) (by assumption) ?_
        rotate_left
        · intro wq hSw; go_simp; (try with_reducible rfl)
        try simp only [Act.put, List.setIfInBounds_toArray, List.set_cons_zero, List.set_cons_succ]
        refine wpAnyH_take (i := 15) (oi := ⟨some 24, _, _, _, _, _⟩) (v := ?_) rfl (by kernel_rfl) (by kernel_rfl) (by kernel_rfl) (fun _ _ _ h => h) (Or.inl ⟨by rfl, ?_⟩) (by assumption) ?_
        rotate_left
        · intro wq hSw; go_simp; (try with_reducible rfl)
        try simp only [Act.put, List.setIfInBounds_toArray, List.set_cons_zero, List.set_cons_succ]
        refine wpAnyH_ready (rs := [16]) (by kernel_rfl) (by simp) ?_
        refine AllReadyH.cons (o := ⟨some 25, _, _, _, _, _⟩) rfl (fun K hK => ?_) AllReadyH.nil
        go_simp
        (first | ((with_reducible refine (LS.out _).mono ?_); rintro e w7 ⟨rfl, hb⟩) | ((with_reducible refine (MF.out _).mono ?_); rintro e w8 ⟨rfl, hb⟩))
        have hHeld := hHeld1
        all_goals
          exact ⟨rfl, (hHeld.next hb).1, .inr ⟨2, rfl, HC.out, by decide⟩⟩
  · have HC : Hid (codeJ l m = 2) := Lib.hid (by rw [HCJ.out, if_neg (fun h => gz h.1)])
    have MF := Lib.hid (must_false 2)
    have GZ := Lib.hid gz
    clear HCJ gz
    go_enter Try.func60, Try.ntmps60
    go_wp2_with fail
    refine region_keeps (w0 := W) (L := [(B, 0, .slice (some ⟨bb, off, none⟩) l.length c), (C, 0, .slice (some ⟨bb2, off2, none⟩) m.length c2)]) (by kernel_rfl) HS.out (fun hHeld0 => ?_)
    refine wpAnyH_take (i := 0) (oi := ⟨some 4, _, _, _, _, _⟩) (v := ?_) rfl (by kernel_rfl) (by kernel_rfl) (by kernel_rfl) (fun _ _ _ h => h) (Or.inl ⟨by rfl, ?_⟩) (by assumption) ?_
    rotate_left
    · intro wq hSw; obtain ⟨⟨qz0, qc0, qf0⟩, ⟨qz1, qc1, qf1⟩, _⟩ := hSw.2; go_simp; (try with_reducible rfl)
    try simp only [Act.put, List.setIfInBounds_toArray, List.set_cons_zero, List.set_cons_succ]
    refine wpAnyH_take (i := 2) (oi := ⟨some 6, _, _, _, _, _⟩) (v := ?_) rfl (by kernel_rfl) (by kernel_rfl) (by kernel_rfl) (fun _ _ _ h => h) (Or.inl ⟨by rfl, ?_⟩) (by assumption) ?_
    rotate_left
    · intro wq hSw; obtain ⟨⟨qz0, qc0, qf0⟩, ⟨qz1, qc1, qf1⟩, _⟩ := hSw.2; go_simp; (try with_reducible rfl)
    try simp only [Act.put, List.setIfInBounds_toArray, List.set_cons_zero, List.set_cons_succ]
    refine wpAnyH_ready (rs := [1]) (by kernel_rfl) (by simp) ?_
    refine AllReadyH.cons (o := ⟨some 5, _, _, _, _, _⟩) rfl (fun K hK => ?_) AllReadyH.nil
    go_simp
    (have hB0 := hHeld0.1; (with_reducible refine (C1.out _ hB0).mono ?_); clear hB0; rintro e w5 ⟨rfl, hb⟩)
    refine hK.out _ _ (hHeld0.next hb) (fun hHeld1 => ?_)
    clear hK K
    try clear hb
    try simp only [Act.put, List.setIfInBounds_toArray, List.set_cons_zero, List.set_cons_succ]
    refine wpAnyH_ready (rs := [3]) (by kernel_rfl) (by simp) ?_
    refine AllReadyH.cons (o := ⟨some 7, _, _, _, _, _⟩) rfl (fun K hK => ?_) AllReadyH.nil
    go_simp
    (have hB0 := hHeld1.1; (with_reducible refine (C2.out _ hB0).mono ?_); clear hB0; rintro e w6 ⟨rfl, hb⟩)
    refine hK.out _ _ (hHeld1.next hb) (fun hHeld2 => ?_)
    clear hK K
    try clear hb
    try simp only [Act.put, List.setIfInBounds_toArray, List.set_cons_zero, List.set_cons_succ]
    refine wpAnyH_take (i := 4) (oi := ⟨some 8, _, _, _, _, _⟩) (v := ?_) rfl (by kernel_rfl) (by kernel_rfl) (by kernel_rfl) (fun _ _ _ h => h) (Or.inl ⟨by rfl, ?_⟩) (by assumption) ?_
    rotate_left
    · intro wq hSw; go_simp; (try with_reducible rfl)
    try simp only [Act.put, List.setIfInBounds_toArray, List.set_cons_zero, List.set_cons_succ]
    refine wpAnyH_take (i := 5) (oi := ⟨some 3, _, _, _, _, _⟩) (v := ?_) rfl (by kernel_rfl) (by kernel_rfl) (by kernel_rfl) (fun _ _ _ h => h) (Or.inl ⟨by rfl, ?_⟩) (by assumption) ?_
    rotate_left
    · intro wq hSw; go_simp; (try with_reducible rfl)
    try simp only [Act.put, List.setIfInBounds_toArray, List.set_cons_zero, List.set_cons_succ]
    refine wpAnyH_done (by kernel_rfl) ?_ _
    have hHeld := hHeld2
    obtain ⟨⟨kz0, kc0, kf0⟩, ⟨kz1, kc1, kf1⟩, _⟩ := hHeld.2
    all_goals
      have HK6 := Lib.hid hHeld
      clear hHeld0 hHeld1 hHeld2
      go_wp2_with fail
      have gz3 : ¬ z < f2 := by have := GZ.out; omega
      refine region_keeps (w0 := W) (L := [(B, 0, .slice (some ⟨bb, off, none⟩) l.length c), (C, 0, .slice (some ⟨bb2, off2, none⟩) m.length c2)]) (by kernel_rfl) HK6.out (fun hHeld0 => ?_)
      refine wpAnyH_take (i := 0) (oi := ⟨some 9, _, _, _, _, _⟩) (v := ?_) rfl (by kernel_rfl) (by kernel_rfl) (by kernel_rfl) (fun _ _ _ h => h) (Or.inl ⟨by rfl, ?_⟩) (by assumption) ?_
      rotate_left
      · intro wq hSw; obtain ⟨⟨qz0, qc0, qf0⟩, ⟨qz1, qc1, qf1⟩, _⟩ := hSw.2; have x1 := (hSw.1.cell (p := ⟨bb, off + j * 3, none⟩) hbw).trans P1.out; have x2 := (hSw.1.cell (p := ⟨bb, off + j * 3 + 1, none⟩) hbw).trans P2.out; have x3 := (hSw.1.cell (p := ⟨bb, off + j * 3 + 2, none⟩) hbw).trans P3.out; have x4 := (hSw.1.cell (p := ⟨bb2, off2, none⟩) hbw2).trans Q1.out; go_simp; (try with_reducible rfl)
      try simp only [Act.put, List.setIfInBounds_toArray, List.set_cons_zero, List.set_cons_succ]
      refine wpAnyH_take (i := 1) (oi := ⟨some 10, _, _, _, _, _⟩) (v := ?_) rfl (by kernel_rfl) (by kernel_rfl) (by kernel_rfl) (fun _ _ _ h => h) (Or.inl ⟨by rfl, ?_⟩) (by assumption) ?_
      rotate_left
      · intro wq hSw; obtain ⟨⟨qz0, qc0, qf0⟩, ⟨qz1, qc1, qf1⟩, _⟩ := hSw.2; have x1 := (hSw.1.cell (p := ⟨bb, off + j * 3, none⟩) hbw).trans P1.out; have x2 := (hSw.1.cell (p := ⟨bb, off + j * 3 + 1, none⟩) hbw).trans P2.out; have x3 := (hSw.1.cell (p := ⟨bb, off + j * 3 + 2, none⟩) hbw).trans P3.out; have x4 := (hSw.1.cell (p := ⟨bb2, off2, none⟩) hbw2).trans Q1.out; go_simp; (try with_reducible rfl)
      try simp only [Act.put, List.setIfInBounds_toArray, List.set_cons_zero, List.set_cons_succ]
      refine wpAnyH_take (i := 2) (oi := ⟨some 11, _, _, _, _, _⟩) (v := ?_) rfl (by kernel_rfl) (by kernel_rfl) (by kernel_rfl) (fun _ _ _ h => h) (Or.inl ⟨by rfl, ?_⟩) (by assumption) ?_
      rotate_left
      · intro wq hSw; go_simp; (try with_reducible rfl)
      try simp only [Act.put, List.setIfInBounds_toArray, List.set_cons_zero, List.set_cons_succ]
      refine wpAnyH_take (i := 3) (oi := ⟨some 12, _, _, _, _, _⟩) (v := ?_) rfl (by kernel_rfl) (by kernel_rfl) (by kernel_rfl) (fun _ _ _ h => h) (Or.inl ⟨by rfl, ?_⟩) (by assumption) ?_
      rotate_left
      · intro wq hSw; go_simp; (try with_reducible rfl)
      try simp only [Act.put, List.setIfInBounds_toArray, List.set_cons_zero, List.set_cons_succ]
      refine wpAnyH_take (i := 4) (oi := ⟨some 13, _, _, _, _, _⟩) (v := ?_) rfl (by kernel_rfl) (by kernel_rfl) (by kernel_rfl) (fun _ _ _ h => h) (Or.inl ⟨by rfl, ?_⟩) (by assumption) ?_
      rotate_left
      · intro wq hSw; go_simp; (try with_reducible rfl)
      try simp only [Act.put, List.setIfInBounds_toArray, List.set_cons_zero, List.set_cons_succ]
      refine wpAnyH_take (i := 5) (oi := ⟨some 14, _, _, _, _, _⟩) (v := ?_) rfl (by kernel_rfl) (by kernel_rfl) (by kernel_rfl) (fun _ _ _ h => h) (Or.inl ⟨by rfl, ?_⟩) (by assumption) ?_
      rotate_left
      · intro wq hSw; obtain ⟨⟨qz0, qc0, qf0⟩, ⟨qz1, qc1, qf1⟩, _⟩ := hSw.2; have x1 := (hSw.1.cell (p := ⟨bb, off + j * 3, none⟩) hbw).trans P1.out; have x2 := (hSw.1.cell (p := ⟨bb, off + j * 3 + 1, none⟩) hbw).trans P2.out; have x3 := (hSw.1.cell (p := ⟨bb, off + j * 3 + 2, none⟩) hbw).trans P3.out; have x4 := (hSw.1.cell (p := ⟨bb2, off2, none⟩) hbw2).trans Q1.out; go_simp; (try with_reducible rfl)
      try simp only [Act.put, List.setIfInBounds_toArray, List.set_cons_zero, List.set_cons_succ]
      refine wpAnyH_take (i := 7) (oi := ⟨some 16, _, _, _, _, _⟩) (v := ?_) rfl (by kernel_rfl) (by kernel_rfl) (by kernel_rfl) (fun _ _ _ h => h) (Or.inl ⟨by rfl, ?_⟩) (by assumption) ?_
      rotate_left
      · intro wq hSw; obtain ⟨⟨qz0, qc0, qf0⟩, ⟨qz1, qc1, qf1⟩, _⟩ := hSw.2; have x1 := (hSw.1.cell (p := ⟨bb, off + j * 3, none⟩) hbw).trans P1.out; have x2 := (hSw.1.cell (p := ⟨bb, off + j * 3 + 1, none⟩) hbw).trans P2.out; have x3 := (hSw.1.cell (p := ⟨bb, off + j * 3 + 2, none⟩) hbw).trans P3.out; have x4 := (hSw.1.cell (p := ⟨bb2, off2, none⟩) hbw2).trans Q1.out; go_simp; (try with_reducible rfl)
      try simp only [Act.put, List.setIfInBounds_toArray, List.set_cons_zero, List.set_cons_succ]
      refine wpAnyH_take (i := 8) (oi := ⟨some 17, _, _, _, _, _⟩) (v := ?_) rfl (by kernel_rfl) (by kernel_rfl) (by kernel_rfl) (fun _ _ _ h => h) (Or.inl ⟨by rfl, ?_⟩) (by assumption) ?_
      rotate_left
      · intro wq hSw; go_simp; (try with_reducible rfl)
      try simp only [Act.put, List.setIfInBounds_toArray, List.set_cons_zero, List.set_cons_succ]
      refine wpAnyH_take (i := 9) (oi := ⟨some 18, _, _, _, _, _⟩) (v := ?_) rfl (by kernel_rfl) (by kernel_rfl) (by kernel_rfl) (fun _ _ _ h => h) (Or.inl ⟨by rfl, ?_⟩) (by assumption) ?_
      rotate_left
      · intro wq hSw; go_simp; (try with_reducible rfl)
      try simp only [Act.put, List.setIfInBounds_toArray, List.set_cons_zero, List.set_cons_succ]
      refine wpAnyH_take (i := 10) (oi := ⟨some 19, _, _, _, _, _⟩) (v := ?_) rfl (by kernel_rfl) (by kernel_rfl) (by kernel_rfl) (fun _ _ _ h => h) (Or.inl ⟨by rfl, ?_⟩) (by assumption) ?_
      rotate_left
      · intro wq hSw; obtain ⟨⟨qz0, qc0, qf0⟩, ⟨qz1, qc1, qf1⟩, _⟩ := hSw.2; have x1 := (hSw.1.cell (p := ⟨bb, off + j * 3, none⟩) hbw).trans P1.out; have x2 := (hSw.1.cell (p := ⟨bb, off + j * 3 + 1, none⟩) hbw).trans P2.out; have x3 := (hSw.1.cell (p := ⟨bb, off + j * 3 + 2, none⟩) hbw).trans P3.out; have x4 := (hSw.1.cell (p := ⟨bb2, off2, none⟩) hbw2).trans Q1.out; go_simp; (try with_reducible rfl)
      try simp only [Act.put, List.setIfInBounds_toArray, List.set_cons_zero, List.set_cons_succ]
      refine wpAnyH_ready (rs := [6]) (by kernel_rfl) (by simp) ?_
      refine AllReadyH.cons (o := ⟨some 15, _, _, _, _, _⟩) rfl (fun K hK => ?_) AllReadyH.nil
      go_simp
      (first | ((with_reducible refine (LS.out _).mono ?_); rintro e w7 ⟨rfl, hb⟩) | ((with_reducible refine (MF.out _).mono ?_); rintro e w8 ⟨rfl, hb⟩))
      refine hK.out _ _ (hHeld0.next hb) (fun hHeld1 => ?_)
      clear hK K
      try clear hb
      try simp only [Act.put, List.setIfInBounds_toArray, List.set_cons_zero, List.set_cons_succ]
      refine wpAnyH_take (i := 11) (oi := ⟨some 20, _, _, _, _, _⟩) (v := ?_) rfl (by kernel_rfl) (by kernel_rfl) (by kernel_rfl) (fun _ _ _ h => h) (Or.inl ⟨by rfl, ?_⟩) (by assumption) ?_
      rotate_left
      · intro wq hSw; go_simp; (try with_reducible rfl)
      try simp only [Act.put, List.setIfInBounds_toArray, List.set_cons_zero, List.set_cons_succ]
      refine wpAnyH_take (i := 12) (oi := ⟨some 21, _, _, _, _, _⟩) (v := ?_) rfl (by kernel_rfl) (by kernel_rfl) (by kernel_rfl) (fun _ _ _ h => h) (Or.inl ⟨by rfl, ?_⟩) (by assumption) ?_
      rotate_left
      · intro wq hSw; go_simp; (try with_reducible rfl)
      try simp only [Act.put, List.setIfInBounds_toArray, List.set_cons_zero, List.set_cons_succ]
      refine wpAnyH_take (i := 13) (oi := ⟨some 22, _, _, _, _, _⟩) (v := undef) rfl (by kernel_rfl) (by kernel_rfl) (by kernel_rfl) (fun _ _ _ h => h) (Or.inr ⟨by rfl, rfl⟩) (by assumption) ?_
      try simp only [Act.put, List.setIfInBounds_toArray, List.set_cons_zero, List.set_cons_succ]
      refine wpAnyH_take (i := 14) (oi := ⟨some 23, _, _, _, _, _⟩) (v := undef) rfl (by kernel_rfl) (by kernel_rfl) (by kernel_rfl) (fun _ _ _ h => h) (Or.inr ⟨by rfl, rfl⟩) (by assumption) ?_
      try simp only [Act.put, List.setIfInBounds_toArray, List.set_cons_zero, List.set_cons_succ]
      refine wpAnyH_take (i := 15) (oi := ⟨some 24, _, _, _, _, _⟩) (v := ?_) rfl (by kernel_rfl) (by kernel_rfl) (by kernel_rfl) (fun _ _ _ h => h) (Or.inl ⟨by rfl, ?_⟩) (by assumption) ?_
      rotate_left
      · intro wq hSw; go_simp; (try with_reducible rfl)
      try simp only [Act.put, List.setIfInBounds_toArray, List.set_cons_zero, List.set_cons_succ]
      refine wpAnyH_ready (rs := [16]) (by kernel_rfl) (by simp) ?_
      refine AllReadyH.cons (o := ⟨some 25, _, _, _, _, _⟩) rfl (fun K hK => ?_) AllReadyH.nil
      go_simp
      (first | ((with_reducible refine (LS.out _).mono ?_); rintro e w7 ⟨rfl, hb⟩) | ((with_reducible refine (MF.out _).mono ?_); rintro e w8 ⟨rfl, hb⟩))
      have hHeld := hHeld1
      all_goals
        exact ⟨rfl, (hHeld.next hb).1, .inr ⟨2, rfl, HC.out, by decide⟩⟩
set_option maxHeartbeats 1000000 in
theorem joinA_any (l m : List Rn) (hl : l.length ≤ 1000000) (hm : m.length ≤ 1000000) (v u : Value) (w : World) (h : ReadsR w v l) (hu : ReadsR w u m) : Calls Try.prog 30 #[v, u] w (Res w (codeJ l m) (laidR (timesR l ++ timesR m))) := by
  have hr := h
  have hru := hu
  obtain ⟨A, c, rfl, _, _⟩ := h
  obtain ⟨A2, c2, rfl, _, _⟩ := hu
  have hmf := makes_func
  obtain ⟨b1, b2, b3⟩ := boxes2 w 22 22 (.slice A l.length c) (.slice A2 m.length c2)
  obtain ⟨W, hW⟩ : ∃ W, (w.alloc (.cells #[.slice A l.length c] 22)).alloc (.cells #[.slice A2 m.length c2] 22) = W := ⟨_, rfl⟩
  rw [hW] at b1 b2 b3
  have C1 := join1_any l m hl hm (.slice A l.length c) (.slice A2 m.length c2) (eCell W) w.heap.size (w.heap.size + 1) (b1.alloc _) (b2.alloc _) ((hr.below b3).below (eCell_below _)) ((hru.below b3).below (eCell_below _))
  have TD := Lib.hid (told_R 60 #[.pointer (some ⟨w.heap.size, 0, none⟩), .pointer (some ⟨w.heap.size + 1, 0, none⟩)] (enters_of Try.func60 (by kernel_rfl) rfl) _ _ _ (fun _ _ _ hg => ⟨hg.1, owns_low hg.2 eCell_low _⟩) C1)
  have HB3 := Lib.hid b3
  generalize codeJ l m = x at *
  generalize laidR (timesR l ++ timesR m) = L at *
  clear C1 hr hru b1 b2 b3
  go_enter Try.func30, Try.ntmps30
  go_wp2_with (go_at_call 43; refine TD.out.mono ?_; rintro e w1 ⟨hb, (⟨u, rfl, hok, hx⟩ | ⟨code, rfl, hok, hc0⟩)⟩)
  · have HX := Lib.hid hx
    clear hx
    go_wp2_with fail
    go_returns
    unfold Res
    rw [if_pos hok]
    exact ⟨_, rfl, under HB3.out hb, owns_less HX.out (by have := HB3.out.size; simp; omega)⟩
  · go_wp2_with fail
    go_returns
    unfold Res
    rw [hok, if_neg hc0]
    exact ⟨rfl, under HB3.out hb⟩
end Go.Proofs.Ytlfjmdfplmdmgaa
