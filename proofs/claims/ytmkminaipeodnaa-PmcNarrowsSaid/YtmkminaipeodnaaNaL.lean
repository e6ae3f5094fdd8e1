/-
  Layer 8: the law PmcNarrows's walk. Conditions: those written at each fact.
-/
import Derived.Test.YtmkminaipeodnaaMaC
import Derived.Test.YtmkminaipeodnaaBdP
import Derived.Laws.OwnMore
namespace Go.Proofs.Ytmkminaipeodnaa.P8
open Go.RowKit Go.Shelf

theorem owns_place {w : World} {B : Nat} {e : TypeId} {s n : Nat} {v : Value} {xs : List Value} (h : w.ownsRow B e s v n xs) (hn : 1 ≤ n) : ∃ g c, v = .slice (some ⟨g, 0, none⟩) n c ∧ B ≤ g ∧ n ≤ c := by
  rcases h.2 with ⟨_, h0⟩ | ⟨g, cap, cur, rfl, hb, _, hc, _⟩
  · omega
  · exact ⟨g, cap, rfl, hb, hc⟩
theorem flatD_set1 (x : Int) : ∀ (l : List Bd) (k : Nat) (t a d : Int), l[k]? = some ⟨t, a, d⟩ → (flatD l).set (k * 3 + 1) (.int .i64 x) = flatD (l.set k ⟨t, x, d⟩)
  | [], k, t, a, d, h => by simp at h
  | b :: l, 0, t, a, d, h => by simp at h; subst h; simp [flatD]
  | b :: l, k + 1, t, a, d, h => by
    have ih := flatD_set1 x l k t a d (by simpa using h)
    rw [show (k + 1) * 3 + 1 = (k * 3 + 1) + 1 + 1 + 1 by omega]
    simp only [flatD, List.set_cons_succ]
    rw [ih]
theorem flatD_set2 (x : Int) : ∀ (l : List Bd) (k : Nat) (t a d : Int), l[k]? = some ⟨t, a, d⟩ → (flatD l).set (k * 3 + 2) (.int .i64 x) = flatD (l.set k ⟨t, a, x⟩)
  | [], k, t, a, d, h => by simp at h
  | b :: l, 0, t, a, d, h => by simp at h; subst h; simp [flatD]
  | b :: l, k + 1, t, a, d, h => by
    have ih := flatD_set2 x l k t a d (by simpa using h)
    rw [show (k + 1) * 3 + 2 = (k * 3 + 2) + 1 + 1 + 1 by omega]
    simp only [flatD, List.set_cons_succ]
    rw [ih]
/-- Bands that became narrower. -/
def NarT (m M : List Bd) : Prop := m.length = M.length ∧ ∀ (i : Nat) (b c : Bd), m[i]? = some b → M[i]? = some c → b.t = c.t ∧ b.lo ≤ c.lo ∧ c.lo ≤ c.hi ∧ c.hi ≤ b.hi
theorem NarT.refl {m : List Bd} (h : ∀ b ∈ m, BdOk b) : NarT m m := ⟨rfl, fun i b c h1 h2 => by
  rw [h1] at h2
  cases h2
  have := (h b (List.mem_of_getElem? h1)).2.2.1
  omega⟩
theorem NarT.set {m M : List Bd} (h : NarT m M) {k : Nat} {t a d a' d' : Int} (hk : M[k]? = some ⟨t, a, d⟩) (h1 : a ≤ a') (h2 : a' ≤ d') (h3 : d' ≤ d) : NarT m (M.set k ⟨t, a', d'⟩) := by
  refine ⟨by rw [List.length_set]; exact h.1, fun i b c hb hc => ?_⟩
  rw [List.getElem?_set] at hc
  split at hc
  · rename_i e
    subst e
    split at hc
    · cases hc
      have := h.2 k b _ hb hk
      simp only at this ⊢
      omega
    · cases hc
  · exact h.2 i b c hb hc
theorem NarT.nar {m M : List Bd} (h : NarT m M) : Nar m M := ⟨h.1, fun i b c h1 h2 => by have := h.2 i b c h1 h2; omega⟩
theorem NarT.ok {m M : List Bd} (h : NarT m M) (hm : okD m = true) : okD M = true := by
  obtain ⟨g1, g2, g3, g4⟩ := (okD_iff m).1 hm
  refine (okD_iff M).2 ⟨by rw [← h.1]; exact g1, by rw [← h.1]; exact g2, fun c hc => ?_, ?_⟩
  · obtain ⟨i, hi⟩ := List.mem_iff_getElem?.1 hc
    have hl : i < m.length := by rw [h.1]; exact (List.getElem?_eq_some_iff.1 hi).1
    have h2 := h.2 i _ c (List.getElem?_eq_getElem hl) hi
    have h3 := g3 m[i] (List.getElem_mem hl)
    unfold BdOk at h3 ⊢
    omega
  · have e : M.map (·.t) = m.map (·.t) := by
      apply List.ext_getElem?
      intro i
      rw [List.getElem?_map, List.getElem?_map]
      by_cases hi : i < m.length
      · rw [List.getElem?_eq_getElem hi, List.getElem?_eq_getElem (h.1 ▸ hi)]
        have := h.2 i _ _ (List.getElem?_eq_getElem hi) (List.getElem?_eq_getElem (h.1 ▸ hi))
        simp [this.1]
      · have h0 := h.1; rw [List.getElem?_eq_none (by omega), List.getElem?_eq_none (by omega)]
    have p1 : (m.map (·.t)).Pairwise (· < ·) := List.pairwise_map.2 g4
    rw [← e] at p1
    exact List.pairwise_map.1 p1
/-- By how much a band gets narrower. -/
theorem less_nums {a d : Int} (u n : Int) (h1 : -2305844108725321728 ≤ a) (h2 : a ≤ d) (h3 : d ≤ 2305844108725321728) :
    ∃ Wd X Y a2 d2 E1 E2 : Int, wrap64 (d - a) = Wd ∧ 0 ≤ Wd ∧ Wd ≤ 4611688217450643456 ∧ u % (Wd + 1) = X ∧ wrap64 (a + X) = a2 ∧ IntKind.i64.wrap (Wd - X) = E1 ∧ IntKind.i64.wrap (E1 + 1) = E2 ∧ 1 ≤ E2 ∧ n % E2 = Y ∧ IntKind.i64.wrap (d - Y) = d2 ∧ a ≤ a2 ∧ a2 ≤ d2 ∧ d2 ≤ d ∧ 0 ≤ X ∧ X ≤ Wd ∧ IntKind.i64.wrap Y = Y := by
  have e1 := Int.emod_nonneg u (show d - a + 1 ≠ 0 by omega)
  have e2 := Int.emod_lt_of_pos u (show 0 < d - a + 1 by omega)
  obtain ⟨X, hX⟩ : ∃ X, u % (d - a + 1) = X := ⟨_, rfl⟩
  rw [hX] at e1 e2
  have e3 := Int.emod_nonneg n (show d - a - X + 1 ≠ 0 by omega)
  have e4 := Int.emod_lt_of_pos n (show 0 < d - a - X + 1 by omega)
  obtain ⟨Y, hY⟩ : ∃ Y, n % (d - a - X + 1) = Y := ⟨_, rfl⟩
  rw [hY] at e3 e4
  refine ⟨d - a, X, Y, a + X, d - Y, d - a - X, d - a - X + 1, i64_keeps (by omega) (by omega), by omega, by omega, hX, i64_keeps (by omega) (by omega), ?_, ?_, by omega, hY, ?_, by omega, by omega, by omega, e1, by omega, ?_⟩
  all_goals
    rw [IntKind.wrap_i64]
    omega
set_option maxRecDepth 100000 in
set_option maxHeartbeats 2000000 in
theorem narrows_any (l : List Bd) (hl : l.length ≤ 9223372036854775807) (pl : List (Int × Int)) (hpl : pl.length ≤ 9223372036854775807) (v v2 : Value) (w : World) (h : ReadsD w v l) (h2 : ReadsP w v2 pl) : Calls Try.prog 8 #[v, v2] w (Ret w (.bool true)) := by
  have WK := Lib.hid wakes_any
  have FW := Lib.hid (fun W (hb : Below w.heap.size w W) => few_any l hl v W (h.below hb))
  obtain ⟨A, c, rfl, _, _⟩ := h
  obtain ⟨Ap, cp, rfl, _, hkp⟩ := h2
  have HP := Lib.hid hkp
  have hml : (l.take 257).length ≤ 257 := by rw [List.length_take]; omega
  generalize l.take 257 = m at *
  clear hkp
  go_enter Try.func8, Try.ntmps8
  go_wp2_with fail
  refine (WK.out _).mono ?_
  rintro e w1 ⟨rfl, hb1⟩
  go_wp2_with fail
  refine (FW.out w1 hb1).mono ?_
  rintro e w2 hh
  obtain ⟨hb2, A2, c2, rfl, hc2, hr2⟩ := hh.open
  have B2 := under hb1 hb2
  have BC := Lib.hid (bcheck_any m (by omega) _ w2 hr2)
  clear hh hb1 hb2 WK FW
  cases gk : okD m
  · rw [gk] at BC
    simp only [Bool.false_eq_true, if_false] at BC
    clear gk
    go_wp2_with fail
    refine BC.out.mono ?_
    rintro e w3 ⟨rfl, hb3⟩
    go_wp2_with fail
    go_ret
    exact ⟨rfl, under B2 hb3⟩
  rw [gk] at BC
  simp only [if_true] at BC
  obtain ⟨hm1, hm2, hR⟩ := okD_facts gk
  have HGK := Lib.hid gk
  have HR := Lib.hid hR
  have CL := Lib.hid (fun W (hb : Below w2.heap.size w2 W) => cloneD m (by omega) _ W (hr2.below hb))
  have H2 := Lib.hid hr2
  clear gk hR hr2
  go_wp2_with fail
  refine BC.out.mono ?_
  rintro e w3 ⟨rfl, hb3⟩
  go_wp2_with fail
  refine (CL.out w3 hb3).mono ?_
  rintro e w4 ⟨v4, rfl, hb4, ho4⟩
  obtain ⟨g, c4, rfl, hg, hc4⟩ := owns_place ho4 hm1
  have hb24 := under hb3 hb4
  have B4 := under B2 hb24
  have HG := Lib.hid (show w2.heap.size ≤ g from Nat.le_trans hb3.size hg)
  have H4 := Lib.hid (owns_less ho4 (Nat.le_trans B2.size hb3.size))
  have HB24 := Lib.hid hb24
  clear hb3 hb4 hb24 BC CL ho4 hg
  go_wp2_with fail
  go_loopw [25] (fun i wr => ∃ (k : Nat) (M : List Bd), i = .int .i64 k ∧ k ≤ m.length ∧ Hid (NarT m M) ∧ Hid (wr.ownsRow w.heap.size 36 3 (.slice (some ⟨g, 0, none⟩) m.length c4) m.length (flatD M)) ∧ Hid (Below w2.heap.size w2 wr) ∧ Below w.heap.size w wr) (fun i _ => m.length - (intOf i).toNat)
  case atStart => exact ⟨0, m, rfl, by omega, Lib.hid (NarT.refl HR.out), H4, HB24, B4⟩
  case round =>
    obtain ⟨k, M, rfl, hkl, hN, hO, hW, hB⟩ := hrel
    clear H4 HB24 B4
    by_cases gk : k < m.length
    · have i1 : (k : Int) < (m.length : Int) := by omega
      have i0 : (0 : Int) ≤ (k : Int) := by omega
      have i2 : (k : Int) ≤ (c4 : Int) := by omega
      by_cases gp : k < pl.length
      · obtain ⟨⟨x, y⟩, hx⟩ : ∃ s, pl[k]? = some s := ⟨_, List.getElem?_eq_getElem gp⟩
        obtain ⟨bp, offp, rfl, hbw, hc1, hc2'⟩ := HP.out k _ hx
        obtain ⟨⟨t, a, d⟩, hM⟩ : ∃ s, M[k]? = some s := ⟨_, List.getElem?_eq_getElem (by rw [← hN.out.1]; exact gk)⟩
        obtain ⟨b, hb⟩ : ∃ s, m[k]? = some s := ⟨_, List.getElem?_eq_getElem gk⟩
        obtain ⟨_, n1, n2, n3⟩ := hN.out.2 k b _ hb hM
        obtain ⟨_, _, _, o4, o5⟩ := HR.out b (List.mem_of_getElem? hb)
        simp only at n1 n2 n3
        obtain ⟨fa1, fa2, fa3⟩ := flatD_at M k _ hM
        have ML : M.length = m.length := hN.out.1.symm
        have c1 := (hO.out.cellAt (k * 3) (by omega)).trans fa1
        have c2 := (hO.out.cellAt (k * 3 + 1) (by omega)).trans fa2
        have c3 := (hO.out.cellAt (k * 3 + 2) (by omega)).trans fa3
        have p1 := (hB.cell (p := ⟨bp, offp + k * 2, none⟩) hbw).trans hc1
        have p2 := (hB.cell (p := ⟨bp, offp + k * 2 + 1, none⟩) hbw).trans hc2'
        have z1 := hO.out.frozenAt (k * 3 + 1)
        have z2 := hO.out.frozenAt (k * 3 + 2)
        have j1 : (k : Int) < (pl.length : Int) := by omega
        simp only at c1 c2 c3 p1 p2
        have HGW : w.heap.size ≤ g := Nat.le_trans B2.size HG.out
        have HPC := Lib.hid (And.intro hc1 hc2')
        by_cases gx : x < 0
        · by_cases gy : y < 0
          · skip
            obtain ⟨Wd, X, Y, a2, d2, E1, E2, q1, q2, q3, q4, q5, q6, q7, q8, q9, q10, q11, q12, q13, q14, q15, q16⟩ := less_nums (a := a) (d := d) 0 0 (by omega) n2 (by omega)
            have HN := Lib.hid (hN.out.set hM q11 q12 q13)
            have HF1 := Lib.hid (flatD_set1 a2 M k t a d hM)
            have HF2 := Lib.hid (flatD_set2 d2 (M.set k ⟨t, a2, d⟩) k t a2 d (by rw [List.getElem?_set_self (by rw [ML]; exact gk)]))
            have hX0 : X = 0 := by rw [← q4]; exact Int.zero_emod _
            subst hX0
            have q5' : wrap64 a = a2 := by simpa using q5
            have q6' : IntKind.i64.wrap Wd = E1 := by simpa using q6
            have hY0 : Y = 0 := by rw [← q9]; exact Int.zero_emod _
            subst hY0
            have q10' : IntKind.i64.wrap d = d2 := by simpa using q10
            clear fa1 fa2 fa3 hb hx hc1 hc2' n1 n3 o4 o5 hM
            go_wp2_with fail
            go_quiet (fail)
            rw [q1]
            go_wp2_with fail
            rw [q5']
            have hz2 : ¬ E2 = 0 := by omega
            have hz3 : (E2 == 0) = false := beq_eq_false_iff_ne.2 hz2
            have hOa := Lib.hid ((owns_below hO.out (below_drewN (Below.refl _ wr) nq)).stored (k * 3 + 1) (.int .i64 a2)).1
            have hBa : Below w.heap.size w ((wr.drewN nq).setCell ⟨g, k * 3 + 1, none⟩ (.int .i64 a2)) := (below_drewN hB nq).setCell (p := ⟨g, k * 3 + 1, none⟩) HGW _
            have hBb := Lib.hid ((below_drewN hW.out nq).setCell (p := ⟨g, k * 3 + 1, none⟩) HG.out (.int .i64 a2))
            refine region_keeps (w0 := w) (L := []) (by kernel_rfl) ⟨hBa, trivial⟩ (fun hHeld0 => ?_)
            refine wpAnyH_take (i := 0) (oi := ⟨some 61, _, _, _, _, _⟩) (v := ?_) rfl (by kernel_rfl) (by kernel_rfl) (by kernel_rfl) (fun _ _ _ h => h) (Or.inl ⟨by rfl, ?_⟩) (by assumption) ?_
            rotate_left
            · intro wq hSw; go_simp; (try with_reducible rfl)
            try simp only [Act.put, List.setIfInBounds_toArray, List.set_cons_zero, List.set_cons_succ]
            refine wpAnyH_take (i := 1) (oi := ⟨some 62, _, _, _, _, _⟩) (v := ?_) rfl (by kernel_rfl) (by kernel_rfl) (by kernel_rfl) (fun _ _ _ h => h) (Or.inl ⟨by rfl, ?_⟩) (by assumption) ?_
            rotate_left
            · intro wq hSw; go_simp; (try with_reducible rfl)
            try simp only [Act.put, List.setIfInBounds_toArray, List.set_cons_zero, List.set_cons_succ]
            refine wpAnyH_take (i := 2) (oi := ⟨some 63, _, _, _, _, _⟩) (v := ?_) rfl (by kernel_rfl) (by kernel_rfl) (by kernel_rfl) (fun _ _ _ h => h) (Or.inl ⟨by rfl, ?_⟩) (by assumption) ?_
            rotate_left
            · intro wq hSw; go_simp; (try with_reducible rfl)
            try simp only [Act.put, List.setIfInBounds_toArray, List.set_cons_zero, List.set_cons_succ]
            refine wpAnyH_take (i := 3) (oi := ⟨some 64, _, _, _, _, _⟩) (v := ?_) rfl (by kernel_rfl) (by kernel_rfl) (by kernel_rfl) (fun _ _ _ h => h) (Or.inl ⟨by rfl, ?_⟩) (by assumption) ?_
            rotate_left
            · intro wq hSw; go_simp; (try with_reducible rfl)
            try simp only [Act.put, List.setIfInBounds_toArray, List.set_cons_zero, List.set_cons_succ]
            refine wpAnyH_take (i := 5) (oi := ⟨some 66, _, _, _, _, _⟩) (v := ?_) rfl (by kernel_rfl) (by kernel_rfl) (by kernel_rfl) (fun _ _ _ h => h) (Or.inl ⟨by rfl, ?_⟩) (by assumption) ?_
            rotate_left
            · intro wq hSw; go_simp; (try with_reducible rfl)
            try simp only [Act.put, List.setIfInBounds_toArray, List.set_cons_zero, List.set_cons_succ]
            refine wpAnyH_take (i := 6) (oi := ⟨some 67, _, _, _, _, _⟩) (v := ?_) rfl (by kernel_rfl) (by kernel_rfl) (by kernel_rfl) (fun _ _ _ h => h) (Or.inl ⟨by rfl, ?_⟩) (by assumption) ?_
            rotate_left
            · intro wq hSw; go_simp; (try with_reducible rfl)
            try simp only [Act.put, List.setIfInBounds_toArray, List.set_cons_zero, List.set_cons_succ]
            refine wpAnyH_take (i := 7) (oi := ⟨some 68, _, _, _, _, _⟩) (v := ?_) rfl (by kernel_rfl) (by kernel_rfl) (by kernel_rfl) (fun _ _ _ h => h) (Or.inl ⟨by rfl, ?_⟩) (by assumption) ?_
            rotate_left
            · intro wq hSw; go_simp; (try with_reducible rfl)
            try simp only [Act.put, List.setIfInBounds_toArray, List.set_cons_zero, List.set_cons_succ]
            refine wpAnyH_take (i := 8) (oi := ⟨some 69, _, _, _, _, _⟩) (v := ?_) rfl (by kernel_rfl) (by kernel_rfl) (by kernel_rfl) (fun _ _ _ h => h) (Or.inl ⟨by rfl, ?_⟩) (by assumption) ?_
            rotate_left
            · intro wq hSw; go_simp; (try with_reducible rfl)
            try simp only [Act.put, List.setIfInBounds_toArray, List.set_cons_zero, List.set_cons_succ]
            refine wpAnyH_take (i := 9) (oi := ⟨some 70, _, _, _, _, _⟩) (v := ?_) rfl (by kernel_rfl) (by kernel_rfl) (by kernel_rfl) (fun _ _ _ h => h) (Or.inl ⟨by rfl, ?_⟩) (by assumption) ?_
            rotate_left
            · intro wq hSw; obtain _ := hSw.2; have p4 := (hSw.1.cell (p := ⟨bp, offp + k * 2, none⟩) hbw).trans HPC.out.1; have p5 := (hSw.1.cell (p := ⟨bp, offp + k * 2 + 1, none⟩) hbw).trans HPC.out.2; go_simp; (try with_reducible rfl)
            try simp only [Act.put, List.setIfInBounds_toArray, List.set_cons_zero, List.set_cons_succ]
            refine wpAnyH_take (i := 10) (oi := ⟨some 71, _, _, _, _, _⟩) (v := ?_) rfl (by kernel_rfl) (by kernel_rfl) (by kernel_rfl) (fun _ _ _ h => h) (Or.inl ⟨by rfl, ?_⟩) (by assumption) ?_
            rotate_left
            · intro wq hSw; go_simp; (try with_reducible rfl)
            try simp only [Act.put, List.setIfInBounds_toArray, List.set_cons_zero, List.set_cons_succ]
            refine wpAnyH_take (i := 11) (oi := ⟨some 72, _, _, _, _, _⟩) (v := ?_) rfl (by kernel_rfl) (by kernel_rfl) (by kernel_rfl) (fun _ _ _ h => h) (Or.inl ⟨by rfl, ?_⟩) (by assumption) ?_
            rotate_left
            · intro wq hSw; go_simp; (try with_reducible rfl)
            try simp only [Act.put, List.setIfInBounds_toArray, List.set_cons_zero, List.set_cons_succ]
            refine wpAnyH_take (i := 12) (oi := ⟨some 73, _, _, _, _, _⟩) (v := ?_) rfl (by kernel_rfl) (by kernel_rfl) (by kernel_rfl) (fun _ _ _ h => h) (Or.inl ⟨by rfl, ?_⟩) (by assumption) ?_
            rotate_left
            · intro wq hSw; go_simp; (try with_reducible rfl)
            try simp only [Act.put, List.setIfInBounds_toArray, List.set_cons_zero, List.set_cons_succ]
            refine wpAnyH_take (i := 13) (oi := ⟨some 74, _, _, _, _, _⟩) (v := ?_) rfl (by kernel_rfl) (by kernel_rfl) (by kernel_rfl) (fun _ _ _ h => h) (Or.inl ⟨by rfl, ?_⟩) (by assumption) ?_
            rotate_left
            · intro wq hSw; go_simp; (try with_reducible rfl)
            try simp only [Act.put, List.setIfInBounds_toArray, List.set_cons_zero, List.set_cons_succ]
            refine wpAnyH_take (i := 14) (oi := ⟨some 75, _, _, _, _, _⟩) (v := ?_) rfl (by kernel_rfl) (by kernel_rfl) (by kernel_rfl) (fun _ _ _ h => h) (Or.inl ⟨by rfl, ?_⟩) (by assumption) ?_
            rotate_left
            · intro wq hSw; go_simp; (try with_reducible rfl)
            try simp only [Act.put, List.setIfInBounds_toArray, List.set_cons_zero, List.set_cons_succ]
            refine wpAnyH_take (i := 15) (oi := ⟨some 76, _, _, _, _, _⟩) (v := ?_) rfl (by kernel_rfl) (by kernel_rfl) (by kernel_rfl) (fun _ _ _ h => h) (Or.inl ⟨by rfl, ?_⟩) (by assumption) ?_
            rotate_left
            · intro wq hSw; go_simp; (try with_reducible rfl)
            try simp only [Act.put, List.setIfInBounds_toArray, List.set_cons_zero, List.set_cons_succ]
            refine wpAnyH_ready (rs := [4]) (by kernel_rfl) (by simp) ?_
            refine AllReadyH.cons (o := ⟨some 65, _, _, _, _, _⟩) rfl (fun K hK => ?_) AllReadyH.nil
            go_simp
            refine hK.out _ _ (by first | exact hHeld0 | (first | exact hHeld | (refine ⟨by go_grown, ?_⟩; simp [Cells, go_sem]; done))) (fun hHeld1 => ?_)
            clear hK K
            try clear hb
            try simp only [Act.put, List.setIfInBounds_toArray, List.set_cons_zero, List.set_cons_succ]
            refine wpAnyH_take (i := 16) (oi := ⟨some 77, _, _, _, _, _⟩) (v := ?_) rfl (by kernel_rfl) (by kernel_rfl) (by kernel_rfl) (fun _ _ _ h => h) (Or.inl ⟨by rfl, ?_⟩) (by assumption) ?_
            rotate_left
            · intro wq hSw; go_simp; (try with_reducible rfl)
            try simp only [Act.put, List.setIfInBounds_toArray, List.set_cons_zero, List.set_cons_succ]
            refine wpAnyH_take (i := 17) (oi := ⟨some 78, _, _, _, _, _⟩) (v := ?_) rfl (by kernel_rfl) (by kernel_rfl) (by kernel_rfl) (fun _ _ _ h => h) (Or.inl ⟨by rfl, ?_⟩) (by assumption) ?_
            rotate_left
            · intro wq hSw; go_simp; (try with_reducible rfl)
            try simp only [Act.put, List.setIfInBounds_toArray, List.set_cons_zero, List.set_cons_succ]
            refine wpAnyH_take (i := 18) (oi := ⟨some 79, _, _, _, _, _⟩) (v := ?_) rfl (by kernel_rfl) (by kernel_rfl) (by kernel_rfl) (fun _ _ _ h => h) (Or.inl ⟨by rfl, ?_⟩) (by assumption) ?_
            rotate_left
            · intro wq hSw; go_simp; (try with_reducible rfl)
            try simp only [Act.put, List.setIfInBounds_toArray, List.set_cons_zero, List.set_cons_succ]
            refine wpAnyH_ready (rs := [19]) (by kernel_rfl) (by simp) ?_
            refine AllReadyH.cons (o := ⟨none, _, _, _, _, _⟩) rfl (fun K hK => ?_) AllReadyH.nil
            go_simp
            refine hK.out _ _ (⟨((hHeld1).1).setCell (p := ⟨g, k * 3 + 2, none⟩) HGW _, trivial⟩) (fun hHeld2 => ?_)
            clear hK K
            try clear hb
            try simp only [Act.put, List.setIfInBounds_toArray, List.set_cons_zero, List.set_cons_succ]
            refine wpAnyH_done (by kernel_rfl) ?_ _
            have hHeld := hHeld2
            all_goals
              have hO3 := Lib.hid (owns_below (hOa.out.stored (k * 3 + 2) (.int .i64 d2)).1 (Below.refl _ _).drew)
              have hB3 := Lib.hid (Below.drew (hBb.out.setCell (p := ⟨g, k * 3 + 2, none⟩) HG.out (.int .i64 d2)))
              rw [HF1.out, HF2.out, List.set_set] at hO3
              clear hBa hHeld
              go_wp2_with fail
              go_roundw
              case rel => exact ⟨k + 1, _, by simp, gk, HN, hO3, hB3, under B2 hB3.out⟩
              case measure => exact index_less gk
          · skip
            obtain ⟨Wd, X, Y, a2, d2, E1, E2, q1, q2, q3, q4, q5, q6, q7, q8, q9, q10, q11, q12, q13, q14, q15, q16⟩ := less_nums (a := a) (d := d) 0 y (by omega) n2 (by omega)
            have HN := Lib.hid (hN.out.set hM q11 q12 q13)
            have HF1 := Lib.hid (flatD_set1 a2 M k t a d hM)
            have HF2 := Lib.hid (flatD_set2 d2 (M.set k ⟨t, a2, d⟩) k t a2 d (by rw [List.getElem?_set_self (by rw [ML]; exact gk)]))
            have hX0 : X = 0 := by rw [← q4]; exact Int.zero_emod _
            subst hX0
            have q5' : wrap64 a = a2 := by simpa using q5
            have q6' : IntKind.i64.wrap Wd = E1 := by simpa using q6
            have q9' : y.tmod E2 = Y := by rw [Int.tmod_eq_emod_of_nonneg (by omega)]; exact q9
            clear fa1 fa2 fa3 hb hx hc1 hc2' n1 n3 o4 o5 hM
            go_wp2_with fail
            go_quiet (fail)
            rw [q1]
            go_wp2_with fail
            rw [q5']
            have hz2 : ¬ E2 = 0 := by omega
            have hz3 : (E2 == 0) = false := beq_eq_false_iff_ne.2 hz2
            have hOa := Lib.hid ((owns_below hO.out (below_drewN (Below.refl _ wr) nq)).stored (k * 3 + 1) (.int .i64 a2)).1
            have hBa : Below w.heap.size w ((wr.drewN nq).setCell ⟨g, k * 3 + 1, none⟩ (.int .i64 a2)) := (below_drewN hB nq).setCell (p := ⟨g, k * 3 + 1, none⟩) HGW _
            have hBb := Lib.hid ((below_drewN hW.out nq).setCell (p := ⟨g, k * 3 + 1, none⟩) HG.out (.int .i64 a2))
            refine region_keeps (w0 := w) (L := []) (by kernel_rfl) ⟨hBa, trivial⟩ (fun hHeld0 => ?_)
            refine wpAnyH_take (i := 0) (oi := ⟨some 61, _, _, _, _, _⟩) (v := ?_) rfl (by kernel_rfl) (by kernel_rfl) (by kernel_rfl) (fun _ _ _ h => h) (Or.inl ⟨by rfl, ?_⟩) (by assumption) ?_
            rotate_left
            · intro wq hSw; go_simp; (try with_reducible rfl)
            try simp only [Act.put, List.setIfInBounds_toArray, List.set_cons_zero, List.set_cons_succ]
            refine wpAnyH_take (i := 1) (oi := ⟨some 62, _, _, _, _, _⟩) (v := ?_) rfl (by kernel_rfl) (by kernel_rfl) (by kernel_rfl) (fun _ _ _ h => h) (Or.inl ⟨by rfl, ?_⟩) (by assumption) ?_
            rotate_left
            · intro wq hSw; go_simp; (try with_reducible rfl)
            try simp only [Act.put, List.setIfInBounds_toArray, List.set_cons_zero, List.set_cons_succ]
            refine wpAnyH_take (i := 2) (oi := ⟨some 63, _, _, _, _, _⟩) (v := ?_) rfl (by kernel_rfl) (by kernel_rfl) (by kernel_rfl) (fun _ _ _ h => h) (Or.inl ⟨by rfl, ?_⟩) (by assumption) ?_
            rotate_left
            · intro wq hSw; go_simp; (try with_reducible rfl)
            try simp only [Act.put, List.setIfInBounds_toArray, List.set_cons_zero, List.set_cons_succ]
            refine wpAnyH_take (i := 3) (oi := ⟨some 64, _, _, _, _, _⟩) (v := ?_) rfl (by kernel_rfl) (by kernel_rfl) (by kernel_rfl) (fun _ _ _ h => h) (Or.inl ⟨by rfl, ?_⟩) (by assumption) ?_
            rotate_left
            · intro wq hSw; go_simp; (try with_reducible rfl)
            try simp only [Act.put, List.setIfInBounds_toArray, List.set_cons_zero, List.set_cons_succ]
            refine wpAnyH_take (i := 5) (oi := ⟨some 66, _, _, _, _, _⟩) (v := ?_) rfl (by kernel_rfl) (by kernel_rfl) (by kernel_rfl) (fun _ _ _ h => h) (Or.inl ⟨by rfl, ?_⟩) (by assumption) ?_
            rotate_left
            · intro wq hSw; go_simp; (try with_reducible rfl)
            try simp only [Act.put, List.setIfInBounds_toArray, List.set_cons_zero, List.set_cons_succ]
            refine wpAnyH_take (i := 6) (oi := ⟨some 67, _, _, _, _, _⟩) (v := ?_) rfl (by kernel_rfl) (by kernel_rfl) (by kernel_rfl) (fun _ _ _ h => h) (Or.inl ⟨by rfl, ?_⟩) (by assumption) ?_
            rotate_left
            · intro wq hSw; go_simp; (try with_reducible rfl)
            try simp only [Act.put, List.setIfInBounds_toArray, List.set_cons_zero, List.set_cons_succ]
            refine wpAnyH_take (i := 7) (oi := ⟨some 68, _, _, _, _, _⟩) (v := ?_) rfl (by kernel_rfl) (by kernel_rfl) (by kernel_rfl) (fun _ _ _ h => h) (Or.inl ⟨by rfl, ?_⟩) (by assumption) ?_
            rotate_left
            · intro wq hSw; go_simp; (try with_reducible rfl)
            try simp only [Act.put, List.setIfInBounds_toArray, List.set_cons_zero, List.set_cons_succ]
            refine wpAnyH_take (i := 8) (oi := ⟨some 69, _, _, _, _, _⟩) (v := ?_) rfl (by kernel_rfl) (by kernel_rfl) (by kernel_rfl) (fun _ _ _ h => h) (Or.inl ⟨by rfl, ?_⟩) (by assumption) ?_
            rotate_left
            · intro wq hSw; go_simp; (try with_reducible rfl)
            try simp only [Act.put, List.setIfInBounds_toArray, List.set_cons_zero, List.set_cons_succ]
            refine wpAnyH_take (i := 9) (oi := ⟨some 70, _, _, _, _, _⟩) (v := ?_) rfl (by kernel_rfl) (by kernel_rfl) (by kernel_rfl) (fun _ _ _ h => h) (Or.inl ⟨by rfl, ?_⟩) (by assumption) ?_
            rotate_left
            · intro wq hSw; obtain _ := hSw.2; have p4 := (hSw.1.cell (p := ⟨bp, offp + k * 2, none⟩) hbw).trans HPC.out.1; have p5 := (hSw.1.cell (p := ⟨bp, offp + k * 2 + 1, none⟩) hbw).trans HPC.out.2; go_simp; (try with_reducible rfl)
            try simp only [Act.put, List.setIfInBounds_toArray, List.set_cons_zero, List.set_cons_succ]
            refine wpAnyH_take (i := 10) (oi := ⟨some 71, _, _, _, _, _⟩) (v := ?_) rfl (by kernel_rfl) (by kernel_rfl) (by kernel_rfl) (fun _ _ _ h => h) (Or.inl ⟨by rfl, ?_⟩) (by assumption) ?_
            rotate_left
            · intro wq hSw; go_simp; (try with_reducible rfl)
            try simp only [Act.put, List.setIfInBounds_toArray, List.set_cons_zero, List.set_cons_succ]
            refine wpAnyH_take (i := 11) (oi := ⟨some 72, _, _, _, _, _⟩) (v := ?_) rfl (by kernel_rfl) (by kernel_rfl) (by kernel_rfl) (fun _ _ _ h => h) (Or.inl ⟨by rfl, ?_⟩) (by assumption) ?_
            rotate_left
            · intro wq hSw; go_simp; (try with_reducible rfl)
            try simp only [Act.put, List.setIfInBounds_toArray, List.set_cons_zero, List.set_cons_succ]
            refine wpAnyH_take (i := 12) (oi := ⟨some 73, _, _, _, _, _⟩) (v := ?_) rfl (by kernel_rfl) (by kernel_rfl) (by kernel_rfl) (fun _ _ _ h => h) (Or.inl ⟨by rfl, ?_⟩) (by assumption) ?_
            rotate_left
            · intro wq hSw; go_simp; (try with_reducible rfl)
            try simp only [Act.put, List.setIfInBounds_toArray, List.set_cons_zero, List.set_cons_succ]
            refine wpAnyH_take (i := 13) (oi := ⟨some 74, _, _, _, _, _⟩) (v := ?_) rfl (by kernel_rfl) (by kernel_rfl) (by kernel_rfl) (fun _ _ _ h => h) (Or.inl ⟨by rfl, ?_⟩) (by assumption) ?_
            rotate_left
            · intro wq hSw; go_simp; (try with_reducible rfl)
            try simp only [Act.put, List.setIfInBounds_toArray, List.set_cons_zero, List.set_cons_succ]
            refine wpAnyH_take (i := 14) (oi := ⟨some 75, _, _, _, _, _⟩) (v := ?_) rfl (by kernel_rfl) (by kernel_rfl) (by kernel_rfl) (fun _ _ _ h => h) (Or.inl ⟨by rfl, ?_⟩) (by assumption) ?_
            rotate_left
            · intro wq hSw; go_simp; (try with_reducible rfl)
            try simp only [Act.put, List.setIfInBounds_toArray, List.set_cons_zero, List.set_cons_succ]
            refine wpAnyH_take (i := 15) (oi := ⟨some 76, _, _, _, _, _⟩) (v := ?_) rfl (by kernel_rfl) (by kernel_rfl) (by kernel_rfl) (fun _ _ _ h => h) (Or.inl ⟨by rfl, ?_⟩) (by assumption) ?_
            rotate_left
            · intro wq hSw; go_simp; (try with_reducible rfl)
            try simp only [Act.put, List.setIfInBounds_toArray, List.set_cons_zero, List.set_cons_succ]
            refine wpAnyH_ready (rs := [4]) (by kernel_rfl) (by simp) ?_
            refine AllReadyH.cons (o := ⟨some 65, _, _, _, _, _⟩) rfl (fun K hK => ?_) AllReadyH.nil
            go_simp
            refine hK.out _ _ (by first | exact hHeld0 | (first | exact hHeld | (refine ⟨by go_grown, ?_⟩; simp [Cells, go_sem]; done))) (fun hHeld1 => ?_)
            clear hK K
            try clear hb
            try simp only [Act.put, List.setIfInBounds_toArray, List.set_cons_zero, List.set_cons_succ]
            refine wpAnyH_take (i := 16) (oi := ⟨some 77, _, _, _, _, _⟩) (v := ?_) rfl (by kernel_rfl) (by kernel_rfl) (by kernel_rfl) (fun _ _ _ h => h) (Or.inl ⟨by rfl, ?_⟩) (by assumption) ?_
            rotate_left
            · intro wq hSw; go_simp; (try with_reducible rfl)
            try simp only [Act.put, List.setIfInBounds_toArray, List.set_cons_zero, List.set_cons_succ]
            refine wpAnyH_take (i := 17) (oi := ⟨some 78, _, _, _, _, _⟩) (v := ?_) rfl (by kernel_rfl) (by kernel_rfl) (by kernel_rfl) (fun _ _ _ h => h) (Or.inl ⟨by rfl, ?_⟩) (by assumption) ?_
            rotate_left
            · intro wq hSw; go_simp; (try with_reducible rfl)
            try simp only [Act.put, List.setIfInBounds_toArray, List.set_cons_zero, List.set_cons_succ]
            refine wpAnyH_take (i := 18) (oi := ⟨some 79, _, _, _, _, _⟩) (v := ?_) rfl (by kernel_rfl) (by kernel_rfl) (by kernel_rfl) (fun _ _ _ h => h) (Or.inl ⟨by rfl, ?_⟩) (by assumption) ?_
            rotate_left
            · intro wq hSw; go_simp; (try with_reducible rfl)
            try simp only [Act.put, List.setIfInBounds_toArray, List.set_cons_zero, List.set_cons_succ]
            refine wpAnyH_ready (rs := [19]) (by kernel_rfl) (by simp) ?_
            refine AllReadyH.cons (o := ⟨none, _, _, _, _, _⟩) rfl (fun K hK => ?_) AllReadyH.nil
            go_simp
            refine hK.out _ _ (⟨((hHeld1).1).setCell (p := ⟨g, k * 3 + 2, none⟩) HGW _, trivial⟩) (fun hHeld2 => ?_)
            clear hK K
            try clear hb
            try simp only [Act.put, List.setIfInBounds_toArray, List.set_cons_zero, List.set_cons_succ]
            refine wpAnyH_done (by kernel_rfl) ?_ _
            have hHeld := hHeld2
            all_goals
              have hO3 := Lib.hid (owns_below (hOa.out.stored (k * 3 + 2) (.int .i64 d2)).1 (Below.refl _ _).drew)
              have hB3 := Lib.hid (Below.drew (hBb.out.setCell (p := ⟨g, k * 3 + 2, none⟩) HG.out (.int .i64 d2)))
              rw [HF1.out, HF2.out, List.set_set] at hO3
              clear hBa hHeld
              go_wp2_with fail
              go_roundw
              case rel => exact ⟨k + 1, _, by simp, gk, HN, hO3, hB3, under B2 hB3.out⟩
              case measure => exact index_less gk
        · by_cases gy : y < 0
          · skip
            obtain ⟨Wd, X, Y, a2, d2, E1, E2, q1, q2, q3, q4, q5, q6, q7, q8, q9, q10, q11, q12, q13, q14, q15, q16⟩ := less_nums (a := a) (d := d) x 0 (by omega) n2 (by omega)
            have HN := Lib.hid (hN.out.set hM q11 q12 q13)
            have HF1 := Lib.hid (flatD_set1 a2 M k t a d hM)
            have HF2 := Lib.hid (flatD_set2 d2 (M.set k ⟨t, a2, d⟩) k t a2 d (by rw [List.getElem?_set_self (by rw [ML]; exact gk)]))
            have hY0 : Y = 0 := by rw [← q9]; exact Int.zero_emod _
            subst hY0
            have q10' : IntKind.i64.wrap d = d2 := by simpa using q10
            clear fa1 fa2 fa3 hb hx hc1 hc2' n1 n3 o4 o5 hM
            go_wp2_with fail
            go_quiet (fail)
            rw [q1]
            go_wp2_with fail
            rw [q4]
            have hz2 : ¬ E2 = 0 := by omega
            have hz3 : (E2 == 0) = false := beq_eq_false_iff_ne.2 hz2
            have hOa := Lib.hid ((owns_below hO.out (below_drewN (Below.refl _ wr) nq)).stored (k * 3 + 1) (.int .i64 a2)).1
            have hBa : Below w.heap.size w ((wr.drewN nq).setCell ⟨g, k * 3 + 1, none⟩ (.int .i64 a2)) := (below_drewN hB nq).setCell (p := ⟨g, k * 3 + 1, none⟩) HGW _
            have hBb := Lib.hid ((below_drewN hW.out nq).setCell (p := ⟨g, k * 3 + 1, none⟩) HG.out (.int .i64 a2))
            refine region_keeps (w0 := w) (L := []) (by kernel_rfl) ⟨hBa, trivial⟩ (fun hHeld0 => ?_)
            refine wpAnyH_take (i := 0) (oi := ⟨some 61, _, _, _, _, _⟩) (v := ?_) rfl (by kernel_rfl) (by kernel_rfl) (by kernel_rfl) (fun _ _ _ h => h) (Or.inl ⟨by rfl, ?_⟩) (by assumption) ?_
            rotate_left
            · intro wq hSw; go_simp; (try with_reducible rfl)
            try simp only [Act.put, List.setIfInBounds_toArray, List.set_cons_zero, List.set_cons_succ]
            refine wpAnyH_take (i := 1) (oi := ⟨some 62, _, _, _, _, _⟩) (v := ?_) rfl (by kernel_rfl) (by kernel_rfl) (by kernel_rfl) (fun _ _ _ h => h) (Or.inl ⟨by rfl, ?_⟩) (by assumption) ?_
            rotate_left
            · intro wq hSw; go_simp; (try with_reducible rfl)
            try simp only [Act.put, List.setIfInBounds_toArray, List.set_cons_zero, List.set_cons_succ]
            refine wpAnyH_take (i := 2) (oi := ⟨some 63, _, _, _, _, _⟩) (v := ?_) rfl (by kernel_rfl) (by kernel_rfl) (by kernel_rfl) (fun _ _ _ h => h) (Or.inl ⟨by rfl, ?_⟩) (by assumption) ?_
            rotate_left
            · intro wq hSw; go_simp; (try with_reducible rfl)
            try simp only [Act.put, List.setIfInBounds_toArray, List.set_cons_zero, List.set_cons_succ]
            refine wpAnyH_take (i := 3) (oi := ⟨some 64, _, _, _, _, _⟩) (v := ?_) rfl (by kernel_rfl) (by kernel_rfl) (by kernel_rfl) (fun _ _ _ h => h) (Or.inl ⟨by rfl, ?_⟩) (by assumption) ?_
            rotate_left
            · intro wq hSw; go_simp; (try with_reducible rfl)
            try simp only [Act.put, List.setIfInBounds_toArray, List.set_cons_zero, List.set_cons_succ]
            refine wpAnyH_take (i := 5) (oi := ⟨some 66, _, _, _, _, _⟩) (v := ?_) rfl (by kernel_rfl) (by kernel_rfl) (by kernel_rfl) (fun _ _ _ h => h) (Or.inl ⟨by rfl, ?_⟩) (by assumption) ?_
            rotate_left
            · intro wq hSw; go_simp; (try with_reducible rfl)
            try simp only [Act.put, List.setIfInBounds_toArray, List.set_cons_zero, List.set_cons_succ]
            refine wpAnyH_take (i := 6) (oi := ⟨some 67, _, _, _, _, _⟩) (v := ?_) rfl (by kernel_rfl) (by kernel_rfl) (by kernel_rfl) (fun _ _ _ h => h) (Or.inl ⟨by rfl, ?_⟩) (by assumption) ?_
            rotate_left
            · intro wq hSw; go_simp; (try with_reducible rfl)
            try simp only [Act.put, List.setIfInBounds_toArray, List.set_cons_zero, List.set_cons_succ]
            refine wpAnyH_take (i := 7) (oi := ⟨some 68, _, _, _, _, _⟩) (v := ?_) rfl (by kernel_rfl) (by kernel_rfl) (by kernel_rfl) (fun _ _ _ h => h) (Or.inl ⟨by rfl, ?_⟩) (by assumption) ?_
            rotate_left
            · intro wq hSw; go_simp; (try with_reducible rfl)
            try simp only [Act.put, List.setIfInBounds_toArray, List.set_cons_zero, List.set_cons_succ]
            refine wpAnyH_take (i := 8) (oi := ⟨some 69, _, _, _, _, _⟩) (v := ?_) rfl (by kernel_rfl) (by kernel_rfl) (by kernel_rfl) (fun _ _ _ h => h) (Or.inl ⟨by rfl, ?_⟩) (by assumption) ?_
            rotate_left
            · intro wq hSw; go_simp; (try with_reducible rfl)
            try simp only [Act.put, List.setIfInBounds_toArray, List.set_cons_zero, List.set_cons_succ]
            refine wpAnyH_take (i := 9) (oi := ⟨some 70, _, _, _, _, _⟩) (v := ?_) rfl (by kernel_rfl) (by kernel_rfl) (by kernel_rfl) (fun _ _ _ h => h) (Or.inl ⟨by rfl, ?_⟩) (by assumption) ?_
            rotate_left
            · intro wq hSw; obtain _ := hSw.2; have p4 := (hSw.1.cell (p := ⟨bp, offp + k * 2, none⟩) hbw).trans HPC.out.1; have p5 := (hSw.1.cell (p := ⟨bp, offp + k * 2 + 1, none⟩) hbw).trans HPC.out.2; go_simp; (try with_reducible rfl)
            try simp only [Act.put, List.setIfInBounds_toArray, List.set_cons_zero, List.set_cons_succ]
            refine wpAnyH_take (i := 10) (oi := ⟨some 71, _, _, _, _, _⟩) (v := ?_) rfl (by kernel_rfl) (by kernel_rfl) (by kernel_rfl) (fun _ _ _ h => h) (Or.inl ⟨by rfl, ?_⟩) (by assumption) ?_
            rotate_left
            · intro wq hSw; go_simp; (try with_reducible rfl)
            try simp only [Act.put, List.setIfInBounds_toArray, List.set_cons_zero, List.set_cons_succ]
            refine wpAnyH_take (i := 11) (oi := ⟨some 72, _, _, _, _, _⟩) (v := ?_) rfl (by kernel_rfl) (by kernel_rfl) (by kernel_rfl) (fun _ _ _ h => h) (Or.inl ⟨by rfl, ?_⟩) (by assumption) ?_
            rotate_left
            · intro wq hSw; go_simp; (try with_reducible rfl)
            try simp only [Act.put, List.setIfInBounds_toArray, List.set_cons_zero, List.set_cons_succ]
            refine wpAnyH_take (i := 12) (oi := ⟨some 73, _, _, _, _, _⟩) (v := ?_) rfl (by kernel_rfl) (by kernel_rfl) (by kernel_rfl) (fun _ _ _ h => h) (Or.inl ⟨by rfl, ?_⟩) (by assumption) ?_
            rotate_left
            · intro wq hSw; go_simp; (try with_reducible rfl)
            try simp only [Act.put, List.setIfInBounds_toArray, List.set_cons_zero, List.set_cons_succ]
            refine wpAnyH_take (i := 13) (oi := ⟨some 74, _, _, _, _, _⟩) (v := ?_) rfl (by kernel_rfl) (by kernel_rfl) (by kernel_rfl) (fun _ _ _ h => h) (Or.inl ⟨by rfl, ?_⟩) (by assumption) ?_
            rotate_left
            · intro wq hSw; go_simp; (try with_reducible rfl)
            try simp only [Act.put, List.setIfInBounds_toArray, List.set_cons_zero, List.set_cons_succ]
            refine wpAnyH_take (i := 14) (oi := ⟨some 75, _, _, _, _, _⟩) (v := ?_) rfl (by kernel_rfl) (by kernel_rfl) (by kernel_rfl) (fun _ _ _ h => h) (Or.inl ⟨by rfl, ?_⟩) (by assumption) ?_
            rotate_left
            · intro wq hSw; go_simp; (try with_reducible rfl)
            try simp only [Act.put, List.setIfInBounds_toArray, List.set_cons_zero, List.set_cons_succ]
            refine wpAnyH_take (i := 15) (oi := ⟨some 76, _, _, _, _, _⟩) (v := ?_) rfl (by kernel_rfl) (by kernel_rfl) (by kernel_rfl) (fun _ _ _ h => h) (Or.inl ⟨by rfl, ?_⟩) (by assumption) ?_
            rotate_left
            · intro wq hSw; go_simp; (try with_reducible rfl)
            try simp only [Act.put, List.setIfInBounds_toArray, List.set_cons_zero, List.set_cons_succ]
            refine wpAnyH_ready (rs := [4]) (by kernel_rfl) (by simp) ?_
            refine AllReadyH.cons (o := ⟨some 65, _, _, _, _, _⟩) rfl (fun K hK => ?_) AllReadyH.nil
            go_simp
            refine hK.out _ _ (by first | exact hHeld0 | (first | exact hHeld | (refine ⟨by go_grown, ?_⟩; simp [Cells, go_sem]; done))) (fun hHeld1 => ?_)
            clear hK K
            try clear hb
            try simp only [Act.put, List.setIfInBounds_toArray, List.set_cons_zero, List.set_cons_succ]
            refine wpAnyH_take (i := 16) (oi := ⟨some 77, _, _, _, _, _⟩) (v := ?_) rfl (by kernel_rfl) (by kernel_rfl) (by kernel_rfl) (fun _ _ _ h => h) (Or.inl ⟨by rfl, ?_⟩) (by assumption) ?_
            rotate_left
            · intro wq hSw; go_simp; (try with_reducible rfl)
            try simp only [Act.put, List.setIfInBounds_toArray, List.set_cons_zero, List.set_cons_succ]
            refine wpAnyH_take (i := 17) (oi := ⟨some 78, _, _, _, _, _⟩) (v := ?_) rfl (by kernel_rfl) (by kernel_rfl) (by kernel_rfl) (fun _ _ _ h => h) (Or.inl ⟨by rfl, ?_⟩) (by assumption) ?_
            rotate_left
            · intro wq hSw; go_simp; (try with_reducible rfl)
            try simp only [Act.put, List.setIfInBounds_toArray, List.set_cons_zero, List.set_cons_succ]
            refine wpAnyH_take (i := 18) (oi := ⟨some 79, _, _, _, _, _⟩) (v := ?_) rfl (by kernel_rfl) (by kernel_rfl) (by kernel_rfl) (fun _ _ _ h => h) (Or.inl ⟨by rfl, ?_⟩) (by assumption) ?_
            rotate_left
            · intro wq hSw; go_simp; (try with_reducible rfl)
            try simp only [Act.put, List.setIfInBounds_toArray, List.set_cons_zero, List.set_cons_succ]
            refine wpAnyH_ready (rs := [19]) (by kernel_rfl) (by simp) ?_
            refine AllReadyH.cons (o := ⟨none, _, _, _, _, _⟩) rfl (fun K hK => ?_) AllReadyH.nil
            go_simp
            refine hK.out _ _ (⟨((hHeld1).1).setCell (p := ⟨g, k * 3 + 2, none⟩) HGW _, trivial⟩) (fun hHeld2 => ?_)
            clear hK K
            try clear hb
            try simp only [Act.put, List.setIfInBounds_toArray, List.set_cons_zero, List.set_cons_succ]
            refine wpAnyH_done (by kernel_rfl) ?_ _
            have hHeld := hHeld2
            all_goals
              have hO3 := Lib.hid (owns_below (hOa.out.stored (k * 3 + 2) (.int .i64 d2)).1 (Below.refl _ _).drew)
              have hB3 := Lib.hid (Below.drew (hBb.out.setCell (p := ⟨g, k * 3 + 2, none⟩) HG.out (.int .i64 d2)))
              rw [HF1.out, HF2.out, List.set_set] at hO3
              clear hBa hHeld
              go_wp2_with fail
              go_roundw
              case rel => exact ⟨k + 1, _, by simp, gk, HN, hO3, hB3, under B2 hB3.out⟩
              case measure => exact index_less gk
          · skip
            obtain ⟨Wd, X, Y, a2, d2, E1, E2, q1, q2, q3, q4, q5, q6, q7, q8, q9, q10, q11, q12, q13, q14, q15, q16⟩ := less_nums (a := a) (d := d) x y (by omega) n2 (by omega)
            have HN := Lib.hid (hN.out.set hM q11 q12 q13)
            have HF1 := Lib.hid (flatD_set1 a2 M k t a d hM)
            have HF2 := Lib.hid (flatD_set2 d2 (M.set k ⟨t, a2, d⟩) k t a2 d (by rw [List.getElem?_set_self (by rw [ML]; exact gk)]))
            have q9' : y.tmod E2 = Y := by rw [Int.tmod_eq_emod_of_nonneg (by omega)]; exact q9
            clear fa1 fa2 fa3 hb hx hc1 hc2' n1 n3 o4 o5 hM
            go_wp2_with fail
            go_quiet (fail)
            rw [q1]
            go_wp2_with fail
            rw [q4]
            have hz2 : ¬ E2 = 0 := by omega
            have hz3 : (E2 == 0) = false := beq_eq_false_iff_ne.2 hz2
            have hOa := Lib.hid ((owns_below hO.out (below_drewN (Below.refl _ wr) nq)).stored (k * 3 + 1) (.int .i64 a2)).1
            have hBa : Below w.heap.size w ((wr.drewN nq).setCell ⟨g, k * 3 + 1, none⟩ (.int .i64 a2)) := (below_drewN hB nq).setCell (p := ⟨g, k * 3 + 1, none⟩) HGW _
            have hBb := Lib.hid ((below_drewN hW.out nq).setCell (p := ⟨g, k * 3 + 1, none⟩) HG.out (.int .i64 a2))
            refine region_keeps (w0 := w) (L := []) (by kernel_rfl) ⟨hBa, trivial⟩ (fun hHeld0 => ?_)
            refine wpAnyH_take (i := 0) (oi := ⟨some 61, _, _, _, _, _⟩) (v := ?_) rfl (by kernel_rfl) (by kernel_rfl) (by kernel_rfl) (fun _ _ _ h => h) (Or.inl ⟨by rfl, ?_⟩) (by assumption) ?_
            rotate_left
            · intro wq hSw; go_simp; (try with_reducible rfl)
            try simp only [Act.put, List.setIfInBounds_toArray, List.set_cons_zero, List.set_cons_succ]
            refine wpAnyH_take (i := 1) (oi := ⟨some 62, _, _, _, _, _⟩) (v := ?_) rfl (by kernel_rfl) (by kernel_rfl) (by kernel_rfl) (fun _ _ _ h => h) (Or.inl ⟨by rfl, ?_⟩) (by assumption) ?_
            rotate_left
            · intro wq hSw; go_simp; (try with_reducible rfl)
            try simp only [Act.put, List.setIfInBounds_toArray, List.set_cons_zero, List.set_cons_succ]
            refine wpAnyH_take (i := 2) (oi := ⟨some 63, _, _, _, _, _⟩) (v := ?_) rfl (by kernel_rfl) (by kernel_rfl) (by kernel_rfl) (fun _ _ _ h => h) (Or.inl ⟨by rfl, ?_⟩) (by assumption) ?_
            rotate_left
            · intro wq hSw; go_simp; (try with_reducible rfl)
            try simp only [Act.put, List.setIfInBounds_toArray, List.set_cons_zero, List.set_cons_succ]
            refine wpAnyH_take (i := 3) (oi := ⟨some 64, _, _, _, _, _⟩) (v := ?_) rfl (by kernel_rfl) (by kernel_rfl) (by kernel_rfl) (fun _ _ _ h => h) (Or.inl ⟨by rfl, ?_⟩) (by assumption) ?_
            rotate_left
            · intro wq hSw; go_simp; (try with_reducible rfl)
            try simp only [Act.put, List.setIfInBounds_toArray, List.set_cons_zero, List.set_cons_succ]
            refine wpAnyH_take (i := 5) (oi := ⟨some 66, _, _, _, _, _⟩) (v := ?_) rfl (by kernel_rfl) (by kernel_rfl) (by kernel_rfl) (fun _ _ _ h => h) (Or.inl ⟨by rfl, ?_⟩) (by assumption) ?_
            rotate_left
            · intro wq hSw; go_simp; (try with_reducible rfl)
            try simp only [Act.put, List.setIfInBounds_toArray, List.set_cons_zero, List.set_cons_succ]
            refine wpAnyH_take (i := 6) (oi := ⟨some 67, _, _, _, _, _⟩) (v := ?_) rfl (by kernel_rfl) (by kernel_rfl) (by kernel_rfl) (fun _ _ _ h => h) (Or.inl ⟨by rfl, ?_⟩) (by assumption) ?_
            rotate_left
            · intro wq hSw; go_simp; (try with_reducible rfl)
            try simp only [Act.put, List.setIfInBounds_toArray, List.set_cons_zero, List.set_cons_succ]
            refine wpAnyH_take (i := 7) (oi := ⟨some 68, _, _, _, _, _⟩) (v := ?_) rfl (by kernel_rfl) (by kernel_rfl) (by kernel_rfl) (fun _ _ _ h => h) (Or.inl ⟨by rfl, ?_⟩) (by assumption) ?_
            rotate_left
            · intro wq hSw; go_simp; (try with_reducible rfl)
            try simp only [Act.put, List.setIfInBounds_toArray, List.set_cons_zero, List.set_cons_succ]
            refine wpAnyH_take (i := 8) (oi := ⟨some 69, _, _, _, _, _⟩) (v := ?_) rfl (by kernel_rfl) (by kernel_rfl) (by kernel_rfl) (fun _ _ _ h => h) (Or.inl ⟨by rfl, ?_⟩) (by assumption) ?_
            rotate_left
            · intro wq hSw; go_simp; (try with_reducible rfl)
            try simp only [Act.put, List.setIfInBounds_toArray, List.set_cons_zero, List.set_cons_succ]
            refine wpAnyH_take (i := 9) (oi := ⟨some 70, _, _, _, _, _⟩) (v := ?_) rfl (by kernel_rfl) (by kernel_rfl) (by kernel_rfl) (fun _ _ _ h => h) (Or.inl ⟨by rfl, ?_⟩) (by assumption) ?_
            rotate_left
            · intro wq hSw; obtain _ := hSw.2; have p4 := (hSw.1.cell (p := ⟨bp, offp + k * 2, none⟩) hbw).trans HPC.out.1; have p5 := (hSw.1.cell (p := ⟨bp, offp + k * 2 + 1, none⟩) hbw).trans HPC.out.2; go_simp; (try with_reducible rfl)
            try simp only [Act.put, List.setIfInBounds_toArray, List.set_cons_zero, List.set_cons_succ]
            refine wpAnyH_take (i := 10) (oi := ⟨some 71, _, _, _, _, _⟩) (v := ?_) rfl (by kernel_rfl) (by kernel_rfl) (by kernel_rfl) (fun _ _ _ h => h) (Or.inl ⟨by rfl, ?_⟩) (by assumption) ?_
            rotate_left
            · intro wq hSw; go_simp; (try with_reducible rfl)
            try simp only [Act.put, List.setIfInBounds_toArray, List.set_cons_zero, List.set_cons_succ]
            refine wpAnyH_take (i := 11) (oi := ⟨some 72, _, _, _, _, _⟩) (v := ?_) rfl (by kernel_rfl) (by kernel_rfl) (by kernel_rfl) (fun _ _ _ h => h) (Or.inl ⟨by rfl, ?_⟩) (by assumption) ?_
            rotate_left
            · intro wq hSw; go_simp; (try with_reducible rfl)
            try simp only [Act.put, List.setIfInBounds_toArray, List.set_cons_zero, List.set_cons_succ]
            refine wpAnyH_take (i := 12) (oi := ⟨some 73, _, _, _, _, _⟩) (v := ?_) rfl (by kernel_rfl) (by kernel_rfl) (by kernel_rfl) (fun _ _ _ h => h) (Or.inl ⟨by rfl, ?_⟩) (by assumption) ?_
            rotate_left
            · intro wq hSw; go_simp; (try with_reducible rfl)
            try simp only [Act.put, List.setIfInBounds_toArray, List.set_cons_zero, List.set_cons_succ]
            refine wpAnyH_take (i := 13) (oi := ⟨some 74, _, _, _, _, _⟩) (v := ?_) rfl (by kernel_rfl) (by kernel_rfl) (by kernel_rfl) (fun _ _ _ h => h) (Or.inl ⟨by rfl, ?_⟩) (by assumption) ?_
            rotate_left
            · intro wq hSw; go_simp; (try with_reducible rfl)
            try simp only [Act.put, List.setIfInBounds_toArray, List.set_cons_zero, List.set_cons_succ]
            refine wpAnyH_take (i := 14) (oi := ⟨some 75, _, _, _, _, _⟩) (v := ?_) rfl (by kernel_rfl) (by kernel_rfl) (by kernel_rfl) (fun _ _ _ h => h) (Or.inl ⟨by rfl, ?_⟩) (by assumption) ?_
            rotate_left
            · intro wq hSw; go_simp; (try with_reducible rfl)
            try simp only [Act.put, List.setIfInBounds_toArray, List.set_cons_zero, List.set_cons_succ]
            refine wpAnyH_take (i := 15) (oi := ⟨some 76, _, _, _, _, _⟩) (v := ?_) rfl (by kernel_rfl) (by kernel_rfl) (by kernel_rfl) (fun _ _ _ h => h) (Or.inl ⟨by rfl, ?_⟩) (by assumption) ?_
            rotate_left
            · intro wq hSw; go_simp; (try with_reducible rfl)
            try simp only [Act.put, List.setIfInBounds_toArray, List.set_cons_zero, List.set_cons_succ]
            refine wpAnyH_ready (rs := [4]) (by kernel_rfl) (by simp) ?_
            refine AllReadyH.cons (o := ⟨some 65, _, _, _, _, _⟩) rfl (fun K hK => ?_) AllReadyH.nil
            go_simp
            refine hK.out _ _ (by first | exact hHeld0 | (first | exact hHeld | (refine ⟨by go_grown, ?_⟩; simp [Cells, go_sem]; done))) (fun hHeld1 => ?_)
            clear hK K
            try clear hb
            try simp only [Act.put, List.setIfInBounds_toArray, List.set_cons_zero, List.set_cons_succ]
            refine wpAnyH_take (i := 16) (oi := ⟨some 77, _, _, _, _, _⟩) (v := ?_) rfl (by kernel_rfl) (by kernel_rfl) (by kernel_rfl) (fun _ _ _ h => h) (Or.inl ⟨by rfl, ?_⟩) (by assumption) ?_
            rotate_left
            · intro wq hSw; go_simp; (try with_reducible rfl)
            try simp only [Act.put, List.setIfInBounds_toArray, List.set_cons_zero, List.set_cons_succ]
            refine wpAnyH_take (i := 17) (oi := ⟨some 78, _, _, _, _, _⟩) (v := ?_) rfl (by kernel_rfl) (by kernel_rfl) (by kernel_rfl) (fun _ _ _ h => h) (Or.inl ⟨by rfl, ?_⟩) (by assumption) ?_
            rotate_left
            · intro wq hSw; go_simp; (try with_reducible rfl)
            try simp only [Act.put, List.setIfInBounds_toArray, List.set_cons_zero, List.set_cons_succ]
            refine wpAnyH_take (i := 18) (oi := ⟨some 79, _, _, _, _, _⟩) (v := ?_) rfl (by kernel_rfl) (by kernel_rfl) (by kernel_rfl) (fun _ _ _ h => h) (Or.inl ⟨by rfl, ?_⟩) (by assumption) ?_
            rotate_left
            · intro wq hSw; go_simp; (try with_reducible rfl)
            try simp only [Act.put, List.setIfInBounds_toArray, List.set_cons_zero, List.set_cons_succ]
            refine wpAnyH_ready (rs := [19]) (by kernel_rfl) (by simp) ?_
            refine AllReadyH.cons (o := ⟨none, _, _, _, _, _⟩) rfl (fun K hK => ?_) AllReadyH.nil
            go_simp
            refine hK.out _ _ (⟨((hHeld1).1).setCell (p := ⟨g, k * 3 + 2, none⟩) HGW _, trivial⟩) (fun hHeld2 => ?_)
            clear hK K
            try clear hb
            try simp only [Act.put, List.setIfInBounds_toArray, List.set_cons_zero, List.set_cons_succ]
            refine wpAnyH_done (by kernel_rfl) ?_ _
            have hHeld := hHeld2
            all_goals
              have hO3 := Lib.hid (owns_below (hOa.out.stored (k * 3 + 2) (.int .i64 d2)).1 (Below.refl _ _).drew)
              have hB3 := Lib.hid (Below.drew (hBb.out.setCell (p := ⟨g, k * 3 + 2, none⟩) HG.out (.int .i64 d2)))
              rw [HF1.out, HF2.out, List.set_set] at hO3
              clear hBa hHeld
              go_wp2_with fail
              go_roundw
              case rel => exact ⟨k + 1, _, by simp, gk, HN, hO3, hB3, under B2 hB3.out⟩
              case measure => exact index_less gk
      · have j1 : ¬ (k : Int) < (pl.length : Int) := by omega
        go_wp2_with fail
        go_roundw
        case rel => exact ⟨k + 1, M, by simp, gk, hN, hO, hW, hB⟩
        case measure => exact index_less gk
    · have i1 : ¬ (k : Int) < (m.length : Int) := by omega
      have hkM := hN.out.1
      have hR0 := readsD_own (l := M) (by rw [← hkM]; exact hO.out)
      have CA := Lib.hid (cutOk_any HGK.out _ wr (H2.out.below hW.out))
      have CB := Lib.hid (fun W (hb : Below wr.heap.size wr W) => cutOk_any (hN.out.ok HGK.out) _ W (hR0.below hb))
      have hle := narrows (okD_facts (hN.out.ok HGK.out)).2.2 hN.out.nar
      rw [← cutD_length, ← cutD_length] at hle
      have hle2 : ((cutD m).length : Int) ≤ ((cutD M).length : Int) := by omega
      clear hN hO hW hR0 hle hkM
      go_wp2_with fail
      refine CA.out.mono ?_
      rintro e w5 hh
      obtain ⟨hb5, A5, c5, rfl, _⟩ := hh.open
      clear hh
      go_wp2_with fail
      refine (CB.out w5 hb5).mono ?_
      rintro e w6 hh
      obtain ⟨hb6, A6, c6, rfl, _⟩ := hh.open
      clear hh
      go_wp2_with fail
      go_ret
      exact ⟨rfl, under (under hB hb5) hb6⟩
end Go.Proofs.Ytmkminaipeodnaa.P8
