/-
  Layer 7: sorted rows, and rows without what stands twice. Conditions: those written at each fact.
-/
import Derived.Test.YtlfjmdfplmdmgaaLwB
import Derived.Lib.SliceRun
namespace Go.Proofs.Ytlfjmdfplmdmgaa
open Go.RowKit Go.Shelf

theorem less_any (a b : Int) (w : World) : Calls Try.prog 62 #[.int .i64 a, .int .i64 b] w (Ret w (.bool (decide (a < b)))) := by
  go_enter Try.func62, Try.ntmps62
  go_wp2
  go_ret
  exact ⟨by simp, by go_grown⟩
/-- Does no number stand above the next one, from place k on? -/
def SortedFrom (k : Nat) (l : List Int) : Prop := ∀ (i : Nat) (x y : Int), k ≤ i → l[i]? = some x → l[i + 1]? = some y → x ≤ y
set_option maxRecDepth 100000 in
set_option maxHeartbeats 1000000 in
theorem isSorted_any (l : List Int) (hl : l.length ≤ 1000000) (h1 : 1 ≤ l.length) (v : Value) (w : World) (h : Reads .i64 w v l) : Calls Try.prog 33 #[v] w (fun e w' => ∃ b, e = .returned (.bool b) ∧ (b = true → SortedFrom 0 l) ∧ Below w.heap.size w w') := by
  obtain ⟨A, c, rfl, hc, hk⟩ := h
  have HK := Lib.hid hk
  clear hk
  go_enter Try.func33, Try.ntmps33
  go_wp2_with fail
  go_loopw [3] (fun i wr => ∃ k : Nat, i = .int .i64 k ∧ k < l.length ∧ Hid (SortedFrom k l) ∧ Below w.heap.size w wr) (fun i _ => (intOf i).toNat)
  case atStart =>
    refine ⟨l.length - 1, by congr 1; omega, by omega, Lib.hid (fun i x y hi hx hy => ?_), Below.refl _ _⟩
    have := (List.getElem?_eq_some_iff.1 hy).1
    omega
  case round =>
    obtain ⟨k, rfl, hkl, hS, hB⟩ := hrel
    by_cases g0 : 0 < k
    · obtain ⟨j, hj⟩ : ∃ j, k = j + 1 := ⟨k - 1, by omega⟩
      obtain ⟨x, hx⟩ : ∃ s, l[k]? = some s := ⟨_, List.getElem?_eq_getElem hkl⟩
      obtain ⟨y, hy⟩ : ∃ s, l[j]? = some s := ⟨_, List.getElem?_eq_getElem (by omega)⟩
      obtain ⟨bb, off, rfl, hbw, hc1⟩ := HK.out k _ hx
      obtain ⟨bb', off', hbe, hbw', hp1⟩ := HK.out j _ hy
      cases hbe
      have HX := Lib.hid hc1
      have HY := Lib.hid hp1
      have hS2 : ∀ (hle : y ≤ x), SortedFrom j l := fun hle i a b hi ha hb => by
        by_cases e : i = j
        · subst e
          rw [hy] at ha; cases ha
          rw [← hj, hx] at hb; cases hb
          exact hle
        · exact hS.out i a b (by omega) ha hb
      have HS2 := Lib.hid hS2
      have i1 : (k : Int) < (l.length : Int) := by omega
      have i0 : (0 : Int) ≤ (k : Int) := by omega
      have ik : (0 : Int) < (k : Int) := by omega
      have ek : IntKind.i64.wrap ((k : Int) - 1) = (j : Int) := (by rw [IntKind.wrap_i64]; omega)
      have ej : (k : Int) - 1 = (j : Int) := by omega
      have ij : (j : Int) < (l.length : Int) := by omega
      have j0 : (0 : Int) ≤ (j : Int) := by omega
      have LS := Lib.hid (less_any x y)
      have HJ := Lib.hid hj
      clear hc1 hp1 hx hy hS hS2 hj ej
      go_wp2_with fail
      refine region_keeps (w0 := w) (L := []) (by kernel_rfl) ⟨hB, trivial⟩ (fun hHeld0 => ?_)
      refine wpAnyH_take (i := 0) (oi := ⟨some 11, _, _, _, _, _⟩) (v := ?_) rfl (by kernel_rfl) (by kernel_rfl) (by kernel_rfl) (fun _ _ _ h => h) (Or.inl ⟨by rfl, ?_⟩) (by assumption) ?_
      rotate_left
      · intro wq hSw; go_simp; (try with_reducible rfl)
      try simp only [Act.put, List.setIfInBounds_toArray, List.set_cons_zero, List.set_cons_succ]
      refine wpAnyH_take (i := 1) (oi := ⟨some 12, _, _, _, _, _⟩) (v := ?_) rfl (by kernel_rfl) (by kernel_rfl) (by kernel_rfl) (fun _ _ _ h => h) (Or.inl ⟨by rfl, ?_⟩) (by assumption) ?_
      rotate_left
      · intro wq hSw; go_simp; (try with_reducible rfl)
      try simp only [Act.put, List.setIfInBounds_toArray, List.set_cons_zero, List.set_cons_succ]
      refine wpAnyH_take (i := 2) (oi := ⟨some 13, _, _, _, _, _⟩) (v := ?_) rfl (by kernel_rfl) (by kernel_rfl) (by kernel_rfl) (fun _ _ _ h => h) (Or.inl ⟨by rfl, ?_⟩) (by assumption) ?_
      rotate_left
      · intro wq hSw; go_simp; (try with_reducible rfl)
      try simp only [Act.put, List.setIfInBounds_toArray, List.set_cons_zero, List.set_cons_succ]
      refine wpAnyH_take (i := 3) (oi := ⟨some 14, _, _, _, _, _⟩) (v := ?_) rfl (by kernel_rfl) (by kernel_rfl) (by kernel_rfl) (fun _ _ _ h => h) (Or.inl ⟨by rfl, ?_⟩) (by assumption) ?_
      rotate_left
      · intro wq hSw; obtain _ := hSw.2; have x1 := (hSw.1.cell (p := ⟨bb, off + k, none⟩) hbw).trans HX.out; have x2 := (hSw.1.cell (p := ⟨bb, off + j, none⟩) hbw).trans HY.out; go_simp; (try with_reducible rfl)
      try simp only [Act.put, List.setIfInBounds_toArray, List.set_cons_zero, List.set_cons_succ]
      refine wpAnyH_take (i := 4) (oi := ⟨some 15, _, _, _, _, _⟩) (v := ?_) rfl (by kernel_rfl) (by kernel_rfl) (by kernel_rfl) (fun _ _ _ h => h) (Or.inl ⟨by rfl, ?_⟩) (by assumption) ?_
      rotate_left
      · intro wq hSw; go_simp; (try with_reducible rfl)
      try simp only [Act.put, List.setIfInBounds_toArray, List.set_cons_zero, List.set_cons_succ]
      refine wpAnyH_take (i := 5) (oi := ⟨some 16, _, _, _, _, _⟩) (v := ?_) rfl (by kernel_rfl) (by kernel_rfl) (by kernel_rfl) (fun _ _ _ h => h) (Or.inl ⟨by rfl, ?_⟩) (by assumption) ?_
      rotate_left
      · intro wq hSw; go_simp; (try with_reducible rfl)
      try simp only [Act.put, List.setIfInBounds_toArray, List.set_cons_zero, List.set_cons_succ]
      refine wpAnyH_take (i := 6) (oi := ⟨some 17, _, _, _, _, _⟩) (v := ?_) rfl (by kernel_rfl) (by kernel_rfl) (by kernel_rfl) (fun _ _ _ h => h) (Or.inl ⟨by rfl, ?_⟩) (by assumption) ?_
      rotate_left
      · intro wq hSw; go_simp; (try with_reducible rfl)
      try simp only [Act.put, List.setIfInBounds_toArray, List.set_cons_zero, List.set_cons_succ]
      refine wpAnyH_take (i := 7) (oi := ⟨some 18, _, _, _, _, _⟩) (v := ?_) rfl (by kernel_rfl) (by kernel_rfl) (by kernel_rfl) (fun _ _ _ h => h) (Or.inl ⟨by rfl, ?_⟩) (by assumption) ?_
      rotate_left
      · intro wq hSw; go_simp; (try with_reducible rfl)
      try simp only [Act.put, List.setIfInBounds_toArray, List.set_cons_zero, List.set_cons_succ]
      refine wpAnyH_take (i := 8) (oi := ⟨some 19, _, _, _, _, _⟩) (v := ?_) rfl (by kernel_rfl) (by kernel_rfl) (by kernel_rfl) (fun _ _ _ h => h) (Or.inl ⟨by rfl, ?_⟩) (by assumption) ?_
      rotate_left
      · intro wq hSw; obtain _ := hSw.2; have x1 := (hSw.1.cell (p := ⟨bb, off + k, none⟩) hbw).trans HX.out; have x2 := (hSw.1.cell (p := ⟨bb, off + j, none⟩) hbw).trans HY.out; go_simp; (try with_reducible rfl)
      try simp only [Act.put, List.setIfInBounds_toArray, List.set_cons_zero, List.set_cons_succ]
      refine wpAnyH_ready (rs := [9]) (by kernel_rfl) (by simp) ?_
      refine AllReadyH.cons (o := ⟨some 20, _, _, _, _, _⟩) rfl (fun K hK => ?_) AllReadyH.nil
      go_simp
      (with_reducible refine (LS.out _).mono ?_); rintro e w5 ⟨rfl, hb⟩
      refine hK.out _ _ (hHeld0.next hb) (fun hHeld1 => ?_)
      clear hK K
      try clear hb
      try simp only [Act.put, List.setIfInBounds_toArray, List.set_cons_zero, List.set_cons_succ]
      refine wpAnyH_done (by kernel_rfl) ?_ _
      have hHeld := hHeld1
      all_goals
        by_cases gl : x < y
        · go_wp2_with fail
          go_ret
          exact ⟨false, rfl, (fun h => by cases h), hHeld.1⟩
        · have HS3 := Lib.hid (HS2.out (by omega))
          have gl2 : decide (x < y) = false := decide_eq_false gl
          clear HS2
          go_wp2_with fail
          go_roundw
          case rel => exact ⟨j, rfl, by omega, HS3, hHeld.1⟩
          case measure => have := HJ.out; simp [intOf]; omega
    · have hk0 : k = 0 := by omega
      subst hk0
      have HS := Lib.hid hS.out
      clear hS
      go_wp2_with fail
      go_ret
      exact ⟨true, rfl, fun _ => HS.out, hB⟩
/-- n numbers that may be written lie at block g. -/
def Ints (W : World) (g n : Nat) : Prop := g < W.heap.size ∧ ∀ j, j < n → (∃ z, W.cell? ⟨g, j, none⟩ = some (.int .i64 z)) ∧ W.frozen? ⟨g, j, none⟩ = false
theorem Ints.below {W W' : World} {g n : Nat} (h : Ints W g n) (hb : Below W.heap.size W W') : Ints W' g n :=
  ⟨Nat.lt_of_lt_of_le h.1 hb.size, fun j hj => by
    obtain ⟨⟨z, h1⟩, h2⟩ := h.2 j hj
    exact ⟨⟨z, (hb.cell (p := ⟨g, j, none⟩) h.1).trans h1⟩, (hb.frozen (p := ⟨g, j, none⟩) h.1).trans h2⟩⟩
theorem Ints.set {W : World} {g n m : Nat} {x : Int} (h : Ints W g n) : Ints (W.setCell ⟨g, m, none⟩ (.int .i64 x)) g n :=
  ⟨by simpa [World.setCell] using h.1, fun j hj => by
    obtain ⟨⟨z, h1⟩, h2⟩ := h.2 j hj
    refine ⟨?_, by rw [World.frozen?_setCell]; exact h2⟩
    by_cases e : m = j
    · subst e; exact ⟨x, World.cell?_setCell_same' _ _ _ (by rw [h1]; rfl)⟩
    · exact ⟨z, (World.cell?_setCell_other _ _ _ _ (by intro e2; cases e2; exact e rfl)).trans h1⟩⟩
def Shorter (B n : Nat) (w : World) (e : Ending) (w' : World) : Prop := ∃ A m c, e = .returned (.slice A m c) ∧ m < n ∧ Below B w w'
set_option maxRecDepth 100000 in
set_option maxHeartbeats 2000000 in
theorem compact_any (l : List Int) (n cap : Nat) (hln : l.length = n) (h2 : 2 ≤ n) (hn : n ≤ 1000000) (hcap : n ≤ cap) (g B : Nat) (hB : B ≤ g) (w : World) (hI : Ints w g n) (hc : ∀ i x, l[i]? = some x → w.cell? ⟨g, i, none⟩ = some (.int .i64 x)) (hd : ∃ i x, l[i]? = some x ∧ l[i + 1]? = some x) :
    Calls Try.prog 34 #[.slice (some ⟨g, 0, none⟩) n cap] w (Shorter B n w) := by
  have HC := Lib.hid hc
  have HD := Lib.hid hd
  have HI := Lib.hid hI
  have hg := hI.1
  have i2 : ¬ (n : Int) < 2 := by omega
  clear hc hd hI
  go_enter Try.func34, Try.ntmps34
  go_wp2_with fail
  go_loopw [3] (fun i wr => ∃ k : Nat, i = .int .i64 k ∧ 1 ≤ k ∧ k ≤ n ∧ Hid (∀ i x, i + 1 < k → l[i]? = some x → ¬ l[i + 1]? = some x) ∧ Below w.heap.size w wr) (fun i _ => n - (intOf i).toNat)
  case atStart => exact ⟨1, rfl, by omega, by omega, Lib.hid (fun i x hi => by omega), Below.refl _ _⟩
  case round =>
    obtain ⟨k, rfl, hk1, hkn, hN, hBl⟩ := hrel
    by_cases gk : k < n
    · obtain ⟨j, hj⟩ : ∃ j, k = j + 1 := ⟨k - 1, by omega⟩
      obtain ⟨x, hx⟩ : ∃ s, l[k]? = some s := ⟨_, List.getElem?_eq_getElem (by omega)⟩
      obtain ⟨y, hy⟩ : ∃ s, l[j]? = some s := ⟨_, List.getElem?_eq_getElem (by omega)⟩
      have c1 := (hBl.cell (p := ⟨g, k, none⟩) hg).trans (HC.out _ _ hx)
      have c2 := (hBl.cell (p := ⟨g, j, none⟩) hg).trans (HC.out _ _ hy)
      have i1 : (k : Int) < (n : Int) := by omega
      have i0 : (0 : Int) ≤ (k : Int) := by omega
      have ek : IntKind.i64.wrap ((k : Int) - 1) = (j : Int) := (by rw [IntKind.wrap_i64]; omega)
      have ew : wrap64 ((k : Int) - 1) = (j : Int) := (i64_keeps (by omega) (by omega)).trans (by omega)
      have ij : (j : Int) < (n : Int) := by omega
      have j0 : (0 : Int) ≤ (j : Int) := by omega
      by_cases ge : x = y
      · subst ge
        clear hN hx hy hj HC HD
        have I0 : Hid (Ints wr g n) := Lib.hid (HI.out.below hBl)
        clear HI
        go_wp2_with fail
        go_quiet (fail)
        go_wp2_with fail
        have IZ : Hid (Ints (wr.drewN nq) g n) := Lib.hid (I0.out.below (below_drewN (Below.refl _ _) nq))
        have BZ : Hid (Below B w (wr.drewN nq)) := Lib.hid ((below_drewN hBl nq).mono (by omega))
        obtain ⟨N, hN⟩ : ∃ N, n - k = N := ⟨_, rfl⟩
        rw [hN]
        generalize wr.drewN nq = wz at *
        clear I0 c1 c2 ek ew ij j0 i1 i0
        go_loopw [3, 5] (fun a b wi => ∃ m q : Nat, a = .int .i64 m ∧ b = .int .i64 q ∧ k ≤ m ∧ m + 1 ≤ k + q ∧ 1 ≤ q ∧ q ≤ N ∧ Hid (Ints wi g n) ∧ Hid (Below B w wi)) (fun _ b _ => N - (intOf b).toNat)
        case atStart => exact ⟨k, 1, rfl, rfl, Nat.le_refl _, Nat.le_refl _, Nat.le_refl _, by omega, IZ, BZ⟩
        case round =>
          obtain ⟨m, q, rfl, rfl, hkm, hmq, hq1, hqN, hI, hBw⟩ := hrel
          clear IZ BZ
          by_cases gq : q < N
          · obtain ⟨j2, hj2⟩ : ∃ j2, q = j2 + 1 := ⟨q - 1, by omega⟩
            obtain ⟨⟨z1, c1⟩, f1⟩ := hI.out.2 (k + q) (by omega)
            obtain ⟨⟨z2, c2⟩, f2⟩ := hI.out.2 (k + j2) (by omega)
            obtain ⟨⟨z3, c3⟩, f3⟩ := hI.out.2 m (by omega)
            have i1 : (q : Int) < (N : Int) := by omega
            have i0 : (0 : Int) ≤ (q : Int) := by omega
            have ek : IntKind.i64.wrap ((q : Int) - 1) = (j2 : Int) := (by rw [IntKind.wrap_i64]; omega)
            have ew : wrap64 ((q : Int) - 1) = (j2 : Int) := (i64_keeps (by omega) (by omega)).trans (by omega)
            have ij : (j2 : Int) < (N : Int) := by omega
            have j0 : (0 : Int) ≤ (j2 : Int) := by omega
            have m0 : (0 : Int) ≤ (m : Int) := by omega
            have m1 : (m : Int) < (n : Int) := by omega
            have hq9 : q ≤ 1000000 := by omega
            have hm9 : m ≤ 1000000 := by omega
            have HQ := Lib.hid (show q + 1 ≤ N ∧ m + 1 + 1 ≤ k + (q + 1) ∧ m + 1 ≤ k + (q + 1) from ⟨by omega, by omega, by omega⟩)
            clear hj2 hN f1 f2
            by_cases gz : z1 = z2
            · subst gz
              have t1 : (z1 != z1) = false := by simp
              have I2 : Hid (∀ nq, Ints (wr.drewN nq) g n) := Lib.hid (fun nq => hI.out.below (below_drewN (Below.refl _ _) nq))
              have B2 : Hid (∀ nq, Below B w (wr.drewN nq)) := Lib.hid (fun nq => below_drewN hBw.out nq)
              clear hI hBw
              go_wp2_with fail
              go_quiet (fail)
              go_wp2_with fail
              go_roundw
              case rel => exact ⟨m, q + 1, rfl, by simp, hkm, HQ.out.2.2, by omega, HQ.out.1, Lib.hid (I2.out _), Lib.hid (B2.out _)⟩
              case measure => simp [intOf]; omega
            · have t1 : (z1 != z2) = true := bne_iff_ne.2 gz
              have I2 : Hid (∀ nq, Ints ((wr.drewN nq).setCell ⟨g, m, none⟩ (.int .i64 z1)) g n) := Lib.hid (fun nq => (hI.out.below (below_drewN (Below.refl _ _) nq)).set)
              have B2 : Hid (∀ nq, Below B w ((wr.drewN nq).setCell ⟨g, m, none⟩ (.int .i64 z1))) := Lib.hid (fun nq => (below_drewN hBw.out nq).setCell (p := ⟨g, m, none⟩) hB _)
              clear hI hBw gz
              go_wp2_with fail
              go_quiet (fail)
              go_wp2_with fail
              go_roundw
              case rel => exact ⟨m + 1, q + 1, by simp, by simp, by omega, HQ.out.2.1, by omega, HQ.out.1, Lib.hid (I2.out _), Lib.hid (B2.out _)⟩
              case measure => simp [intOf]; omega
          · have i1 : ¬ (q : Int) < (N : Int) := by omega
            have hmn : m < n := by omega
            have hcl : ∀ ty, (Builtin.clear_ #[26] ty #[.slice (some ⟨g, m, none⟩) (n - m) (cap - m)]).run Try.prog wr = .ok (.tuple #[]) (wr.setCells g m (List.replicate (n - m) (.int .i64 0))) := fun ty =>
              Lib.run_clear_slice wr 26 2 ty (.int .i64 0) Try.underlying26 (fun w => by kernel_rfl) rfl rfl g m (n - m) (cap - m) (by omega) (fun j hj => by
                obtain ⟨⟨z, h1⟩, _⟩ := hI.out.2 (m + j) (by omega)
                rw [h1]; rfl) (fun j hj => (hI.out.2 (m + j) (by omega)).2)
            have BF : Hid (Below B w (wr.setCells g m (List.replicate (n - m) (.int .i64 0)))) := Lib.hid (Lib.below_setCells g hB _ m hBw.out)
            generalize wr.setCells g m (List.replicate (n - m) (.int .i64 0)) = wf at *
            have m0 : (0 : Int) ≤ (m : Int) := by omega
            have m1 : (m : Int) ≤ (n : Int) := by omega
            have m2 : m ≤ n := by omega
            have m3 : m < cap := by omega
            have m4 : (m : Int) ≤ (cap : Int) := by omega
            have m5 : (n : Int) ≤ (cap : Int) := by omega
            clear hI hBw hN
            go_wp2_with fail
            go_ret
            exact ⟨_, _, _, rfl, hmn, BF.out⟩
      · have hN2 : Hid (∀ i x, i + 1 < k + 1 → l[i]? = some x → ¬ l[i + 1]? = some x) := Lib.hid (fun i z hi hz hz2 => by
          by_cases e : i = j
          · subst e
            rw [hy] at hz; cases hz
            rw [← hj, hx] at hz2; cases hz2
            exact ge rfl
          · exact hN.out i z (by omega) hz hz2)
        have t1 : (x == y) = false := beq_eq_false_iff_ne.2 ge
        clear hN hx hy hj ge
        go_wp2_with fail
        go_quiet (fail)
        go_wp2_with fail
        go_roundw
        case rel => exact ⟨k + 1, by simp, by omega, by omega, hN2, below_drewN hBl _⟩
        case measure => simp [intOf]; omega
    · exfalso
      obtain ⟨i, x, h3, h4⟩ := HD.out
      have := (List.getElem?_eq_some_iff.1 h4).1
      exact hN.out i x (by omega) h3 h4
end Go.Proofs.Ytlfjmdfplmdmgaa
