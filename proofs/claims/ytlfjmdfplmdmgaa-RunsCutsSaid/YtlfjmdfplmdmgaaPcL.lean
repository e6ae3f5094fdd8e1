/-
  Layer 7: the document's own answer: the parts of runs. Conditions: those written at each fact.
-/
import Derived.Test.YtlfjmdfplmdmgaaPcM
import Derived.Test.YtlfjmdfplmdmgaaRfT
namespace Go.Proofs.Ytlfjmdfplmdmgaa
open Go.RowKit

/-- A run in its block. -/
def RunAt (W : World) (g : Nat) (x s y : Int) : Prop := RowAt W g [⟨x, s, y⟩]
theorem RunAt.cells {W : World} {g : Nat} {x s y : Int} (h : RunAt W g x s y) : g < W.heap.size ∧ W.cell? ⟨g, 0, none⟩ = some (.int .i64 x) ∧ W.cell? ⟨g, 1, none⟩ = some (.int .i64 s) ∧ W.cell? ⟨g, 2, none⟩ = some (.int .i64 y) ∧ W.frozen? ⟨g, 0, none⟩ = false ∧ W.frozen? ⟨g, 2, none⟩ = false := by
  obtain ⟨h1, h2, h3, h4, h5⟩ := RowAt.cells h (k := 0) (r := ⟨x, s, y⟩) rfl
  exact ⟨h1, h2, h3, h4, h5 0, h5 2⟩
theorem RunAt.setC {W : World} {g : Nat} {x s y : Int} (h : RunAt W g x s y) (u : Int) : RunAt (W.setCell ⟨g, 2, none⟩ (.int .i64 u)) g x s u := RowAt.setC h (k := 0) (r := ⟨x, s, y⟩) rfl u
theorem RunAt.setF {W : World} {g : Nat} {x s y : Int} (h : RunAt W g x s y) (u : Int) : RunAt (W.setCell ⟨g, 0, none⟩ (.int .i64 u)) g u s y := RowAt.setF h (k := 0) (r := ⟨x, s, y⟩) rfl u
theorem RunAt.new (W : World) (x s y : Int) : RunAt (W.alloc (.cells #[.int .i64 x, .int .i64 s, .int .i64 y] 36)) W.heap.size x s y := World.alloc_heap_new W _
theorem total_more {l : List Rn} {k : Nat} {r : Rn} (h : l[k]? = some r) : totalR (l.take (k + 1)) = totalR (l.take k) + r.c := by
  obtain ⟨a1, e1⟩ := List.getElem?_eq_some_iff.1 h
  rw [List.take_succ_eq_append_getElem a1, e1, totalR_app]
  simp [totalR]
theorem total_part {l : List Rn} (h : ∀ r ∈ l, 1 ≤ r.c) (k : Nat) : totalR (l.take k) ≤ totalR l := by
  have e := totalR_app (l.take k) (l.drop k)
  rw [List.take_append_drop] at e
  have := totalR_pos (l := l.drop k) (fun r hr => by have := h r (List.mem_of_mem_drop hr); omega)
  omega

set_option maxRecDepth 100000 in
set_option maxHeartbeats 4000000 in
theorem refPieces_any (l : List Rn) (hR : ∀ r ∈ l, RunOk r) (ht : totalR l ≤ 256) (hl : l.length ≤ 256) (i j : Int) (_ : 0 ≤ i) (h1 : i < j) (h2 : j ≤ totalR l) (v : Value) (w : World) (h : ReadsR w v l) : Calls Try.prog 31 #[v, .int .i64 i, .int .i64 j] w (LaidR w (pcsR l i j)) := by
  obtain ⟨i0, hi, hz0, hz1, hz2⟩ := info_parts infoRun
  obtain ⟨A, c, rfl, hc, hk⟩ := h
  have HK := Lib.hid hk
  have HR := Lib.hid hR
  have H1 : Hid (∀ r ∈ l, 1 ≤ r.c) := Lib.hid (fun r hr => (hR r hr).1)
  have hj : j ≤ 256 := by omega
  have HT := Lib.hid ht
  clear hk hR h2 ht
  go_enter Try.func31, Try.ntmps31
  go_wp2_with fail
  go_loopw [7, 8, 9] (fun u pp i' wr => ∃ (k p : Nat) (Q : List Rn), i' = .int .i64 k ∧ pp = .int .i64 p ∧ k ≤ l.length ∧ p ≤ 256 ∧ Q.length ≤ k ∧ Hid (totalR (l.take k) = p ∧ pcsR l i j = Q ++ pcsR (l.drop k) (i - p) (j - p)) ∧ Hid (wr.ownsRow w.heap.size 36 3 u Q.length (flatR Q)) ∧ Below w.heap.size w wr) (fun _ _ i' _ => l.length - (intOf i').toNat)
  case atStart => exact ⟨0, 0, [], rfl, rfl, by omega, by omega, Nat.le_refl _, Lib.hid ⟨rfl, by simp⟩, Lib.hid (World.ownsRow_nil _ _ _ _), Below.refl _ _⟩
  case round =>
    obtain ⟨k, p, Q, rfl, rfl, hkl, hp, hQ, HI, HO, hB⟩ := hrel
    by_cases gk : k < l.length
    · obtain ⟨⟨f, s, d⟩, hx⟩ : ∃ s, l[k]? = some s := ⟨_, List.getElem?_eq_getElem gk⟩
      obtain ⟨bb, off, rfl, hbw, hc1, hc2, hc3⟩ := HK.out k _ hx
      have c2 := (hB.cell (p := ⟨bb, off + k * 3 + 1, none⟩) hbw).trans hc2
      have j1 : (k : Int) < (l.length : Int) := by omega
      have j0 : (0 : Int) ≤ (k : Int) := by omega
      obtain ⟨r1, r2, r3, r4, r5, r6, r7⟩ := HR.out _ (List.mem_of_getElem? hx)
      simp only at c2 hc1 hc3 r1 r2 r3 r4 r5 r6 r7
      have HPS := Lib.hid (pcs_step (i := i) (j := j) (p := (p : Int)) hx)
      have hpd : (p : Int) + d ≤ 256 := by have t1 := total_part H1.out (k + 1); rw [total_more hx, HI.out.1] at t1; have t2 := HT.out; simp only at t1; omega
      have HTM : Hid (totalR (l.take (k + 1)) = (p : Int) + d) := Lib.hid (by rw [total_more hx, HI.out.1])
      have HC1 := Lib.hid hc1
      have HC2 := Lib.hid hc2
      have HC3 := Lib.hid hc3
      clear hc1 hc2 hc3 hx
      go_wp2_with fail
      obtain ⟨wo, rfl⟩ : ∃ wo : World, wo = wr := ⟨_, rfl⟩
      go_loopw [8, 11] (fun pp n' wi => ∃ (n q : Nat) (x y : Int), n' = .int .i64 n ∧ pp = .int .i64 q ∧ q = p + n ∧ (n : Int) ≤ d ∧ Hid (RunAt wi wo.heap.size x s y ∧ x = frP f s i j p n) ∧ y = cntP i j p n ∧ Below wo.heap.size wo wi) (fun _ n' _ => (d - intOf n').toNat)
      case atStart => exact ⟨0, p, 0, 0, rfl, rfl, rfl, by omega, Lib.hid ⟨RunAt.new _ _ _ _, (fr_zero _ _ _ _ _).symm⟩, (cnt_zero _ _ _).symm, below_alloc wo _⟩
      case round =>
        obtain ⟨n, q, x, y, rfl, rfl, hq, hnd, HA, hy, hBi⟩ := hrel
        have hB2 := under hB hBi
        have c3 := (hB2.cell (p := ⟨bb, off + k * 3 + 2, none⟩) hbw).trans HC3.out
        have n0 : (0 : Int) ≤ (n : Int) := by omega
        have hq' : (p : Int) + (n : Int) = (q : Int) := by omega
        obtain ⟨y0, y1⟩ := cnt_small i j (p : Int) n0
        rw [← hy] at y0 y1
        have hq9 : q ≤ 256 := by omega
        have HQ : Hid (q + 1 = p + (n + 1)) := Lib.hid (by omega)
        have HGW : w.heap.size ≤ wo.heap.size := hB.size
        by_cases gn : (n : Int) < d
        · by_cases gab : (q : Int) < i ∨ j ≤ (q : Int)
          · have HY : Hid (y = cntP i j p ((n : Int) + 1)) := Lib.hid (by rw [cnt_out n0 (by omega)]; exact hy)
            have HX : Hid (x = frP f s i j p ((n : Int) + 1)) := Lib.hid (by rw [fr_out n0 (by omega)]; exact HA.out.2)
            have HA1 := Lib.hid HA.out.1
            clear HA hy hq hq'
            rcases gab with ga | gb
            · have g1 : ¬ i ≤ (q : Int) := by omega
              go_wp2_with fail
              go_roundw
              case rel => exact ⟨n + 1, q + 1, x, y, by simp, by simp, HQ.out, by omega, Lib.hid ⟨HA1.out, by rw [HX.out]; rfl⟩, by rw [HY.out]; rfl, hBi⟩
              case measure => simp [intOf]; omega
            · have g1 : i ≤ (q : Int) := by omega
              have g2 : ¬ (q : Int) < j := by omega
              go_wp2_with fail
              go_roundw
              case rel => exact ⟨n + 1, q + 1, x, y, by simp, by simp, HQ.out, by omega, Lib.hid ⟨HA1.out, by rw [HX.out]; rfl⟩, by rw [HY.out]; rfl, hBi⟩
              case measure => simp [intOf]; omega
          · have g1 : i ≤ (q : Int) := by omega
            have g2 : (q : Int) < j := by omega
            have HY : Hid (y + 1 = cntP i j p ((n : Int) + 1)) := Lib.hid (by rw [(cnt_in n0 (by omega) (by omega)).1, hy])
            obtain ⟨b1, b2, b3, b4, b5, b6⟩ := HA.out.1.cells
            by_cases gy : y = 0
            · have HX : Hid (f + (n : Int) * s = frP f s i j p ((n : Int) + 1)) := Lib.hid (by rw [fr_first n0 (by omega) (by omega) (hy.symm.trans gy)])
              subst gy
              have HA1 := Lib.hid HA.out.1
              obtain ⟨sm1, sm2⟩ := small_step (s := s) (c := d) (by omega) (by omega) (by omega) gn
              have wk1 : IntKind.i64.wrap ((n : Int) * s) = (n : Int) * s := by rw [IntKind.wrap_i64]; omega
              have wk2 : IntKind.i64.wrap (f + (n : Int) * s) = f + (n : Int) * s := by rw [IntKind.wrap_i64]; omega
              clear HA hy gab hq hq' sm1 sm2
              go_wp2_with fail
              refine region_keeps (w0 := w) (L := []) (by kernel_rfl) ⟨hB2, trivial⟩ (fun hHeld0 => ?_)
              refine wpAnyH_take (i := 0) (oi := ⟨some 44, _, _, _, _, _⟩) (v := ?_) rfl (by kernel_rfl) (by kernel_rfl) (by kernel_rfl) (fun _ _ _ h => h) (Or.inl ⟨by rfl, ?_⟩) (by assumption) ?_
              rotate_left
              · intro wq hSw; go_simp; (try with_reducible rfl)
              try simp only [Act.put, List.setIfInBounds_toArray, List.set_cons_zero, List.set_cons_succ]
              refine wpAnyH_take (i := 1) (oi := ⟨some 45, _, _, _, _, _⟩) (v := ?_) rfl (by kernel_rfl) (by kernel_rfl) (by kernel_rfl) (fun _ _ _ h => h) (Or.inl ⟨by rfl, ?_⟩) (by assumption) ?_
              rotate_left
              · intro wq hSw; go_simp; (try with_reducible rfl)
              try simp only [Act.put, List.setIfInBounds_toArray, List.set_cons_zero, List.set_cons_succ]
              refine wpAnyH_take (i := 2) (oi := ⟨some 46, _, _, _, _, _⟩) (v := ?_) rfl (by kernel_rfl) (by kernel_rfl) (by kernel_rfl) (fun _ _ _ h => h) (Or.inl ⟨by rfl, ?_⟩) (by assumption) ?_
              rotate_left
              · intro wq hSw; go_simp; (try with_reducible rfl)
              try simp only [Act.put, List.setIfInBounds_toArray, List.set_cons_zero, List.set_cons_succ]
              refine wpAnyH_take (i := 3) (oi := ⟨some 47, _, _, _, _, _⟩) (v := ?_) rfl (by kernel_rfl) (by kernel_rfl) (by kernel_rfl) (fun _ _ _ h => h) (Or.inl ⟨by rfl, ?_⟩) (by assumption) ?_
              rotate_left
              · intro wq hSw; go_simp; (try with_reducible rfl)
              try simp only [Act.put, List.setIfInBounds_toArray, List.set_cons_zero, List.set_cons_succ]
              refine wpAnyH_take (i := 4) (oi := ⟨some 48, _, _, _, _, _⟩) (v := ?_) rfl (by kernel_rfl) (by kernel_rfl) (by kernel_rfl) (fun _ _ _ h => h) (Or.inl ⟨by rfl, ?_⟩) (by assumption) ?_
              rotate_left
              · intro wq hSw; obtain _ := hSw.2; have x1 := (hSw.1.cell (p := ⟨bb, off + k * 3, none⟩) hbw).trans HC1.out; have x2 := (hSw.1.cell (p := ⟨bb, off + k * 3 + 1, none⟩) hbw).trans HC2.out; go_simp; (try with_reducible rfl)
              try simp only [Act.put, List.setIfInBounds_toArray, List.set_cons_zero, List.set_cons_succ]
              refine wpAnyH_take (i := 5) (oi := ⟨some 49, _, _, _, _, _⟩) (v := ?_) rfl (by kernel_rfl) (by kernel_rfl) (by kernel_rfl) (fun _ _ _ h => h) (Or.inl ⟨by rfl, ?_⟩) (by assumption) ?_
              rotate_left
              · intro wq hSw; go_simp; (try with_reducible rfl)
              try simp only [Act.put, List.setIfInBounds_toArray, List.set_cons_zero, List.set_cons_succ]
              refine wpAnyH_take (i := 6) (oi := ⟨some 50, _, _, _, _, _⟩) (v := ?_) rfl (by kernel_rfl) (by kernel_rfl) (by kernel_rfl) (fun _ _ _ h => h) (Or.inl ⟨by rfl, ?_⟩) (by assumption) ?_
              rotate_left
              · intro wq hSw; go_simp; (try with_reducible rfl)
              try simp only [Act.put, List.setIfInBounds_toArray, List.set_cons_zero, List.set_cons_succ]
              refine wpAnyH_take (i := 7) (oi := ⟨some 51, _, _, _, _, _⟩) (v := ?_) rfl (by kernel_rfl) (by kernel_rfl) (by kernel_rfl) (fun _ _ _ h => h) (Or.inl ⟨by rfl, ?_⟩) (by assumption) ?_
              rotate_left
              · intro wq hSw; go_simp; (try with_reducible rfl)
              try simp only [Act.put, List.setIfInBounds_toArray, List.set_cons_zero, List.set_cons_succ]
              refine wpAnyH_take (i := 8) (oi := ⟨some 52, _, _, _, _, _⟩) (v := ?_) rfl (by kernel_rfl) (by kernel_rfl) (by kernel_rfl) (fun _ _ _ h => h) (Or.inl ⟨by rfl, ?_⟩) (by assumption) ?_
              rotate_left
              · intro wq hSw; go_simp; (try with_reducible rfl)
              try simp only [Act.put, List.setIfInBounds_toArray, List.set_cons_zero, List.set_cons_succ]
              refine wpAnyH_take (i := 9) (oi := ⟨some 53, _, _, _, _, _⟩) (v := ?_) rfl (by kernel_rfl) (by kernel_rfl) (by kernel_rfl) (fun _ _ _ h => h) (Or.inl ⟨by rfl, ?_⟩) (by assumption) ?_
              rotate_left
              · intro wq hSw; go_simp; (try with_reducible rfl)
              try simp only [Act.put, List.setIfInBounds_toArray, List.set_cons_zero, List.set_cons_succ]
              refine wpAnyH_take (i := 10) (oi := ⟨some 54, _, _, _, _, _⟩) (v := ?_) rfl (by kernel_rfl) (by kernel_rfl) (by kernel_rfl) (fun _ _ _ h => h) (Or.inl ⟨by rfl, ?_⟩) (by assumption) ?_
              rotate_left
              · intro wq hSw; obtain _ := hSw.2; have x1 := (hSw.1.cell (p := ⟨bb, off + k * 3, none⟩) hbw).trans HC1.out; have x2 := (hSw.1.cell (p := ⟨bb, off + k * 3 + 1, none⟩) hbw).trans HC2.out; go_simp; (try with_reducible rfl)
              try simp only [Act.put, List.setIfInBounds_toArray, List.set_cons_zero, List.set_cons_succ]
              refine wpAnyH_take (i := 11) (oi := ⟨some 55, _, _, _, _, _⟩) (v := ?_) rfl (by kernel_rfl) (by kernel_rfl) (by kernel_rfl) (fun _ _ _ h => h) (Or.inl ⟨by rfl, ?_⟩) (by assumption) ?_
              rotate_left
              · intro wq hSw; go_simp; (try with_reducible rfl)
              try simp only [Act.put, List.setIfInBounds_toArray, List.set_cons_zero, List.set_cons_succ]
              refine wpAnyH_take (i := 12) (oi := ⟨some 56, _, _, _, _, _⟩) (v := ?_) rfl (by kernel_rfl) (by kernel_rfl) (by kernel_rfl) (fun _ _ _ h => h) (Or.inl ⟨by rfl, ?_⟩) (by assumption) ?_
              rotate_left
              · intro wq hSw; go_simp; (try with_reducible rfl)
              try simp only [Act.put, List.setIfInBounds_toArray, List.set_cons_zero, List.set_cons_succ]
              refine wpAnyH_take (i := 13) (oi := ⟨some 57, _, _, _, _, _⟩) (v := ?_) rfl (by kernel_rfl) (by kernel_rfl) (by kernel_rfl) (fun _ _ _ h => h) (Or.inl ⟨by rfl, ?_⟩) (by assumption) ?_
              rotate_left
              · intro wq hSw; go_simp; (try with_reducible rfl)
              try simp only [Act.put, List.setIfInBounds_toArray, List.set_cons_zero, List.set_cons_succ]
              refine wpAnyH_ready (rs := [14]) (by kernel_rfl) (by simp) ?_
              refine AllReadyH.cons (o := ⟨none, _, _, _, _, _⟩) rfl (fun K hK => ?_) AllReadyH.nil
              go_simp
              refine hK.out _ _ (⟨((hHeld0).1).setCell (p := ⟨wo.heap.size, 0, none⟩) HGW _, trivial⟩) (fun hHeld1 => ?_)
              clear hK K
              try clear hb
              try simp only [Act.put, List.setIfInBounds_toArray, List.set_cons_zero, List.set_cons_succ]
              refine wpAnyH_done (by kernel_rfl) ?_ _
              have hHeld := hHeld1
              all_goals
                have RA : RunAt (wr.setCell ⟨wo.heap.size, 0, none⟩ (.int .i64 (f + (n : Int) * s))).drew wo.heap.size (f + (n : Int) * s) s 0 := HA1.out.setF _
                have BA := (hBi.setCell (p := ⟨wo.heap.size, 0, none⟩) (Nat.le_refl _) (.int .i64 (f + (n : Int) * s))).drew
                clear hHeld hHeld0 hHeld1 HA1 b1 b2 b3 b4 b5 b6 c2 c3 hB2 hBi wk1 wk2
                generalize (wr.setCell ⟨wo.heap.size, 0, none⟩ (.int .i64 (f + (n : Int) * s))).drew = wc at *
                obtain ⟨b1, b2, b3, b4, b5, b6⟩ := RA.cells
                have HA2 := Lib.hid (RA.setC 1)
                have hBs : Hid (∀ u, Below wo.heap.size wo (wc.setCell ⟨wo.heap.size, 2, none⟩ u)) := Lib.hid (fun u => BA.setCell (p := ⟨wo.heap.size, 2, none⟩) (Nat.le_refl _) u)
                clear RA BA
                go_wp2_with fail
                go_roundw
                case rel => exact ⟨n + 1, q + 1, f + (n : Int) * s, 1, by simp, by simp, HQ.out, by omega, Lib.hid ⟨HA2.out, by rw [HX.out]; rfl⟩, by simpa using HY.out, hBs.out _⟩
                case measure => simp [intOf]; omega
            · have HX : Hid (x = frP f s i j p ((n : Int) + 1)) := Lib.hid (by rw [fr_next n0 (by omega) (by omega) (fun e => gy (hy.trans e))]; exact HA.out.2)
              have HA1 := Lib.hid (HA.out.1.setC (y + 1))
              have t1 : (y == 0) = false := beq_eq_false_iff_ne.2 gy
              have hBs : Hid (∀ u, Below wo.heap.size wo (wr.setCell ⟨wo.heap.size, 2, none⟩ u)) := Lib.hid (fun u => hBi.setCell (p := ⟨wo.heap.size, 2, none⟩) (Nat.le_refl _) u)
              clear HA hy gab hq hq'
              go_wp2_with fail
              go_roundw
              case rel => exact ⟨n + 1, q + 1, x, y + 1, by simp, by simp, HQ.out, by omega, Lib.hid ⟨HA1.out, by rw [HX.out]; rfl⟩, by rw [HY.out]; rfl, hBs.out _⟩
              case measure => simp [intOf]; omega
        · have g1 : ¬ (n : Int) < d := gn
          obtain ⟨b1, b2, b3, b4, b5, b6⟩ := HA.out.1.cells
          have EN : (n : Int) = d := by omega
          have HO2 := Lib.hid (owns_below HO.out hBi)
          have HPS2 := Lib.hid (show pcsR (l.drop k) (i - p) (j - p) = (if 0 < y then [⟨x, s, y⟩] else []) ++ pcsR (l.drop (k + 1)) (i - (p + d)) (j - (p + d)) by rw [HPS.out, hy, HA.out.2, EN])
          have HI2 := Lib.hid (show pcsR l i j = (Q ++ (if 0 < y then [⟨x, s, y⟩] else [])) ++ pcsR (l.drop (k + 1)) (i - (q : Int)) (j - (q : Int)) by rw [HI.out.2, HPS2.out, List.append_assoc, show (p : Int) + d = (q : Int) by omega])
          have HTM2 := Lib.hid (show totalR (l.take (k + 1)) = (q : Int) by rw [HTM.out]; omega)
          clear HPS HPS2 HI HTM HA hy hq hq' EN
          by_cases gy : 0 < y
          · rw [if_pos gy] at HI2
            go_wp2_with (at_builtin; refine wpList_append_own _ rfl _ _ 22 rfl w.heap.size 36 i0 (.agg #[.int .i64 0, .int .i64 0, .int .i64 0]) 3 24 Try.underlying22 hi hz0 hz1 hz2 rfl (by decide) _ _ _ rfl (HO2.out.alloc _) ⟨wr.heap.size, 0, none⟩ 1 1 [.int .i64 x, .int .i64 s, .int .i64 y] rfl rfl ?c1 ?c2 ?c3 ?c4 ?c5 ?_)
            case c2 => exact ⟨rfl, rfl, rfl⟩
            case c3 => unfold maxLen; omega
            case c4 => omega
            case c5 => have := hB2.size; simp; omega
            intro v' w12 hown' hgrow _
            have hB3 := own_grows hB2 HO2.out hgrow
            have HO5 : Hid (w12.ownsRow w.heap.size 36 3 v' (Q ++ [(⟨x, s, y⟩ : Rn)]).length (flatR (Q ++ [(⟨x, s, y⟩ : Rn)]))) := Lib.hid (by rw [List.length_append, flatR_app]; exact hown')
            clear hown' hgrow HO HO2 b1 b2 b3 b4 b5 b6 c2 c3 hB2 hBi
            go_wp2_with fail
            go_roundw
            case rel => exact ⟨k + 1, q, Q ++ [⟨x, s, y⟩], by simp, rfl, gk, by omega, by rw [List.length_append, List.length_singleton]; omega, Lib.hid ⟨HTM2.out, HI2.out⟩, HO5, hB3⟩
            case measure => exact index_less7 gk
          · rw [if_neg gy, List.append_nil] at HI2
            go_wp2_with fail
            go_roundw
            case rel => exact ⟨k + 1, q, Q, by simp, rfl, gk, by omega, by omega, Lib.hid ⟨HTM2.out, HI2.out⟩, HO2, hB2⟩
            case measure => exact index_less7 gk
    · have hkk : k = l.length := by omega
      have i1 : ¬ (k : Int) < (l.length : Int) := by omega
      have EL : Hid (pcsR l i j = Q) := Lib.hid (by
        have h1 := HI.out.2
        rw [hkk, List.drop_length] at h1
        rw [h1]; simp [pcsR])
      clear HI
      go_wp2_with fail
      go_ret
      exact ⟨_, rfl, hB, by rw [EL.out]; exact HO.out⟩
end Go.Proofs.Ytlfjmdfplmdmgaa
