/-
  Layer 7: the document's own answer: the runs of times. Conditions: those written at each fact.
-/
import Derived.Test.YtlfjmdfplmdmgaaRfM
namespace Go.Proofs.Ytlfjmdfplmdmgaa
open Go.RowKit

set_option maxRecDepth 100000 in
set_option maxHeartbeats 4000000 in
theorem refOf_any (T : List Int) (hA : areB T = true) (v : Value) (w : World) (h : Reads .i64 w v T) : Calls Try.prog 22 #[v] w (LaidR w (laidR T)) := by
  obtain ⟨i0, hi, hz0, hz1, hz2⟩ := info_parts infoRun
  obtain ⟨A, c, rfl, hc, hk⟩ := h
  have HK := Lib.hid hk
  have HA := Lib.hid hA
  have hn : T.length ≤ 256 := ((areB_iff T).1 hA).2.1
  have HU : Hid (Up T) := Lib.hid ((areB_iff T).1 hA).2.2
  clear hk hA
  go_enter Try.func22, Try.ntmps22
  go_wp2_with fail
  go_loopw [3, 4] (fun u i wr => ∃ (k : Nat) (P : List Rn), i = .int .i64 k ∧ k ≤ T.length ∧ Hid (OfInv T P k) ∧ Hid (wr.ownsRow w.heap.size 36 3 u P.length (flatR P)) ∧ Below w.heap.size w wr) (fun _ i _ => T.length - (intOf i).toNat)
  case atStart => exact ⟨0, [], rfl, by omega, Lib.hid (OfInv.start T), Lib.hid (World.ownsRow_nil _ _ _ _), Below.refl _ _⟩
  case round =>
    obtain ⟨k, P, rfl, hkl, HI, HO, hB⟩ := hrel
    by_cases gk : k < T.length
    · obtain ⟨f, hx⟩ : ∃ s, T[k]? = some s := ⟨_, List.getElem?_eq_getElem gk⟩
      obtain ⟨bb, off, rfl, hbw, hc1⟩ := HK.out k _ hx
      have i1 : (k : Int) < (T.length : Int) := by omega
      have j0 : (0 : Int) ≤ (k : Int) := by omega
      have HX := Lib.hid hx
      have HC1 := Lib.hid hc1
      have HP : P.length ≤ 256 := by have := HI.out.small hkl; omega
      clear hc1 hx
      by_cases ge : k + 1 = T.length
      · have e1 : ((k : Int) + 1 == (T.length : Int)) = true := beq_iff_eq.2 (by omega)
        have EL := Lib.hid (HI.out.last HA.out HX.out ge)
        have c1 := (hB.cell (p := ⟨bb, off + k, none⟩) hbw).trans HC1.out
        clear HI HX HA HU HC1
        go_wp2_with (at_builtin; refine wpList_append_own _ rfl _ _ 22 rfl w.heap.size 36 i0 (.agg #[.int .i64 0, .int .i64 0, .int .i64 0]) 3 24 Try.underlying22 hi hz0 hz1 hz2 rfl (by decide) _ _ _ rfl (HO.out.alloc _) ⟨wr.heap.size, 0, none⟩ 1 1 [.int .i64 f, .int .i64 0, .int .i64 1] rfl rfl ?c1 ?c2 ?c3 ?c4 ?c5 ?_)
        case c1 => exact new_cells3 rfl
        case c2 => intro u hu; simp at hu; rcases hu with rfl | rfl | rfl <;> rfl
        case c3 => unfold maxLen; omega
        case c4 => omega
        case c5 => have := hB.size; simp; omega
        intro v' w12 hown' hgrow _
        have hB3 := own_grows hB HO.out hgrow
        go_wp2_with fail
        go_ret
        exact ⟨v', rfl, hB3, by rw [EL.out, List.length_append, flatR_app]; exact hown'⟩
      · have e1 : ((k : Int) + 1 == (T.length : Int)) = false := beq_eq_false_iff_ne.2 (by omega)
        obtain ⟨g, hy⟩ : ∃ s, T[k + 1]? = some s := ⟨_, List.getElem?_eq_getElem (by omega)⟩
        obtain ⟨bb', off', hbe, hbw', hp1⟩ := HK.out (k + 1) _ hy
        cases hbe
        have HC2 := Lib.hid hp1
        have l1 : (k : Int) + 1 < (T.length : Int) := by omega
        have rf := up_range HU.out HX.out
        have rg := up_range HU.out hy
        obtain ⟨s, hs⟩ : ∃ s, g - f = s := ⟨_, rfl⟩
        have wsK : IntKind.i64.wrap (g - f) = s := by rw [← hs, IntKind.wrap_i64]; omega
        have ws : wrap64 (g - f) = s := by rw [← hs]; exact i64_keeps (by omega) (by omega)
        have HS : Hid (Even T k (k + 1) f s) := Lib.hid (by rw [← hs]; exact even_two HX.out hy)
        clear hp1 hy rf rg hs HX
        go_wp2_with fail
        obtain ⟨wo, rfl⟩ : ∃ wo : World, wo = wr := ⟨_, rfl⟩
        go_loopw [5] (fun j wi => ∃ m : Nat, j = .int .i64 m ∧ k < m ∧ m < T.length ∧ Hid (Even T k m f s) ∧ Below wo.heap.size wo wi) (fun j _ => T.length - (intOf j).toNat)
        case atStart => exact ⟨k + 1, by simp, by omega, by omega, HS, Below.refl _ _⟩
        case round =>
          obtain ⟨m, rfl, hkm, hmT, HE, hBi⟩ := hrel
          have hB2 := under hB hBi
          by_cases gm : m + 1 < T.length
          · obtain ⟨x, hx⟩ : ∃ s, T[m]? = some s := ⟨_, List.getElem?_eq_getElem hmT⟩
            obtain ⟨y, hy⟩ : ∃ s, T[m + 1]? = some s := ⟨_, List.getElem?_eq_getElem gm⟩
            obtain ⟨bb', off', hbe, hbw1, hp1⟩ := HK.out m _ hx
            cases hbe
            obtain ⟨bb', off', hbe, hbw2, hp2⟩ := HK.out (m + 1) _ hy
            cases hbe
            have rx := up_range HU.out hx
            have ry := up_range HU.out hy
            have c1 := (hB2.cell (p := ⟨bb, off + k, none⟩) hbw).trans HC1.out
            have c2 := (hB2.cell (p := ⟨bb, off + (k + 1), none⟩) hbw').trans HC2.out
            have c3 := (hB2.cell (p := ⟨bb, off + m, none⟩) hbw1).trans hp1
            have c4 := (hB2.cell (p := ⟨bb, off + (m + 1), none⟩) hbw2).trans hp2
            have m1 : (m : Int) + 1 < (T.length : Int) := by omega
            have m2 : (m : Int) < (T.length : Int) := by omega
            have m0 : (0 : Int) ≤ (m : Int) := by omega
            obtain ⟨d, hd⟩ : ∃ d, y - x = d := ⟨_, rfl⟩
            have wd : wrap64 (y - x) = d := by rw [← hd]; exact i64_keeps (by omega) (by omega)
            clear hp1 hp2 rx ry hbw1 hbw2
            by_cases ed : d = s
            · have HE2 := Lib.hid (even_more HE.out (by omega) hx hy (hd.trans ed))
              have tt : (d == s) = true := beq_iff_eq.2 ed
              clear hd ed hx hy
              go_wp2_with fail
              go_quiet (fail)
              go_wp2_with fail
              go_roundw
              case rel => exact ⟨m + 1, by simp, by omega, gm, HE2, below_drewN hBi _⟩
              case measure => exact index_less7 hmT
            · have HN := Lib.hid (HI.out.next HA.out hkm HE.out (fun x' y' h1 h2 h3 => by rw [hx] at h1; rw [hy] at h2; cases h1; cases h2; exact ed (hd.symm.trans h3)))
              have tt : (d == s) = false := beq_eq_false_iff_ne.2 ed
              clear hd ed hx hy
              go_wp2_with fail
              go_quiet (fail)
              go_wp2_with fail
              have HOI := Lib.hid (owns_below HO.out (below_drewN hBi nq))
              have hBz := below_drewN hB2 nq
              generalize wr.drewN nq = wz at *
              obtain ⟨k1, hk1⟩ : ∃ k1, k1 = k + 1 := ⟨_, rfl⟩
              have wk1 : IntKind.i64.wrap ((k : Int) + 1) = (k1 : Int) := by rw [IntKind.wrap_i64]; omega
              have wk2 : (k1 : Int) < (T.length : Int) := by omega
              have wk0 : (0 : Int) ≤ (k1 : Int) := by omega
              have HC3 : Hid (w.cell? ⟨bb, off + k1, none⟩ = some (.int .i64 g)) := Lib.hid (by rw [hk1]; exact HC2.out)
              clear hk1
              have wm : IntKind.i64.wrap ((m : Int) - k) = (m : Int) - k := by rw [IntKind.wrap_i64]; omega
              have wm1 : IntKind.i64.wrap ((m : Int) - k + 1) = (m : Int) - k + 1 := by rw [IntKind.wrap_i64]; omega
              refine region_keeps (w0 := w) (L := []) (by kernel_rfl) ⟨hBz, trivial⟩ (fun hHeld0 => ?_)
              refine wpAnyH_take (i := 0) (oi := ⟨some 56, _, _, _, _, _⟩) (v := ?_) rfl (by kernel_rfl) (by kernel_rfl) (by kernel_rfl) (fun _ _ _ h => h) (Or.inl ⟨by rfl, ?_⟩) (by assumption) ?_
              rotate_left
              · intro wq hSw; go_simp; (try with_reducible rfl)
              try simp only [Act.put, List.setIfInBounds_toArray, List.set_cons_zero, List.set_cons_succ]
              refine wpAnyH_take (i := 1) (oi := ⟨some 57, _, _, _, _, _⟩) (v := ?_) rfl (by kernel_rfl) (by kernel_rfl) (by kernel_rfl) (fun _ _ _ h => h) (Or.inl ⟨by rfl, ?_⟩) (by assumption) ?_
              rotate_left
              · intro wq hSw; go_simp; (try with_reducible rfl)
              try simp only [Act.put, List.setIfInBounds_toArray, List.set_cons_zero, List.set_cons_succ]
              refine wpAnyH_take (i := 2) (oi := ⟨some 58, _, _, _, _, _⟩) (v := ?_) rfl (by kernel_rfl) (by kernel_rfl) (by kernel_rfl) (fun _ _ _ h => h) (Or.inl ⟨by rfl, ?_⟩) (by assumption) ?_
              rotate_left
              · intro wq hSw; go_simp; (try with_reducible rfl)
              try simp only [Act.put, List.setIfInBounds_toArray, List.set_cons_zero, List.set_cons_succ]
              refine wpAnyH_take (i := 3) (oi := ⟨some 59, _, _, _, _, _⟩) (v := ?_) rfl (by kernel_rfl) (by kernel_rfl) (by kernel_rfl) (fun _ _ _ h => h) (Or.inl ⟨by rfl, ?_⟩) (by assumption) ?_
              rotate_left
              · intro wq hSw; go_simp; (try with_reducible rfl)
              try simp only [Act.put, List.setIfInBounds_toArray, List.set_cons_zero, List.set_cons_succ]
              refine wpAnyH_take (i := 4) (oi := ⟨some 60, _, _, _, _, _⟩) (v := ?_) rfl (by kernel_rfl) (by kernel_rfl) (by kernel_rfl) (fun _ _ _ h => h) (Or.inl ⟨by rfl, ?_⟩) (by assumption) ?_
              rotate_left
              · intro wq hSw; obtain _ := hSw.2; have x1 := (hSw.1.cell (p := ⟨bb, off + k, none⟩) hbw).trans HC1.out; have x2 := (hSw.1.cell (p := ⟨bb, off + k1, none⟩) hbw').trans HC3.out; go_simp; (try with_reducible rfl)
              try simp only [Act.put, List.setIfInBounds_toArray, List.set_cons_zero, List.set_cons_succ]
              refine wpAnyH_take (i := 5) (oi := ⟨some 61, _, _, _, _, _⟩) (v := ?_) rfl (by kernel_rfl) (by kernel_rfl) (by kernel_rfl) (fun _ _ _ h => h) (Or.inl ⟨by rfl, ?_⟩) (by assumption) ?_
              rotate_left
              · intro wq hSw; go_simp; (try with_reducible rfl)
              try simp only [Act.put, List.setIfInBounds_toArray, List.set_cons_zero, List.set_cons_succ]
              refine wpAnyH_take (i := 6) (oi := ⟨some 62, _, _, _, _, _⟩) (v := ?_) rfl (by kernel_rfl) (by kernel_rfl) (by kernel_rfl) (fun _ _ _ h => h) (Or.inl ⟨by rfl, ?_⟩) (by assumption) ?_
              rotate_left
              · intro wq hSw; go_simp; (try with_reducible rfl)
              try simp only [Act.put, List.setIfInBounds_toArray, List.set_cons_zero, List.set_cons_succ]
              refine wpAnyH_take (i := 7) (oi := ⟨some 63, _, _, _, _, _⟩) (v := ?_) rfl (by kernel_rfl) (by kernel_rfl) (by kernel_rfl) (fun _ _ _ h => h) (Or.inl ⟨by rfl, ?_⟩) (by assumption) ?_
              rotate_left
              · intro wq hSw; go_simp; (try with_reducible rfl)
              try simp only [Act.put, List.setIfInBounds_toArray, List.set_cons_zero, List.set_cons_succ]
              refine wpAnyH_take (i := 8) (oi := ⟨some 64, _, _, _, _, _⟩) (v := ?_) rfl (by kernel_rfl) (by kernel_rfl) (by kernel_rfl) (fun _ _ _ h => h) (Or.inl ⟨by rfl, ?_⟩) (by assumption) ?_
              rotate_left
              · intro wq hSw; go_simp; (try with_reducible rfl)
              try simp only [Act.put, List.setIfInBounds_toArray, List.set_cons_zero, List.set_cons_succ]
              refine wpAnyH_take (i := 9) (oi := ⟨some 65, _, _, _, _, _⟩) (v := ?_) rfl (by kernel_rfl) (by kernel_rfl) (by kernel_rfl) (fun _ _ _ h => h) (Or.inl ⟨by rfl, ?_⟩) (by assumption) ?_
              rotate_left
              · intro wq hSw; obtain _ := hSw.2; have x1 := (hSw.1.cell (p := ⟨bb, off + k, none⟩) hbw).trans HC1.out; have x2 := (hSw.1.cell (p := ⟨bb, off + k1, none⟩) hbw').trans HC3.out; go_simp; (try with_reducible rfl)
              try simp only [Act.put, List.setIfInBounds_toArray, List.set_cons_zero, List.set_cons_succ]
              refine wpAnyH_take (i := 10) (oi := ⟨some 66, _, _, _, _, _⟩) (v := ?_) rfl (by kernel_rfl) (by kernel_rfl) (by kernel_rfl) (fun _ _ _ h => h) (Or.inl ⟨by rfl, ?_⟩) (by assumption) ?_
              rotate_left
              · intro wq hSw; go_simp; (try with_reducible rfl)
              try simp only [Act.put, List.setIfInBounds_toArray, List.set_cons_zero, List.set_cons_succ]
              refine wpAnyH_take (i := 11) (oi := ⟨some 67, _, _, _, _, _⟩) (v := ?_) rfl (by kernel_rfl) (by kernel_rfl) (by kernel_rfl) (fun _ _ _ h => h) (Or.inl ⟨by rfl, ?_⟩) (by assumption) ?_
              rotate_left
              · intro wq hSw; go_simp; (try with_reducible rfl)
              try simp only [Act.put, List.setIfInBounds_toArray, List.set_cons_zero, List.set_cons_succ]
              refine wpAnyH_take (i := 12) (oi := ⟨some 68, _, _, _, _, _⟩) (v := ?_) rfl (by kernel_rfl) (by kernel_rfl) (by kernel_rfl) (fun _ _ _ h => h) (Or.inl ⟨by rfl, ?_⟩) (by assumption) ?_
              rotate_left
              · intro wq hSw; go_simp; (try with_reducible rfl)
              try simp only [Act.put, List.setIfInBounds_toArray, List.set_cons_zero, List.set_cons_succ]
              refine wpAnyH_take (i := 13) (oi := ⟨some 69, _, _, _, _, _⟩) (v := ?_) rfl (by kernel_rfl) (by kernel_rfl) (by kernel_rfl) (fun _ _ _ h => h) (Or.inl ⟨by rfl, ?_⟩) (by assumption) ?_
              rotate_left
              · intro wq hSw; obtain _ := hSw.2; have x1 := (hSw.1.cell (p := ⟨bb, off + k, none⟩) hbw).trans HC1.out; have x2 := (hSw.1.cell (p := ⟨bb, off + k1, none⟩) hbw').trans HC3.out; go_simp; (try with_reducible rfl)
              try simp only [Act.put, List.setIfInBounds_toArray, List.set_cons_zero, List.set_cons_succ]
              refine wpAnyH_take (i := 14) (oi := ⟨some 70, _, _, _, _, _⟩) (v := ?_) rfl (by kernel_rfl) (by kernel_rfl) (by kernel_rfl) (fun _ _ _ h => h) (Or.inl ⟨by rfl, ?_⟩) (by assumption) ?_
              rotate_left
              · intro wq hSw; go_simp; (try with_reducible rfl)
              try simp only [Act.put, List.setIfInBounds_toArray, List.set_cons_zero, List.set_cons_succ]
              refine wpAnyH_take (i := 15) (oi := ⟨some 71, _, _, _, _, _⟩) (v := ?_) rfl (by kernel_rfl) (by kernel_rfl) (by kernel_rfl) (fun _ _ _ h => h) (Or.inl ⟨by rfl, ?_⟩) (by assumption) ?_
              rotate_left
              · intro wq hSw; go_simp; (try with_reducible rfl)
              try simp only [Act.put, List.setIfInBounds_toArray, List.set_cons_zero, List.set_cons_succ]
              refine wpAnyH_take (i := 16) (oi := ⟨some 72, _, _, _, _, _⟩) (v := ?_) rfl (by kernel_rfl) (by kernel_rfl) (by kernel_rfl) (fun _ _ _ h => h) (Or.inl ⟨by rfl, ?_⟩) (by assumption) ?_
              rotate_left
              · intro wq hSw; go_simp; (try with_reducible rfl)
              try simp only [Act.put, List.setIfInBounds_toArray, List.set_cons_zero, List.set_cons_succ]
              refine wpAnyH_take (i := 17) (oi := ⟨some 73, _, _, _, _, _⟩) (v := ?_) rfl (by kernel_rfl) (by kernel_rfl) (by kernel_rfl) (fun _ _ _ h => h) (Or.inl ⟨by rfl, ?_⟩) (by assumption) ?_
              rotate_left
              · intro wq hSw; go_simp; (try with_reducible rfl)
              try simp only [Act.put, List.setIfInBounds_toArray, List.set_cons_zero, List.set_cons_succ]
              refine wpAnyH_take (i := 18) (oi := ⟨some 74, _, _, _, _, _⟩) (v := ?_) rfl (by kernel_rfl) (by kernel_rfl) (by kernel_rfl) (fun _ _ _ h => h) (Or.inl ⟨by rfl, ?_⟩) (by assumption) ?_
              rotate_left
              · intro wq hSw; go_simp; (try with_reducible rfl)
              try simp only [Act.put, List.setIfInBounds_toArray, List.set_cons_zero, List.set_cons_succ]
              refine wpAnyH_take (i := 19) (oi := ⟨some 75, _, _, _, _, _⟩) (v := ?_) rfl (by kernel_rfl) (by kernel_rfl) (by kernel_rfl) (fun _ _ _ h => h) (Or.inl ⟨by rfl, ?_⟩) (by assumption) ?_
              rotate_left
              · intro wq hSw; go_simp; (try with_reducible rfl)
              try simp only [Act.put, List.setIfInBounds_toArray, List.set_cons_zero, List.set_cons_succ]
              refine wpAnyH_ready (rs := [20]) (by kernel_rfl) (by simp) ?_
              refine AllReadyH.cons (o := ⟨some 76, _, _, _, _, _⟩) rfl (fun K hK => ?_) AllReadyH.nil
              go_simp
              refine hK.out _ _ (by first | exact hHeld0.alloc _ | exact (hHeld0.alloc _).drew) (fun hHeld1 => ?_)
              clear hK K
              try clear hb
              try simp only [Act.put, List.setIfInBounds_toArray, List.set_cons_zero, List.set_cons_succ]
              refine wpAnyH_ready (rs := [21]) (by kernel_rfl) (by simp) ?_
              refine AllReadyH.cons (o := ⟨some 77, _, _, _, _, _⟩) rfl (fun K hK => ?_) AllReadyH.nil
              (refine if_wanted rfl ?_; refine wp_append_own _ (.tmp 56) (.tmp 76) 22 rfl w.heap.size 36 i0 (.agg #[.int .i64 0, .int .i64 0, .int .i64 0]) 3 24 Try.underlying22 hi hz0 hz1 hz2 rfl (by decide) _ _ _ rfl (owns_below HOI.out (by go_grown)) ⟨wz.heap.size, 0, none⟩ 1 1 [.int .i64 f, .int .i64 s, .int .i64 ((m : Int) - k + 1)] rfl rfl (fun j u hj => new_cells3 (W := wz) rfl j u hj) (by intro u hu; simp at hu; rcases hu with rfl | rfl | rfl <;> rfl) (by unfold maxLen; omega) (by omega) (hHeld1).1.size (fun v5 w5 hown5 hgrow5 _ => ?_))
              refine hK.out _ _ (⟨((hHeld1).1).grown hgrow5 (hHeld1).1.size (fun j hj => (HOI.out.lt j hj).1), trivial⟩) (fun hHeld2 => ?_)
              clear hK K
              try clear hb
              try simp only [Act.put, List.setIfInBounds_toArray, List.set_cons_zero, List.set_cons_succ]
              refine wpAnyH_take (i := 22) (oi := ⟨some 3, _, _, _, _, _⟩) (v := ?_) rfl (by kernel_rfl) (by kernel_rfl) (by kernel_rfl) (fun _ _ _ h => h) (Or.inl ⟨by rfl, ?_⟩) (by assumption) ?_
              rotate_left
              · intro wq hSw; go_simp; (try with_reducible rfl)
              try simp only [Act.put, List.setIfInBounds_toArray, List.set_cons_zero, List.set_cons_succ]
              refine wpAnyH_done (by kernel_rfl) ?_ _
              have hHeld := hHeld2
              all_goals
                have HO5 : Hid (w5.ownsRow w.heap.size 36 3 v5 (P ++ [(⟨f, s, (m : Int) - k + 1⟩ : Rn)]).length (flatR (P ++ [⟨f, s, (m : Int) - k + 1⟩]))) := Lib.hid (by rw [List.length_append, flatR_app]; exact hown5)
                have hB5 := hHeld.1
                clear hown5 hgrow5 hHeld hHeld0 hHeld1 HO HOI HE HI wk1 wk2 wk0 HC3 wm wm1 ws wsK
                go_wp2_with fail
                go_roundw
                case rel => exact ⟨m + 1, P ++ [⟨f, s, (m : Int) - k + 1⟩], by simp, by omega, HN, HO5, hB5⟩
                case measure => simp [intOf]; omega
          · have HN := Lib.hid (HI.out.next HA.out hkm HE.out (fun x' y' h1 h2 => by have := (List.getElem?_eq_some_iff.1 h2).1; omega))
            have m1 : decide ((m : Int) + 1 < (T.length : Int)) = false := decide_eq_false (by omega)
            go_wp2_with fail
            go_quiet (fail)
            go_wp2_with fail
            have HOI := Lib.hid (owns_below HO.out (below_drewN hBi nq))
            have hBz := below_drewN hB2 nq
            generalize wr.drewN nq = wz at *
            obtain ⟨k1, hk1⟩ : ∃ k1, k1 = k + 1 := ⟨_, rfl⟩
            have wk1 : IntKind.i64.wrap ((k : Int) + 1) = (k1 : Int) := by rw [IntKind.wrap_i64]; omega
            have wk2 : (k1 : Int) < (T.length : Int) := by omega
            have wk0 : (0 : Int) ≤ (k1 : Int) := by omega
            have HC3 : Hid (w.cell? ⟨bb, off + k1, none⟩ = some (.int .i64 g)) := Lib.hid (by rw [hk1]; exact HC2.out)
            clear hk1
            have wm : IntKind.i64.wrap ((m : Int) - k) = (m : Int) - k := by rw [IntKind.wrap_i64]; omega
            have wm1 : IntKind.i64.wrap ((m : Int) - k + 1) = (m : Int) - k + 1 := by rw [IntKind.wrap_i64]; omega
            refine region_keeps (w0 := w) (L := []) (by kernel_rfl) ⟨hBz, trivial⟩ (fun hHeld0 => ?_)
            refine wpAnyH_take (i := 0) (oi := ⟨some 56, _, _, _, _, _⟩) (v := ?_) rfl (by kernel_rfl) (by kernel_rfl) (by kernel_rfl) (fun _ _ _ h => h) (Or.inl ⟨by rfl, ?_⟩) (by assumption) ?_
            rotate_left
            · intro wq hSw; go_simp; (try with_reducible rfl)
            try simp only [Act.put, List.setIfInBounds_toArray, List.set_cons_zero, List.set_cons_succ]
            refine wpAnyH_take (i := 1) (oi := ⟨some 57, _, _, _, _, _⟩) (v := ?_) rfl (by kernel_rfl) (by kernel_rfl) (by kernel_rfl) (fun _ _ _ h => h) (Or.inl ⟨by rfl, ?_⟩) (by assumption) ?_
            rotate_left
            · intro wq hSw; go_simp; (try with_reducible rfl)
            try simp only [Act.put, List.setIfInBounds_toArray, List.set_cons_zero, List.set_cons_succ]
            refine wpAnyH_take (i := 2) (oi := ⟨some 58, _, _, _, _, _⟩) (v := ?_) rfl (by kernel_rfl) (by kernel_rfl) (by kernel_rfl) (fun _ _ _ h => h) (Or.inl ⟨by rfl, ?_⟩) (by assumption) ?_
            rotate_left
            · intro wq hSw; go_simp; (try with_reducible rfl)
            try simp only [Act.put, List.setIfInBounds_toArray, List.set_cons_zero, List.set_cons_succ]
            refine wpAnyH_take (i := 3) (oi := ⟨some 59, _, _, _, _, _⟩) (v := ?_) rfl (by kernel_rfl) (by kernel_rfl) (by kernel_rfl) (fun _ _ _ h => h) (Or.inl ⟨by rfl, ?_⟩) (by assumption) ?_
            rotate_left
            · intro wq hSw; go_simp; (try with_reducible rfl)
            try simp only [Act.put, List.setIfInBounds_toArray, List.set_cons_zero, List.set_cons_succ]
            refine wpAnyH_take (i := 4) (oi := ⟨some 60, _, _, _, _, _⟩) (v := ?_) rfl (by kernel_rfl) (by kernel_rfl) (by kernel_rfl) (fun _ _ _ h => h) (Or.inl ⟨by rfl, ?_⟩) (by assumption) ?_
            rotate_left
            · intro wq hSw; obtain _ := hSw.2; have x1 := (hSw.1.cell (p := ⟨bb, off + k, none⟩) hbw).trans HC1.out; have x2 := (hSw.1.cell (p := ⟨bb, off + k1, none⟩) hbw').trans HC3.out; go_simp; (try with_reducible rfl)
            try simp only [Act.put, List.setIfInBounds_toArray, List.set_cons_zero, List.set_cons_succ]
            refine wpAnyH_take (i := 5) (oi := ⟨some 61, _, _, _, _, _⟩) (v := ?_) rfl (by kernel_rfl) (by kernel_rfl) (by kernel_rfl) (fun _ _ _ h => h) (Or.inl ⟨by rfl, ?_⟩) (by assumption) ?_
            rotate_left
            · intro wq hSw; go_simp; (try with_reducible rfl)
            try simp only [Act.put, List.setIfInBounds_toArray, List.set_cons_zero, List.set_cons_succ]
            refine wpAnyH_take (i := 6) (oi := ⟨some 62, _, _, _, _, _⟩) (v := ?_) rfl (by kernel_rfl) (by kernel_rfl) (by kernel_rfl) (fun _ _ _ h => h) (Or.inl ⟨by rfl, ?_⟩) (by assumption) ?_
            rotate_left
            · intro wq hSw; go_simp; (try with_reducible rfl)
            try simp only [Act.put, List.setIfInBounds_toArray, List.set_cons_zero, List.set_cons_succ]
            refine wpAnyH_take (i := 7) (oi := ⟨some 63, _, _, _, _, _⟩) (v := ?_) rfl (by kernel_rfl) (by kernel_rfl) (by kernel_rfl) (fun _ _ _ h => h) (Or.inl ⟨by rfl, ?_⟩) (by assumption) ?_
            rotate_left
            · intro wq hSw; go_simp; (try with_reducible rfl)
            try simp only [Act.put, List.setIfInBounds_toArray, List.set_cons_zero, List.set_cons_succ]
            refine wpAnyH_take (i := 8) (oi := ⟨some 64, _, _, _, _, _⟩) (v := ?_) rfl (by kernel_rfl) (by kernel_rfl) (by kernel_rfl) (fun _ _ _ h => h) (Or.inl ⟨by rfl, ?_⟩) (by assumption) ?_
            rotate_left
            · intro wq hSw; go_simp; (try with_reducible rfl)
            try simp only [Act.put, List.setIfInBounds_toArray, List.set_cons_zero, List.set_cons_succ]
            refine wpAnyH_take (i := 9) (oi := ⟨some 65, _, _, _, _, _⟩) (v := ?_) rfl (by kernel_rfl) (by kernel_rfl) (by kernel_rfl) (fun _ _ _ h => h) (Or.inl ⟨by rfl, ?_⟩) (by assumption) ?_
            rotate_left
            · intro wq hSw; obtain _ := hSw.2; have x1 := (hSw.1.cell (p := ⟨bb, off + k, none⟩) hbw).trans HC1.out; have x2 := (hSw.1.cell (p := ⟨bb, off + k1, none⟩) hbw').trans HC3.out; go_simp; (try with_reducible rfl)
            try simp only [Act.put, List.setIfInBounds_toArray, List.set_cons_zero, List.set_cons_succ]
            refine wpAnyH_take (i := 10) (oi := ⟨some 66, _, _, _, _, _⟩) (v := ?_) rfl (by kernel_rfl) (by kernel_rfl) (by kernel_rfl) (fun _ _ _ h => h) (Or.inl ⟨by rfl, ?_⟩) (by assumption) ?_
            rotate_left
            · intro wq hSw; go_simp; (try with_reducible rfl)
            try simp only [Act.put, List.setIfInBounds_toArray, List.set_cons_zero, List.set_cons_succ]
            refine wpAnyH_take (i := 11) (oi := ⟨some 67, _, _, _, _, _⟩) (v := ?_) rfl (by kernel_rfl) (by kernel_rfl) (by kernel_rfl) (fun _ _ _ h => h) (Or.inl ⟨by rfl, ?_⟩) (by assumption) ?_
            rotate_left
            · intro wq hSw; go_simp; (try with_reducible rfl)
            try simp only [Act.put, List.setIfInBounds_toArray, List.set_cons_zero, List.set_cons_succ]
            refine wpAnyH_take (i := 12) (oi := ⟨some 68, _, _, _, _, _⟩) (v := ?_) rfl (by kernel_rfl) (by kernel_rfl) (by kernel_rfl) (fun _ _ _ h => h) (Or.inl ⟨by rfl, ?_⟩) (by assumption) ?_
            rotate_left
            · intro wq hSw; go_simp; (try with_reducible rfl)
            try simp only [Act.put, List.setIfInBounds_toArray, List.set_cons_zero, List.set_cons_succ]
            refine wpAnyH_take (i := 13) (oi := ⟨some 69, _, _, _, _, _⟩) (v := ?_) rfl (by kernel_rfl) (by kernel_rfl) (by kernel_rfl) (fun _ _ _ h => h) (Or.inl ⟨by rfl, ?_⟩) (by assumption) ?_
            rotate_left
            · intro wq hSw; obtain _ := hSw.2; have x1 := (hSw.1.cell (p := ⟨bb, off + k, none⟩) hbw).trans HC1.out; have x2 := (hSw.1.cell (p := ⟨bb, off + k1, none⟩) hbw').trans HC3.out; go_simp; (try with_reducible rfl)
            try simp only [Act.put, List.setIfInBounds_toArray, List.set_cons_zero, List.set_cons_succ]
            refine wpAnyH_take (i := 14) (oi := ⟨some 70, _, _, _, _, _⟩) (v := ?_) rfl (by kernel_rfl) (by kernel_rfl) (by kernel_rfl) (fun _ _ _ h => h) (Or.inl ⟨by rfl, ?_⟩) (by assumption) ?_
            rotate_left
            · intro wq hSw; go_simp; (try with_reducible rfl)
            try simp only [Act.put, List.setIfInBounds_toArray, List.set_cons_zero, List.set_cons_succ]
            refine wpAnyH_take (i := 15) (oi := ⟨some 71, _, _, _, _, _⟩) (v := ?_) rfl (by kernel_rfl) (by kernel_rfl) (by kernel_rfl) (fun _ _ _ h => h) (Or.inl ⟨by rfl, ?_⟩) (by assumption) ?_
            rotate_left
            · intro wq hSw; go_simp; (try with_reducible rfl)
            try simp only [Act.put, List.setIfInBounds_toArray, List.set_cons_zero, List.set_cons_succ]
            refine wpAnyH_take (i := 16) (oi := ⟨some 72, _, _, _, _, _⟩) (v := ?_) rfl (by kernel_rfl) (by kernel_rfl) (by kernel_rfl) (fun _ _ _ h => h) (Or.inl ⟨by rfl, ?_⟩) (by assumption) ?_
            rotate_left
            · intro wq hSw; go_simp; (try with_reducible rfl)
            try simp only [Act.put, List.setIfInBounds_toArray, List.set_cons_zero, List.set_cons_succ]
            refine wpAnyH_take (i := 17) (oi := ⟨some 73, _, _, _, _, _⟩) (v := ?_) rfl (by kernel_rfl) (by kernel_rfl) (by kernel_rfl) (fun _ _ _ h => h) (Or.inl ⟨by rfl, ?_⟩) (by assumption) ?_
            rotate_left
            · intro wq hSw; go_simp; (try with_reducible rfl)
            try simp only [Act.put, List.setIfInBounds_toArray, List.set_cons_zero, List.set_cons_succ]
            refine wpAnyH_take (i := 18) (oi := ⟨some 74, _, _, _, _, _⟩) (v := ?_) rfl (by kernel_rfl) (by kernel_rfl) (by kernel_rfl) (fun _ _ _ h => h) (Or.inl ⟨by rfl, ?_⟩) (by assumption) ?_
            rotate_left
            · intro wq hSw; go_simp; (try with_reducible rfl)
            try simp only [Act.put, List.setIfInBounds_toArray, List.set_cons_zero, List.set_cons_succ]
            refine wpAnyH_take (i := 19) (oi := ⟨some 75, _, _, _, _, _⟩) (v := ?_) rfl (by kernel_rfl) (by kernel_rfl) (by kernel_rfl) (fun _ _ _ h => h) (Or.inl ⟨by rfl, ?_⟩) (by assumption) ?_
            rotate_left
            · intro wq hSw; go_simp; (try with_reducible rfl)
            try simp only [Act.put, List.setIfInBounds_toArray, List.set_cons_zero, List.set_cons_succ]
            refine wpAnyH_ready (rs := [20]) (by kernel_rfl) (by simp) ?_
            refine AllReadyH.cons (o := ⟨some 76, _, _, _, _, _⟩) rfl (fun K hK => ?_) AllReadyH.nil
            go_simp
            refine hK.out _ _ (by first | exact hHeld0.alloc _ | exact (hHeld0.alloc _).drew) (fun hHeld1 => ?_)
            clear hK K
            try clear hb
            try simp only [Act.put, List.setIfInBounds_toArray, List.set_cons_zero, List.set_cons_succ]
            refine wpAnyH_ready (rs := [21]) (by kernel_rfl) (by simp) ?_
            refine AllReadyH.cons (o := ⟨some 77, _, _, _, _, _⟩) rfl (fun K hK => ?_) AllReadyH.nil
            (refine if_wanted rfl ?_; refine wp_append_own _ (.tmp 56) (.tmp 76) 22 rfl w.heap.size 36 i0 (.agg #[.int .i64 0, .int .i64 0, .int .i64 0]) 3 24 Try.underlying22 hi hz0 hz1 hz2 rfl (by decide) _ _ _ rfl (owns_below HOI.out (by go_grown)) ⟨wz.heap.size, 0, none⟩ 1 1 [.int .i64 f, .int .i64 s, .int .i64 ((m : Int) - k + 1)] rfl rfl (fun j u hj => new_cells3 (W := wz) rfl j u hj) (by intro u hu; simp at hu; rcases hu with rfl | rfl | rfl <;> rfl) (by unfold maxLen; omega) (by omega) (hHeld1).1.size (fun v5 w5 hown5 hgrow5 _ => ?_))
            refine hK.out _ _ (⟨((hHeld1).1).grown hgrow5 (hHeld1).1.size (fun j hj => (HOI.out.lt j hj).1), trivial⟩) (fun hHeld2 => ?_)
            clear hK K
            try clear hb
            try simp only [Act.put, List.setIfInBounds_toArray, List.set_cons_zero, List.set_cons_succ]
            refine wpAnyH_take (i := 22) (oi := ⟨some 3, _, _, _, _, _⟩) (v := ?_) rfl (by kernel_rfl) (by kernel_rfl) (by kernel_rfl) (fun _ _ _ h => h) (Or.inl ⟨by rfl, ?_⟩) (by assumption) ?_
            rotate_left
            · intro wq hSw; go_simp; (try with_reducible rfl)
            try simp only [Act.put, List.setIfInBounds_toArray, List.set_cons_zero, List.set_cons_succ]
            refine wpAnyH_done (by kernel_rfl) ?_ _
            have hHeld := hHeld2
            all_goals
              have HO5 : Hid (w5.ownsRow w.heap.size 36 3 v5 (P ++ [(⟨f, s, (m : Int) - k + 1⟩ : Rn)]).length (flatR (P ++ [⟨f, s, (m : Int) - k + 1⟩]))) := Lib.hid (by rw [List.length_append, flatR_app]; exact hown5)
              have hB5 := hHeld.1
              clear hown5 hgrow5 hHeld hHeld0 hHeld1 HO HOI HE HI wk1 wk2 wk0 HC3 wm wm1 ws wsK
              go_wp2_with fail
              go_roundw
              case rel => exact ⟨m + 1, P ++ [⟨f, s, (m : Int) - k + 1⟩], by simp, by omega, HN, HO5, hB5⟩
              case measure => simp [intOf]; omega
    · have hkk : k = T.length := by omega
      have i1 : ¬ (k : Int) < (T.length : Int) := by omega
      have EL := Lib.hid (HI.out.done hkk HA.out)
      clear HI
      go_wp2_with fail
      go_ret
      exact ⟨_, rfl, hB, by rw [EL.out]; exact HO.out⟩
end Go.Proofs.Ytlfjmdfplmdmgaa
