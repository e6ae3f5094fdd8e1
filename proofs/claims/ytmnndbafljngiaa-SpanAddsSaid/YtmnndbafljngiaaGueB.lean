/-
  Layer 4: guesses, gathered. Conditions: those written at each fact.
-/
import Derived.Test.YtmnndbafljngiaaGue
import Derived.Laws.OwnMore
import Derived.Laws.AppendOwn
namespace Go.Proofs.Ytmnndbafljngiaa
open Go.RowKit

theorem infoSpan : (Try.prog.info? 23).map (fun i => (i.zero, i.size, i.bytes)) = some (some (.agg #[.int .i64 0, .int .i64 0]), 2, 16) := by kernel_rfl
theorem infoI64 : (Try.prog.info? 2).map (fun i => (i.zero, i.size, i.bytes)) = some (some (.int .i64 0), 1, 8) := by kernel_rfl
theorem if_wanted {o : Oper} {ops : Array Oper} {tm : Array Value} {A B : Prop} (hg : o.guard = none) (h : A) : if Region.wanted o (yielded ops tm) = true then A else B := by
  rw [if_pos (by simp [Region.wanted, hg])]; exact h
theorem new_cells2 {W : World} {a b : Value} {t : TypeId} {n : Nat} (hn : n = W.heap.size) : ∀ (j : Nat) (u : Value), [a, b][j]? = some u → (W.alloc (.cells #[a, b] t)).cell? ((⟨n, 0, none⟩ : Addr).add j) = some u := by
  subst hn
  intro j u h
  match j, h with
  | 0, h => cases h; simp [Addr.add, go_sem]
  | 1, h => cases h; simp [Addr.add, go_sem]
  | j + 2, h => simp at h
theorem new_cells1 {W : World} {a : Value} {t : TypeId} {n : Nat} (hn : n = W.heap.size) : ∀ (j : Nat) (u : Value), [a][j]? = some u → (W.alloc (.cells #[a] t)).cell? ((⟨n, 0, none⟩ : Addr).add j) = some u := by
  subst hn
  intro j u h
  match j, h with
  | 0, h => cases h; simp [Addr.add, go_sem]
  | j + 1, h => simp at h
theorem keptG_next {l : List (Int × Int × Int)} {k : Nat} {s : Int × Int × Int} (h : l[k]? = some s) (hk : k < 20) (hs : s.1 ≤ s.2.1) : keptG (l.take (k + 1)) = keptG (l.take k) ++ [s] := by
  obtain ⟨a1, e1⟩ := List.getElem?_eq_some_iff.1 h
  unfold keptG
  rw [List.take_take, List.take_take, Nat.min_eq_right (by omega), Nat.min_eq_right (by omega), List.take_succ_eq_append_getElem a1, e1, List.filter_append]
  congr 1
  simp [hs]
theorem keptG_skip {l : List (Int × Int × Int)} {k : Nat} {s : Int × Int × Int} (h : l[k]? = some s) (hs : ¬ s.1 ≤ s.2.1) : keptG (l.take (k + 1)) = keptG (l.take k) := by
  obtain ⟨a1, e1⟩ := List.getElem?_eq_some_iff.1 h
  unfold keptG
  by_cases hk : k < 20
  · rw [List.take_take, List.take_take, Nat.min_eq_right (by omega), Nat.min_eq_right (by omega), List.take_succ_eq_append_getElem a1, e1, List.filter_append]
    simp [hs]
  · rw [List.take_take, List.take_take, Nat.min_eq_left (by omega), Nat.min_eq_left (by omega)]
theorem keptG_late {l : List (Int × Int × Int)} {k : Nat} (hk : ¬ k < 20) : keptG (l.take (k + 1)) = keptG (l.take k) := by
  unfold keptG
  rw [List.take_take, List.take_take, Nat.min_eq_left (by omega), Nat.min_eq_left (by omega)]
theorem keptG_length (l : List (Int × Int × Int)) : (keptG l).length ≤ 20 := by
  unfold keptG
  refine Nat.le_trans (List.length_filter_le _ _) ?_
  rw [List.length_take]
  omega
/-- What guesses leaves. -/
def GotG (w : World) (K : List (Int × Int × Int)) (e : Ending) (w' : World) : Prop :=
  ∃ v1 v2, e = .returned (.tuple #[v1, v2]) ∧ Below w.heap.size w w' ∧ w'.ownsRow w.heap.size 23 2 v1 (spansG K).length (flatS (spansG K)) ∧ w'.ownsRow w.heap.size 2 1 v2 (numsG K).length ((numsG K).map (Value.int .i64))

set_option maxRecDepth 100000 in
set_option maxHeartbeats 4000000 in
theorem guesses_any (G : List (Int × Int × Int)) (hG : OkG G) (hl : G.length ≤ 9223372036854775807) (v : Value) (w : World) (h : ReadsG w v G) : Calls Try.prog 40 #[v] w (GotG w (keptG G)) := by
  obtain ⟨A, c, rfl, hk⟩ := h
  have HK := Lib.hid hk
  have HG := Lib.hid hG
  clear hk hG
  obtain ⟨i0, hi, hz0, hz1, hz2⟩ := info_parts infoSpan
  obtain ⟨j0, ji, jz0, jz1, jz2⟩ := info_parts infoI64
  go_enter Try.func40, Try.ntmps40
  go_wp2_with fail
  go_loopw [4, 5, 10] (fun v1 v2 i wr => ∃ k : Nat, i = .int .i64 k ∧ k ≤ G.length ∧ Hid (wr.ownsRow w.heap.size 23 2 v1 (spansG (keptG (G.take k))).length (flatS (spansG (keptG (G.take k))))) ∧ Hid (wr.ownsRow w.heap.size 2 1 v2 (numsG (keptG (G.take k))).length ((numsG (keptG (G.take k))).map (Value.int .i64))) ∧ Below w.heap.size w wr) (fun _ _ i _ => G.length - (intOf i).toNat)
  case atStart => exact ⟨0, rfl, by omega, Lib.hid ⟨rfl, Or.inl ⟨rfl, rfl⟩⟩, Lib.hid ⟨rfl, Or.inl ⟨rfl, rfl⟩⟩, Below.refl _ _⟩
  case round =>
    obtain ⟨k, rfl, hkl, HO1, HO2, hB⟩ := hrel
    by_cases gk : k < G.length
    · obtain ⟨⟨x, y, a⟩, hx⟩ : ∃ s, G[k]? = some s := ⟨_, List.getElem?_eq_getElem gk⟩
      obtain ⟨bb, off, rfl, hbw, hc1, hc2, hc3⟩ := HK.out k _ hx
      have c1 := (hB.cell (p := ⟨bb, off + k * 3, none⟩) hbw).trans hc1
      have c2 := (hB.cell (p := ⟨bb, off + k * 3 + 1, none⟩) hbw).trans hc2
      have c3 := (hB.cell (p := ⟨bb, off + k * 3 + 2, none⟩) hbw).trans hc3
      simp only at c1 c2 c3
      have i1 : (k : Int) < (G.length : Int) := by omega
      have i0' : (0 : Int) ≤ (k : Int) := by omega
      have HX := Lib.hid hx
      obtain ⟨x1, x2, y1, y2, a1, a2⟩ := HG.out _ (List.mem_of_getElem? hx)
      simp only at x1 x2 y1 y2 a1 a2
      clear hc1 hc2 hc3 hx
      have KL := keptG_length (G.take k)
      have L1 : (spansG (keptG (G.take k))).length ≤ 20 := by unfold spansG; rw [List.length_map]; exact KL
      have L2 : (numsG (keptG (G.take k))).length ≤ 20 := by unfold numsG; rw [List.length_map]; exact KL
      clear KL
      by_cases g20 : k < 20
      · have g20' : (k : Int) < 20 := by omega
        by_cases gx : x ≤ y
        · have EQ := Lib.hid (keptG_next HX.out g20 gx)
          have LI := Lib.hid (fun W => lies_any x y a gx x1 y2 a1 a2 W)
          have E1 := Lib.hid (show spansG (keptG (G.take (k + 1))) = spansG (keptG (G.take k)) ++ [(x, y)] by rw [EQ.out]; unfold spansG; rw [List.map_append]; rfl)
          have E2 := Lib.hid (show numsG (keptG (G.take (k + 1))) = numsG (keptG (G.take k)) ++ [liesG x y a] by rw [EQ.out]; unfold numsG; rw [List.map_append]; rfl)
          clear EQ HK HG HX x1 x2 y1 y2 a1 a2
          generalize spansG (keptG (G.take k)) = P at *
          generalize numsG (keptG (G.take k)) = Q at *
          generalize liesG x y a = z at *
          generalize hP : P.length = n1 at *
          generalize hQ : Q.length = n2 at *
          replace hP := Lib.hid hP
          replace hQ := Lib.hid hQ
          have HNE := Lib.hid (owns_lt HO2.out _ (Nat.le_refl _))
          go_wp2_with fail
          refine region_keeps (w0 := w) (L := [(wr.heap.size, 0, .int .i64 x), (wr.heap.size, 1, .int .i64 y), (wr.heap.size, 2, .int .u64 a)]) (by kernel_rfl) ⟨hB.alloc hB.size _, by simp [Cells, go_sem]⟩ (fun hHeld0 => ?_)
          refine wpAnyH_take (i := 0) (oi := ⟨some 26, _, _, _, _, _⟩) (v := ?_) rfl (by kernel_rfl) (by kernel_rfl) (by kernel_rfl) (fun _ _ _ h => h) (Or.inl ⟨by rfl, ?_⟩) (by assumption) ?_
          rotate_left
          · intro wq hSw; go_simp; (try with_reducible rfl)
          try simp only [Act.put, List.setIfInBounds_toArray, List.set_cons_zero, List.set_cons_succ]
          refine wpAnyH_take (i := 1) (oi := ⟨some 27, _, _, _, _, _⟩) (v := ?_) rfl (by kernel_rfl) (by kernel_rfl) (by kernel_rfl) (fun _ _ _ h => h) (Or.inl ⟨by rfl, ?_⟩) (by assumption) ?_
          rotate_left
          · intro wq hSw; go_simp; (try with_reducible rfl)
          try simp only [Act.put, List.setIfInBounds_toArray, List.set_cons_zero, List.set_cons_succ]
          refine wpAnyH_take (i := 2) (oi := ⟨some 28, _, _, _, _, _⟩) (v := ?_) rfl (by kernel_rfl) (by kernel_rfl) (by kernel_rfl) (fun _ _ _ h => h) (Or.inl ⟨by rfl, ?_⟩) (by assumption) ?_
          rotate_left
          · intro wq hSw; obtain ⟨⟨qz0, qc0, qf0⟩, ⟨qz1, qc1, qf1⟩, ⟨qz2, qc2, qf2⟩, _⟩ := hSw.2; go_simp; (try with_reducible rfl)
          try simp only [Act.put, List.setIfInBounds_toArray, List.set_cons_zero, List.set_cons_succ]
          refine wpAnyH_take (i := 5) (oi := ⟨some 31, _, _, _, _, _⟩) (v := ?_) rfl (by kernel_rfl) (by kernel_rfl) (by kernel_rfl) (fun _ _ _ h => h) (Or.inl ⟨by rfl, ?_⟩) (by assumption) ?_
          rotate_left
          · intro wq hSw; go_simp; (try with_reducible rfl)
          try simp only [Act.put, List.setIfInBounds_toArray, List.set_cons_zero, List.set_cons_succ]
          refine wpAnyH_take (i := 6) (oi := ⟨some 32, _, _, _, _, _⟩) (v := ?_) rfl (by kernel_rfl) (by kernel_rfl) (by kernel_rfl) (fun _ _ _ h => h) (Or.inl ⟨by rfl, ?_⟩) (by assumption) ?_
          rotate_left
          · intro wq hSw; obtain ⟨⟨qz0, qc0, qf0⟩, ⟨qz1, qc1, qf1⟩, ⟨qz2, qc2, qf2⟩, _⟩ := hSw.2; go_simp; (try with_reducible rfl)
          try simp only [Act.put, List.setIfInBounds_toArray, List.set_cons_zero, List.set_cons_succ]
          refine wpAnyH_ready (rs := [3]) (by kernel_rfl) (by simp) ?_
          refine AllReadyH.cons (o := ⟨some 29, _, _, _, _, _⟩) rfl (fun K hK => ?_) AllReadyH.nil
          go_simp
          refine hK.out _ _ (by first | exact hHeld0.alloc _ | exact (hHeld0.alloc _).drew) (fun hHeld1 => ?_)
          clear hK K
          try clear hb
          try simp only [Act.put, List.setIfInBounds_toArray, List.set_cons_zero, List.set_cons_succ]
          refine wpAnyH_ready (rs := [4]) (by kernel_rfl) (by simp) ?_
          refine AllReadyH.cons (o := ⟨some 30, _, _, _, _, _⟩) rfl (fun K hK => ?_) AllReadyH.nil
          (refine if_wanted rfl ?_; refine wp_append_own _ (.tmp 26) (.tmp 29) 45 rfl w.heap.size 23 i0 (.agg #[.int .i64 0, .int .i64 0]) 2 16 Try.underlying45 hi hz0 hz1 hz2 rfl (by decide) _ _ _ rfl (owns_below HO1.out (by go_grown)) ⟨wr.heap.size + 1, 0, none⟩ 1 1 [.int .i64 x, .int .i64 y] rfl rfl (new_cells2 (by simp)) (by intro u hu; simp at hu; rcases hu with rfl | rfl <;> rfl) (by unfold maxLen; omega) (by omega) (hHeld1).1.size (fun v5 w5 hown5 hgrow5 _ => ?_); have HO2' := Lib.hid (owns_other (owns_below HO2.out (by go_grown)) (owns_below HO1.out (by go_grown)) (by decide) hgrow5))
          refine hK.out _ _ (((hHeld1).grows (owns_below HO1.out (by go_grown)) (Nat.le_refl _) (by intro q hq; simp at hq; rcases hq with rfl | rfl | rfl <;> exact owns_lt HO1.out _ (Nat.le_refl _)) hgrow5)) (fun hHeld2 => ?_)
          clear hK K
          try clear hb
          try simp only [Act.put, List.setIfInBounds_toArray, List.set_cons_zero, List.set_cons_succ]
          refine wpAnyH_ready (rs := [7]) (by kernel_rfl) (by simp) ?_
          refine AllReadyH.cons (o := ⟨some 33, _, _, _, _, _⟩) rfl (fun K hK => ?_) AllReadyH.nil
          go_simp
          (with_reducible refine (LI.out _).mono ?_); rintro e w6 ⟨rfl, hb⟩; have HO1b := Lib.hid (owns_below hown5 hb); have HO2b := Lib.hid (owns_below HO2'.out hb)
          refine hK.out _ _ (hHeld2.next hb) (fun hHeld3 => ?_)
          clear hK K
          try clear hb
          try simp only [Act.put, List.setIfInBounds_toArray, List.set_cons_zero, List.set_cons_succ]
          refine wpAnyH_ready (rs := [8]) (by kernel_rfl) (by simp) ?_
          refine AllReadyH.cons (o := ⟨some 34, _, _, _, _, _⟩) rfl (fun K hK => ?_) AllReadyH.nil
          go_simp
          refine hK.out _ _ (by first | exact hHeld3.alloc _ | exact (hHeld3.alloc _).drew) (fun hHeld4 => ?_)
          clear hK K
          try clear hb
          try simp only [Act.put, List.setIfInBounds_toArray, List.set_cons_zero, List.set_cons_succ]
          refine wpAnyH_ready (rs := [9]) (by kernel_rfl) (by simp) ?_
          refine AllReadyH.cons (o := ⟨some 35, _, _, _, _, _⟩) rfl (fun K hK => ?_) AllReadyH.nil
          (refine if_wanted rfl ?_; refine wp_append_own _ (.tmp 31) (.tmp 34) 63 rfl w.heap.size 2 j0 (.int .i64 0) 1 8 Try.underlying63 ji jz0 jz1 jz2 rfl (by decide) _ _ _ rfl (owns_below HO2b.out (by go_grown)) ⟨w6.heap.size, 0, none⟩ 1 1 [.int .i64 z] rfl rfl (new_cells1 rfl) (by intro u hu; simp at hu; subst hu; rfl) (by unfold maxLen; omega) (by omega) (hHeld4).1.size (fun v8 w8 hown8 hgrow8 _ => ?_); have HO1c := Lib.hid (owns_other (owns_below HO1b.out (by go_grown)) (owns_below HO2b.out (by go_grown)) (by decide) hgrow8))
          refine hK.out _ _ (((hHeld4).grows (owns_below HO2b.out (by go_grown)) (Nat.le_refl _) (by intro q hq; simp at hq; rcases hq with rfl | rfl | rfl <;> exact HNE.out) hgrow8)) (fun hHeld5 => ?_)
          clear hK K
          try clear hb
          try simp only [Act.put, List.setIfInBounds_toArray, List.set_cons_zero, List.set_cons_succ]
          refine wpAnyH_take (i := 10) (oi := ⟨some 4, _, _, _, _, _⟩) (v := ?_) rfl (by kernel_rfl) (by kernel_rfl) (by kernel_rfl) (fun _ _ _ h => h) (Or.inl ⟨by rfl, ?_⟩) (by assumption) ?_
          rotate_left
          · intro wq hSw; go_simp; (try with_reducible rfl)
          try simp only [Act.put, List.setIfInBounds_toArray, List.set_cons_zero, List.set_cons_succ]
          refine wpAnyH_take (i := 11) (oi := ⟨some 5, _, _, _, _, _⟩) (v := ?_) rfl (by kernel_rfl) (by kernel_rfl) (by kernel_rfl) (fun _ _ _ h => h) (Or.inl ⟨by rfl, ?_⟩) (by assumption) ?_
          rotate_left
          · intro wq hSw; go_simp; (try with_reducible rfl)
          try simp only [Act.put, List.setIfInBounds_toArray, List.set_cons_zero, List.set_cons_succ]
          refine wpAnyH_done (by kernel_rfl) ?_ _
          have hHeld := hHeld5
          obtain ⟨⟨kz0, kc0, kf0⟩, ⟨kz1, kc1, kf1⟩, ⟨kz2, kc2, kf2⟩, _⟩ := hHeld.2
          all_goals
            go_wp2_with fail
            go_roundw
            case rel =>
              refine ⟨k + 1, by simp, by omega, Lib.hid ?_, Lib.hid ?_, hHeld.1⟩
              · rw [E1.out, List.length_append, flatS_app, hP.out]; exact HO1c.out
              · rw [E2.out, List.length_append, List.map_append, hQ.out]; exact hown8
            case measure => simp [intOf]; omega
        · have EQ := Lib.hid (keptG_skip HX.out gx)
          clear HK HG HX x1 x2 y1 y2 a1 a2 L1 L2
          go_wp2_with fail
          go_roundw
          case rel =>
            refine ⟨k + 1, by simp, by omega, Lib.hid ?_, Lib.hid ?_, hB.alloc hB.size _⟩
            · rw [EQ.out]; exact owns_below HO1.out (below_alloc _ _)
            · rw [EQ.out]; exact owns_below HO2.out (below_alloc _ _)
          case measure => simp [intOf]; omega
      · have EQ := Lib.hid (keptG_late (l := G) g20)
        have g20' : ¬ (k : Int) < 20 := by omega
        clear HK HG HX x1 x2 y1 y2 a1 a2 L1 L2
        go_wp2_with fail
        go_roundw
        case rel =>
          refine ⟨k + 1, by simp, by omega, Lib.hid ?_, Lib.hid ?_, hB.alloc hB.size _⟩
          · rw [EQ.out]; exact owns_below HO1.out (below_alloc _ _)
          · rw [EQ.out]; exact owns_below HO2.out (below_alloc _ _)
        case measure => simp [intOf]; omega
    · have i1 : ¬ (k : Int) < (G.length : Int) := by omega
      have ET : G.take k = G := List.take_of_length_le (by omega)
      rw [ET] at HO1 HO2
      clear ET
      go_wp2_with fail
      go_ret2
      exact ⟨_, _, rfl, hB, HO1.out, HO2.out⟩
end Go.Proofs.Ytmnndbafljngiaa
