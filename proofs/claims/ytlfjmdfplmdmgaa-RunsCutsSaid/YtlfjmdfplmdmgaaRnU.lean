/-
  Layer 7: runs: Clip. Conditions: those written at each fact.
-/
import Derived.Test.YtlfjmdfplmdmgaaRnT
namespace Go.Proofs.Ytlfjmdfplmdmgaa
open Go.RowKit Go.Shelf
attribute [local go_sem] Oper.semAt_some

set_option maxRecDepth 100000 in
set_option maxHeartbeats 2000000 in
theorem clipA_any (l : List Rn) (hl : l.length ≤ 1000000) (a b : Int) (v : Value) (w : World) (h : ReadsR w v l) : Calls Try.prog 25 #[v, .int .i64 a, .int .i64 b] w (Ret w (.tuple #[.int .i64 (clipL l a), .int .i64 (clipH l a b)])) := by
  have CH := Lib.hid (fun W (hb : Below w.heap.size w W) => checkA_any l hl v W (h.below hb))
  have hr := h
  obtain ⟨A, c, rfl, hc, hk⟩ := h
  cases gk : okB l
  · have HE := Lib.hid (And.intro (show clipL l a = 0 by simp [clipL, gk]) (show clipH l a b = 0 by simp [clipH, gk]))
    replace CH : Hid (∀ W, Below w.heap.size w W → Calls Try.prog 15 #[.slice A l.length c] W (Ret W (.int .i64 170))) := Lib.hid (fun W hb => by have := CH.out W hb; rwa [gk] at this)
    clear gk hr hk
    generalize clipL l a = x at *
    generalize clipH l a b = y at *
    go_enter Try.func25, Try.ntmps25
    go_wp2_with fail
    have hb2 := (boxes2 w 2 2 (.int .i64 a) (.int .i64 b)).2.2
    refine (CH.out _ hb2).mono ?_
    rintro e w1 ⟨rfl, hb1⟩
    go_wp2_with fail
    go_returns
    exact ⟨by rw [HE.out.1, HE.out.2]; rfl, under hb2 hb1⟩
  obtain ⟨hne, hR, hT, hl2⟩ := okB_facts gk
  have hTL := timesR_length (l := l) (fun r hr => by have := (hR r hr).1; omega)
  have HE := Lib.hid (And.intro (show clipL l a = (belowN (timesR l) a : Int) by simp [clipL, gk]) (show clipH l a b = max (belowN (timesR l) a : Int) (uptoN (timesR l) b : Int) by simp [clipH, gk]))
  replace CH : Hid (∀ W, Below w.heap.size w W → Calls Try.prog 15 #[.slice A l.length c] W (Ret W (.int .i64 0))) := Lib.hid (fun W hb => by have := CH.out W hb; rwa [gk] at this)
  clear gk
  generalize clipL l a = x at *
  generalize clipH l a b = y at *
  refine calls_marks Try.func25 rfl ?_
  simp only [Try.ntmps25, List.size_toArray, List.length_cons, List.length_nil, Nat.reduceAdd, Nat.reduceSub, Array.replicate_succ, Array.replicate_zero, List.push_toArray, List.append_toArray, List.nil_append, List.cons_append]
  go_wp2_with fail
  obtain ⟨bx1, bx2, hb2⟩ := boxes2 w 2 2 (.int .i64 a) (.int .i64 b)
  refine (CH.out _ hb2).mono ?_
  rintro e w1 ⟨rfl, hb1⟩
  have hb21 := under hb2 hb1
  have a1 : Boxed w1 w.heap.size 2 (.int .i64 a) := (hb1.block _ bx1.lt).trans bx1
  have a2 : Boxed w1 (w.heap.size + 1) 2 (.int .i64 b) := (hb1.block _ bx2.lt).trans bx2
  have hs1 : w.heap.size + 2 ≤ w1.heap.size := by have := hb1.size; simpa using this
  clear hb1 bx1 bx2 hb2
  go_wp2_with (go_at_call 39; refine (all_any _ _ _ _ _ rfl).mono ?_; rintro e w' ⟨rfl, rfl⟩)
  obtain ⟨b1, b2, b3, b4⟩ := boxes3 w1 3 3 22 (.int .i64 0) (.int .i64 0) (.slice A l.length c)
  obtain ⟨W2, hW2⟩ : ∃ W2, W2 = (((w1.alloc (.cells #[.int .i64 0] 3)).alloc (.cells #[.int .i64 0] 3)).alloc (.cells #[.slice A l.length c] 22)) := ⟨_, rfl⟩
  rw [← hW2] at b1 b2 b3 b4 ⊢
  have hs2 : W2.heap.size = w1.heap.size + 3 := by rw [hW2]; simp
  have hXN : Hangs (X2 w1.heap.size (w1.heap.size + 1)) w1.heap.size := X2_hangs _ _ _
  have hbw : Below w.heap.size w W2 := under hb21 b4
  have a3 : Boxed W2 w.heap.size 2 (.int .i64 a) := (b4.block _ a1.lt).trans a1
  have a4 : Boxed W2 (w.heap.size + 1) 2 (.int .i64 b) := (b4.block _ a2.lt).trans a2
  have hseq := all1_stops (α := Int × Int) id (numR 0 (timesR l)) (X2 w1.heap.size (w1.heap.size + 1)) w1.heap.size hXN l (by omega) hR (List.map_id _) (by rw [numR_length]; omega) A c (w1.heap.size + 2) W2 (by omega) ⟨hr.below hbw, fun b' off hne' e hx => by
      obtain ⟨r, l', rfl⟩ := List.exists_cons_of_ne_nil hne'
      obtain ⟨b'', off', e1, e2, _⟩ := hk 0 r rfl
      rw [e] at e1
      cases e1
      rcases hx with hx | hx <;> omega, fun k hx => by rcases hx with hx | hx <;> omega⟩ b3
  have hNL := numR_length 0 (timesR l)
  have hNM := numR_map 0 (timesR l)
  have HNM := Lib.hid hNM
  clear hW2 hr hk hR a1 a2 b3 b4 hNM
  refine wp_rangeC (X := X2 w1.heap.size (w1.heap.size + 1)) (b := w1.heap.size) hXN (by omega) (gf := 66) (lb := #[.pointer (some ⟨w1.heap.size + 1 + 1, 0, none⟩)]) rfl (enters_of Try.func66 (by kernel_rfl) rfl)
    hseq (fun _ => rfl)
    (fun pre W' => (Boxed W' w.heap.size 2 (.int .i64 a) ∧ Boxed W' (w.heap.size + 1) 2 (.int .i64 b)) ∧ Boxed W' w1.heap.size 3 (.int .i64 (belowN (pre.map (·.2)) a)) ∧ Boxed W' (w1.heap.size + 1) 3 (.int .i64 (uptoN (pre.map (·.2)) b)) ∧ Below w.heap.size w W') (fun _ _ _ => False)
    ?oI (fun _ _ _ _ _ hs _ _ => hs) ⟨⟨a3, a4⟩, b1, b2, hbw⟩
    (fun d => { tmps := #[Value.slice A l.length c, Value.int .i64 a, Value.int .i64 b, undef, Value.pointer (some ⟨w.heap.size, 0, none⟩), Value.pointer (some ⟨w.heap.size + 1, 0, none⟩), Value.int .i64 0, Value.int .i64 0, Value.pointer (some ⟨w1.heap.size, 0, none⟩), Value.pointer (some ⟨w1.heap.size + 1, 0, none⟩), undef, .int .i64 d.2, Value.slice A l.length c, Value.int .i64 0, Value.bool false, Value.slice A l.length c, Value.func (Fn.func 66) #[] #[Value.pointer (some ⟨w1.heap.size + 1 + 1, 0, none⟩)], .int .i64 d.1, .int .i64 d.2, undef, undef, undef, undef, undef, undef, undef, undef, undef, undef, undef, undef, undef, undef], defers := [] }) ?assign ?body ?done ?stop
  case oI =>
    intro pre W1 W1' row ⟨⟨h1, h2⟩, h3, h4, h5⟩ hgr hr
    have hr2 : ∀ r, row = some r → ∃ o : Obj, W1.heap[r]? = some o ∧ o.isCells = false := fun r e => (hr r e).2
    exact ⟨⟨boxed_grown h1 hgr hr2, boxed_grown h2 hgr hr2⟩, boxed_grown h3 hgr hr2, boxed_grown h4 hgr hr2, below_grown (C := W2.heap.size) hbw.size h5 hgr (fun r e => (hr r e).1)⟩
  case assign =>
    intro l' d W K hK
    gi_wp2
    simpa using hK
  case body =>
    rintro l' pre ⟨p, z⟩ W1 ⟨⟨h1, h2⟩, h3, h4, h5⟩ hlt
    have hpl : pre.length ≤ 256 := by omega
    have hB1 := belowN_snoc (pre.map (·.2)) z a
    have hU1 := uptoN_snoc (pre.map (·.2)) z b
    have hBl : belowN (pre.map (·.2)) a ≤ 256 := Nat.le_trans (belowN_le _ _) (by rw [List.length_map]; exact hpl)
    have hUl : uptoN (pre.map (·.2)) b ≤ 256 := Nat.le_trans (uptoN_le _ _) (by rw [List.length_map]; exact hpl)
    have hma : (pre ++ [(p, z)]).map (·.2) = pre.map (·.2) ++ [z] := by simp
    have HM := Lib.hid hma
    generalize belowN (pre.map (·.2)) a = n at *
    generalize uptoN (pre.map (·.2)) b = m at *
    have hc1 := h1.cell
    have hc2 := h2.cell
    have hc3 := h3.cell
    have hc4 := h4.cell
    have hf3 := h3.frozen
    have hf4 := h4.frozen
    have H1 := Lib.hid h1
    have H2 := Lib.hid h2
    have H3 := Lib.hid h3
    have H4 := Lib.hid h4
    have H5 := Lib.hid h5
    have HB := Lib.hid hB1
    have HU := Lib.hid hU1
    clear h1 h2 h3 h4 h5 hseq b1 b2 a3 a4 hlt hB1 hU1 hma hpl
    have n1 : w.heap.size ≠ w1.heap.size := by omega
    have n2 : w.heap.size ≠ w1.heap.size + 1 := by omega
    have n3 : w.heap.size + 1 ≠ w1.heap.size := by omega
    have n4 : w.heap.size + 1 ≠ w1.heap.size + 1 := by omega
    have N := Lib.hid (And.intro n1 (And.intro n2 (And.intro n3 n4)))
    have hge : w.heap.size ≤ w1.heap.size := by omega
    clear n1 n2 n3 n4
    by_cases g1 : z < a
    · obtain ⟨wa, hwa⟩ : ∃ wa, W1.setCell ⟨w1.heap.size, 0, none⟩ (.int .i64 ((n : Int) + 1)) = wa := ⟨_, rfl⟩
      have k1 : Boxed wa w.heap.size 2 (.int .i64 a) := hwa ▸ (Below.heap_setCell W1 _ _ _ N.out.1).trans H1.out
      have k2 : Boxed wa (w.heap.size + 1) 2 (.int .i64 b) := hwa ▸ (Below.heap_setCell W1 _ _ _ N.out.2.2.1).trans H2.out
      have k3 : Boxed wa w1.heap.size 3 (.int .i64 ((n : Int) + 1)) := hwa ▸ H3.out.set _
      have k4 : Boxed wa (w1.heap.size + 1) 3 (.int .i64 m) := hwa ▸ (Below.heap_setCell W1 _ _ _ (by simp)).trans H4.out
      have k5 : Below w.heap.size w wa := hwa ▸ H5.out.setCell (p := ⟨w1.heap.size, 0, none⟩) hge _
      have k6 : KeepsC (X2 w1.heap.size (w1.heap.size + 1)) W1 wa := hwa ▸ keepsC_set (.inl rfl) _
      have k7 : KeepsOthers W1 wa := hwa ▸ KeepsOthers.setCell _ _ _
      have e2 := k2.cell
      have e4 := k4.cell
      have f4 := k4.frozen
      have HBe : Hid ((belowN ((pre ++ [(p, z)]).map (·.2)) a : Int) = (n : Int) + 1) := Lib.hid (by rw [HM.out, HB.out, if_pos g1]; rfl)
      have K1 := Lib.hid k1
      have K2 := Lib.hid k2
      have K3 := Lib.hid k3
      have K4 := Lib.hid k4
      have K5 := Lib.hid k5
      have K6 := Lib.hid k6
      have K7 := Lib.hid k7
      clear k1 k2 k3 k4 k5 k6 k7
      by_cases g2 : z ≤ b
      · have HUe : Hid ((uptoN ((pre ++ [(p, z)]).map (·.2)) b : Int) = (m : Int) + 1) := Lib.hid (by rw [HM.out, HU.out, if_pos g2]; rfl)
        gi_wp2
        refine ⟨(K7.out.trans (KeepsOthers.setCell _ _ _)).from _, K6.out.trans (keepsC_set (.inr rfl) _), ⟨(Below.heap_setCell wa _ _ _ N.out.2.1).trans K1.out, (Below.heap_setCell wa _ _ _ N.out.2.2.2).trans K2.out⟩, ?_, ?_, K5.out.setCell (p := ⟨w1.heap.size + 1, 0, none⟩) (by simp; omega) _⟩
        · rw [HBe.out]; exact (Below.heap_setCell wa _ _ _ (by simp)).trans K3.out
        · rw [HUe.out]; exact K4.out.set _
      · have HUe : Hid ((uptoN ((pre ++ [(p, z)]).map (·.2)) b : Int) = (m : Int)) := Lib.hid (by rw [HM.out, HU.out, if_neg g2]; rfl)
        gi_wp2
        exact ⟨K7.out.from _, K6.out, ⟨K1.out, K2.out⟩, by rw [HBe.out]; exact K3.out, by rw [HUe.out]; exact K4.out, K5.out⟩
    · have HBe : Hid ((belowN ((pre ++ [(p, z)]).map (·.2)) a : Int) = (n : Int)) := Lib.hid (by rw [HM.out, HB.out, if_neg g1]; rfl)
      by_cases g2 : z ≤ b
      · have HUe : Hid ((uptoN ((pre ++ [(p, z)]).map (·.2)) b : Int) = (m : Int) + 1) := Lib.hid (by rw [HM.out, HU.out, if_pos g2]; rfl)
        gi_wp2
        refine ⟨(KeepsOthers.setCell _ _ _).from _, keepsC_set (.inr rfl) _, ⟨(Below.heap_setCell W1 _ _ _ N.out.2.1).trans H1.out, (Below.heap_setCell W1 _ _ _ N.out.2.2.2).trans H2.out⟩, ?_, ?_, H5.out.setCell (p := ⟨w1.heap.size + 1, 0, none⟩) (by simp; omega) _⟩
        · rw [HBe.out]; exact (Below.heap_setCell W1 _ _ _ (by simp)).trans H3.out
        · rw [HUe.out]; exact H4.out.set _
      · have HUe : Hid ((uptoN ((pre ++ [(p, z)]).map (·.2)) b : Int) = (m : Int)) := Lib.hid (by rw [HM.out, HU.out, if_neg g2]; rfl)
        gi_wp2
        exact ⟨KeepsFrom.refl _ _, ⟨Nat.le_refl _, fun _ h => .inl h, fun _ _ h _ _ => h⟩, ⟨H1.out, H2.out⟩, by rw [HBe.out]; exact H3.out, by rw [HUe.out]; exact H4.out, H5.out⟩
  case done =>
    rintro D ys W1 hD rfl ⟨_, h3, h4, h5⟩ hK
    rw [HNM.out] at h3 h4
    obtain ⟨e1, e2⟩ := HE.out
    generalize belowN (timesR l) a = n at *
    generalize uptoN (timesR l) b = m at *
    have hc3 := h3.cell
    have hc4 := h4.cell
    have HX := Lib.hid (And.intro e1 e2)
    clear hseq b1 b2 a3 a4 e1 e2 HE
    go_wp2_with fail
    go_quiet (fail)
    go_wp2_with fail
    have hK' : (W1.drewN nq).heap[D]? = some (.deferred (some [])) := hK
    refine ⟨by simp, .inl ⟨_, _, rfl, run_takeDeferred hK', ?_⟩⟩
    refine ⟨.tuple #[.int .i64 n, .int .i64 (max (n : Int) m)], by simp [results, Try.results25, go_sem], by rw [HX.out.1, HX.out.2], ?_⟩
    exact below_grown (C := W2.heap.size) hbw.size (below_drewN h5 nq) (grownBy_putObj' (W1.drewN nq) D _) (fun r e => by cases e; exact hD)
  case stop =>
    rintro D c' pre W1 _ _ h _
    exact h.elim
end Go.Proofs.Ytlfjmdfplmdmgaa
