/-
  Layer 9: the law SwingWider's walk. Conditions: those written at each fact.
-/
import Derived.Test.YtlhjijigpjfokaaSwR
import Derived.Laws.OwnMore
namespace Go.Proofs.Ytlhjijigpjfokaa.P9
open Go.RowKit Go.Shelf Go.Proofs.Ytlhjijigpjfokaa.P8

theorem owns_place {w : World} {B : Nat} {e : TypeId} {s n : Nat} {v : Value} {xs : List Value} (h : w.ownsRow B e s v n xs) (hn : 1 ≤ n) : ∃ g c, v = .slice (some ⟨g, 0, none⟩) n c ∧ B ≤ g ∧ n ≤ c := by
  rcases h.2 with ⟨_, h0⟩ | ⟨g, cap, cur, rfl, hb, _, hc, _⟩
  · omega
  · exact ⟨g, cap, rfl, hb, hc⟩
theorem flatD_set1 (x : Int) : ∀ (l : List Bd) (k : Nat) (t a d : Int), l[k]? = some ⟨t, a, d⟩ → (flatD l).set (k * 3 + 1) (.int .i64 x) = flatD (l.set k ⟨t, x, d⟩)
  | [], k, t, a, d, h => by simp at h
  | b :: l, 0, t, a, d, h => by simp at h; subst h; simp [flatD]
  | b :: l, k + 1, t, a, d, h => by
    have ih := flatD_set1 x l k t a d (by simpa using h)
    rw [show (k + 1) * 3 + 1 = (k * 3 + 1) + 1 + 1 + 1 by omega]
    simp only [flatD, List.set_cons_succ]
    rw [ih]
theorem flatD_set2 (x : Int) : ∀ (l : List Bd) (k : Nat) (t a d : Int), l[k]? = some ⟨t, a, d⟩ → (flatD l).set (k * 3 + 2) (.int .i64 x) = flatD (l.set k ⟨t, a, x⟩)
  | [], k, t, a, d, h => by simp at h
  | b :: l, 0, t, a, d, h => by simp at h; subst h; simp [flatD]
  | b :: l, k + 1, t, a, d, h => by
    have ih := flatD_set2 x l k t a d (by simpa using h)
    rw [show (k + 1) * 3 + 2 = (k * 3 + 2) + 1 + 1 + 1 by omega]
    simp only [flatD, List.set_cons_succ]
    rw [ih]
/-- Bands that became wider about the same middle. -/
def WidT (m M : List Bd) : Prop := m.length = M.length ∧ ∀ (i : Nat) (b c : Bd), m[i]? = some b → M[i]? = some c → c.t = b.t ∧ c.lo + c.hi = b.lo + b.hi ∧ c.lo ≤ b.lo ∧ b.hi ≤ c.hi ∧ -2305844108725321728 ≤ c.lo ∧ c.hi ≤ 2305844108725321728
theorem WidT.refl {m : List Bd} (h : ∀ b ∈ m, BdOk b) : WidT m m := ⟨rfl, fun i b c h1 h2 => by
  rw [h1] at h2
  cases h2
  obtain ⟨_, _, _, h3, h4⟩ := h b (List.mem_of_getElem? h1)
  omega⟩
theorem WidT.set {m M : List Bd} (h : WidT m M) {k : Nat} {t a d z : Int} (hk : M[k]? = some ⟨t, a, d⟩) (hz : 0 ≤ z) (h1 : -2305844108725321728 + z ≤ a) (h2 : d ≤ 2305844108725321728 - z) : WidT m (M.set k ⟨t, a - z, d + z⟩) := by
  refine ⟨by rw [List.length_set]; exact h.1, fun i b c hb hc => ?_⟩
  rw [List.getElem?_set] at hc
  split at hc
  · rename_i e
    subst e
    split at hc
    · cases hc
      have := h.2 k b _ hb hk
      simp only at this ⊢
      omega
    · cases hc
  · exact h.2 i b c hb hc
theorem WidT.at {m M : List Bd} (h : WidT m M) {c : Bd} (hc : c ∈ M) : ∃ b ∈ m, c.t = b.t ∧ c.lo + c.hi = b.lo + b.hi ∧ c.lo ≤ b.lo ∧ b.hi ≤ c.hi ∧ -2305844108725321728 ≤ c.lo ∧ c.hi ≤ 2305844108725321728 := by
  obtain ⟨i, hi⟩ := List.mem_iff_getElem?.1 hc
  have hl : i < m.length := by rw [h.1]; exact (List.getElem?_eq_some_iff.1 hi).1
  exact ⟨m[i], List.getElem_mem hl, h.2 i _ c (List.getElem?_eq_getElem hl) hi⟩
theorem WidT.ok {m M : List Bd} (h : WidT m M) (hm : okD m = true) : okD M = true := by
  obtain ⟨g1, g2, g3, g4⟩ := (okD_iff m).1 hm
  refine (okD_iff M).2 ⟨by rw [← h.1]; exact g1, by rw [← h.1]; exact g2, fun c hc => ?_, ?_⟩
  · obtain ⟨b, hb, h2⟩ := h.at hc
    have h3 := g3 b hb
    unfold BdOk at h3 ⊢
    omega
  · have e : M.map (·.t) = m.map (·.t) := by
      apply List.ext_getElem?
      intro i
      rw [List.getElem?_map, List.getElem?_map]
      by_cases hi : i < m.length
      · rw [List.getElem?_eq_getElem hi, List.getElem?_eq_getElem (h.1 ▸ hi)]
        have := h.2 i _ _ (List.getElem?_eq_getElem hi) (List.getElem?_eq_getElem (h.1 ▸ hi))
        simp [this.1]
      · have h0 := h.1; rw [List.getElem?_eq_none (by omega), List.getElem?_eq_none (by omega)]
    have p1 : (m.map (·.t)).Pairwise (· < ·) := List.pairwise_map.2 g4
    rw [← e] at p1
    exact List.pairwise_map.1 p1
theorem fit_full {m : List Bd} (hk : okD m = true) (hE : fitE m = 0) : firN m = m.length := by
  have h1 := (firN_le (okD_ne hk)).2
  by_cases g : firN m < m.length
  · rw [fitE, hk, if_pos rfl, if_pos g] at hE
    cases hE
  · omega
theorem full_fit {m : List Bd} (hk : okD m = true) (h : firN m = m.length) : fitE m = 0 ∧ (rowS m).length = 1 ∧ codeS m = 0 := by
  refine ⟨by rw [fitE, hk, h]; simp, ?_, by simp [codeS, hk]⟩
  have e : rowS m = partsS m := by simp [rowS, hk]
  rw [e, partsS_next (okD_ne hk), h, List.drop_length, partsS_nil]
  rfl
/-- Wider bands swing if the narrower ones do. -/
theorem wid_fits {m M : List Bd} (h : WidT m M) (hk : okD m = true) (hE : fitE m = 0) : fitE M = 0 ∧ (rowS M).length = 1 ∧ codeS M = 0 := by
  have hK := h.ok hk
  obtain ⟨b0, l, rfl⟩ := List.exists_cons_of_ne_nil (okD_ne hk)
  obtain ⟨c0, L, rfl⟩ := List.exists_cons_of_ne_nil (okD_ne hK)
  obtain ⟨hR, _⟩ := okD_times hk
  obtain ⟨hR', _⟩ := okD_times hK
  have h0 := open_ok (hR b0 (List.mem_cons_self ..))
  have hok := firX_ok (okD_ne hk) hR
  obtain ⟨f1, _⟩ := flat_ok hok
  have hd := ((slopeB_iff _ _).1 f1).2.2.1
  have hin := flat_in (firX_open (okD_ne hk))
  have hfold := (in_fold _ h0 (fun b hb => hR b (List.mem_of_mem_take hb)) hd).1 hin
  have hn := fit_full hk hE
  have hz := h.2 0 b0 c0 rfl rfl
  have hmid : mid c0 = mid b0 := by unfold mid; rw [hz.2.1]
  refine full_fit hK (all_in hR' f1 fun c hc ht => ?_).1
  obtain ⟨b, hb, e1, e2, e3, e4, _⟩ := h.at hc
  rw [hz.1, e1] at ht
  have hmem : b ∈ (b0 :: l).take (goS (open0 b0) (b0 :: l)) := by
    rw [show goS (open0 b0) (b0 :: l) = (b0 :: l).length from hn, List.take_length]
    exact hb
  have ho := hfold.2 b hmem ht
  unfold OkB at ho ⊢
  rw [hmid, hz.1, e1]
  simp only [open0] at ho
  generalize flatN (firX (b0 :: l)) = n at *
  generalize flatE (firX (b0 :: l)) = d at *
  have a1 := Int.mul_le_mul_of_nonneg_right (show c.lo - mid b0 ≤ b.lo - mid b0 by omega) (show (0 : Int) ≤ d by omega)
  have a2 := Int.mul_le_mul_of_nonneg_right (show b.hi - mid b0 ≤ c.hi - mid b0 by omega) (show (0 : Int) ≤ d by omega)
  exact ⟨Int.le_trans a1 ho.1, Int.le_trans ho.2 a2⟩
set_option maxRecDepth 100000 in
set_option maxHeartbeats 4000000 in
theorem wider_any (l : List Bd) (hl : l.length ≤ 9223372036854775807) (pl : List Int) (hpl : pl.length ≤ 9223372036854775807) (hpz : ∀ z ∈ pl, 0 ≤ z ∧ z ≤ 65535) (v v2 : Value) (w : World) (h : ReadsD w v l) (h2 : Reads .u16 w v2 pl) : Calls Try.prog 6 #[v, v2] w (Ret w (.bool true)) := by
  have WK := Lib.hid wakes_any
  have OW := Lib.hid (fun W (hb : Below w.heap.size w W) => own_any l hl v W (h.below hb))
  obtain ⟨A, c, rfl, _, _⟩ := h
  obtain ⟨Ap, cp, rfl, _, hkp⟩ := h2
  have HP := Lib.hid hkp
  have HPZ := Lib.hid hpz
  have hml : (l.take 260).length ≤ 260 := by rw [List.length_take]; omega
  generalize l.take 260 = m at *
  clear hkp hpz
  go_enter Try.func6, Try.ntmps6
  go_wp2_with fail
  refine (WK.out _).mono ?_
  rintro e w1 ⟨rfl, hb1⟩
  have HB1 := Lib.hid hb1
  go_wp2_with fail
  refine (OW.out w1 hb1).mono ?_
  rintro e w2 hh
  obtain ⟨hb2, A2, c2, rfl, hc2, hr2⟩ := hh.open
  have HB2 := Lib.hid (under hb1 hb2)
  have FI := Lib.hid (fit9_any m (by omega) _ w2 hr2)
  have H2 := Lib.hid hr2
  clear hh hb1 hb2 WK hr2
  go_wp2_with fail
  refine FI.out.mono ?_
  rintro e w3 ⟨rfl, hb3⟩
  have HB3 := Lib.hid (hb3.alloc hb3.size (.cells #[.int .i64 (fitA m), .int .i64 0, .int .i64 (fitN m), .int .i64 (fitD9 m)] 26))
  clear FI hb3
  by_cases hE : fitE m = 0
  · have hk : okD m = true := by
      cases gk : okD m
      · simp [fitE, gk] at hE
      · rfl
    obtain ⟨hm1, hm2, hR⟩ := okD_facts hk
    have HK := Lib.hid (And.intro hk (And.intro hE (full_fit hk (fit_full hk hE))))
    have HR := Lib.hid hR
    rw [hE]
    clear hE hk hR
    generalize fitA m = fa at *
    generalize fitN m = fx at *
    generalize fitD9 m = fy at *
    go_wp2_with fail
    refine (OW.out _ (under HB2.out HB3.out)).mono ?_
    rintro e w4 ⟨v4, rfl, hb4, ho4⟩
    obtain ⟨g, c4, rfl, hg, hc4⟩ := owns_place ho4 hm1
    have hb24 := under HB3.out hb4
    have HG := Lib.hid (show w2.heap.size ≤ g from Nat.le_trans HB3.out.size hg)
    have H4 := Lib.hid (owns_less ho4 (Nat.le_trans HB2.out.size HB3.out.size))
    have HB24 := Lib.hid hb24
    have B4 := under HB2.out hb24
    clear hb4 hb24 ho4 hg OW HB3
    go_wp2_with fail
    go_loopw [39] (fun i wr => ∃ (k : Nat) (M : List Bd), i = .int .i64 k ∧ k ≤ pl.length ∧ k ≤ m.length ∧ Hid (WidT m M) ∧ Hid (wr.ownsRow w.heap.size 34 3 (.slice (some ⟨g, 0, none⟩) m.length c4) m.length (flatD M)) ∧ Hid (Below w2.heap.size w2 wr) ∧ Below w.heap.size w wr) (fun i _ => pl.length - (intOf i).toNat)
    case atStart => exact ⟨0, m, rfl, by omega, by omega, Lib.hid (WidT.refl HR.out), H4, HB24, B4⟩
    case round =>
      obtain ⟨k, M, rfl, hkl, hkm, hN, hO, hW, hB⟩ := hrel
      clear H4 HB24 B4
      by_cases gp : k < pl.length
      · obtain ⟨z, hx⟩ : ∃ s, pl[k]? = some s := ⟨_, List.getElem?_eq_getElem gp⟩
        obtain ⟨z0, z9⟩ := HPZ.out z (List.mem_of_getElem? hx)
        obtain ⟨bp, offp, rfl, hbw, hc1⟩ := HP.out k _ hx
        have p1 := (hB.cell (p := ⟨bp, offp + k, none⟩) hbw).trans hc1
        have j1 : (k : Int) < (pl.length : Int) := by omega
        have i0 : (0 : Int) ≤ (k : Int) := by omega
        (try simp only at p1)
        clear hx hc1
        by_cases gk : k < m.length
        · have i1 : (k : Int) < (m.length : Int) := by omega
          have i2 : ¬ (k : Int) = (m.length : Int) := by omega
          obtain ⟨⟨t, a, d⟩, hM⟩ : ∃ s, M[k]? = some s := ⟨_, List.getElem?_eq_getElem (by rw [← hN.out.1]; exact gk)⟩
          obtain ⟨fa1, fa2, fa3⟩ := flatD_at M k _ hM
          have ML : M.length = m.length := hN.out.1.symm
          have c2' := (hO.out.cellAt (k * 3 + 1) (by omega)).trans fa2
          have c3 := (hO.out.cellAt (k * 3 + 2) (by omega)).trans fa3
          have z1 := hO.out.frozenAt (k * 3 + 1)
          have z2 := hO.out.frozenAt (k * 3 + 2)
          simp only at c2' c3
          have HGW : w.heap.size ≤ g := Nat.le_trans HB2.out.size HG.out
          obtain ⟨b, hb⟩ : ∃ s, m[k]? = some s := ⟨_, List.getElem?_eq_getElem gk⟩
          obtain ⟨_, _, o3, o4, o5, o6⟩ := hN.out.2 k b _ hb hM
          obtain ⟨_, _, o7, o8, o9⟩ := HR.out b (List.mem_of_getElem? hb)
          simp only at o3 o4 o5 o6
          obtain ⟨a2, e3⟩ : ∃ a2, a - z = a2 := ⟨_, rfl⟩
          obtain ⟨d2, e4⟩ : ∃ d2, d + z = d2 := ⟨_, rfl⟩
          have y3 : IntKind.i64.wrap (a - z) = a2 := by rw [IntKind.wrap_i64]; omega
          have y4 : IntKind.i64.wrap (d + z) = d2 := by rw [IntKind.wrap_i64]; omega
          have y5 : IntKind.i64.wrap z = z := by rw [IntKind.wrap_i64]; omega
          have y6 : wrap64 z = z := i64_keeps (by omega) (by omega)
          by_cases g1 : -2305844108725321728 + z ≤ a
          · have x1 : decide (-2305844108725321728 + z ≤ a) = true := decide_eq_true g1
            by_cases g2 : d ≤ 2305844108725321728 - z
            · have x2 : decide (d ≤ 2305844108725321728 - z) = true := decide_eq_true g2
              have HN := Lib.hid (hN.out.set hM z0 (by omega) (by omega))
              rw [e3, e4] at HN
              have HF1 := Lib.hid (flatD_set1 a2 M k t a d hM)
              have HF2 := Lib.hid (flatD_set2 d2 (M.set k ⟨t, a2, d⟩) k t a2 d (by rw [List.getElem?_set_self (by rw [ML]; exact gk)]))
              clear fa1 fa2 fa3 hb hM o3 o4 o5 o6 o7 o8 o9 e3 e4
              go_wp2_with fail
              refine region_keeps (w0 := w) (L := []) (by kernel_rfl) ⟨hB, trivial⟩ (fun hHeld0 => ?_)
              refine wpAnyH_take (i := 0) (oi := ⟨some 69, _, _, _, _, _⟩) (v := ?_) rfl (by kernel_rfl) (by kernel_rfl) (by kernel_rfl) (fun _ _ _ h => h) (Or.inl ⟨by rfl, ?_⟩) (by assumption) ?_
              rotate_left
              · intro wq hSw; go_simp; (try with_reducible rfl)
              try simp only [Act.put, List.setIfInBounds_toArray, List.set_cons_zero, List.set_cons_succ]
              refine wpAnyH_take (i := 1) (oi := ⟨some 70, _, _, _, _, _⟩) (v := ?_) rfl (by kernel_rfl) (by kernel_rfl) (by kernel_rfl) (fun _ _ _ h => h) (Or.inl ⟨by rfl, ?_⟩) (by assumption) ?_
              rotate_left
              · intro wq hSw; go_simp; (try with_reducible rfl)
              try simp only [Act.put, List.setIfInBounds_toArray, List.set_cons_zero, List.set_cons_succ]
              refine wpAnyH_take (i := 2) (oi := ⟨some 71, _, _, _, _, _⟩) (v := ?_) rfl (by kernel_rfl) (by kernel_rfl) (by kernel_rfl) (fun _ _ _ h => h) (Or.inl ⟨by rfl, ?_⟩) (by assumption) ?_
              rotate_left
              · intro wq hSw; go_simp; (try with_reducible rfl)
              try simp only [Act.put, List.setIfInBounds_toArray, List.set_cons_zero, List.set_cons_succ]
              refine wpAnyH_take (i := 3) (oi := ⟨some 72, _, _, _, _, _⟩) (v := ?_) rfl (by kernel_rfl) (by kernel_rfl) (by kernel_rfl) (fun _ _ _ h => h) (Or.inl ⟨by rfl, ?_⟩) (by assumption) ?_
              rotate_left
              · intro wq hSw; go_simp; (try with_reducible rfl)
              try simp only [Act.put, List.setIfInBounds_toArray, List.set_cons_zero, List.set_cons_succ]
              refine wpAnyH_take (i := 4) (oi := ⟨some 73, _, _, _, _, _⟩) (v := ?_) rfl (by kernel_rfl) (by kernel_rfl) (by kernel_rfl) (fun _ _ _ h => h) (Or.inl ⟨by rfl, ?_⟩) (by assumption) ?_
              rotate_left
              · intro wq hSw; go_simp; (try with_reducible rfl)
              try simp only [Act.put, List.setIfInBounds_toArray, List.set_cons_zero, List.set_cons_succ]
              refine wpAnyH_take (i := 6) (oi := ⟨some 75, _, _, _, _, _⟩) (v := ?_) rfl (by kernel_rfl) (by kernel_rfl) (by kernel_rfl) (fun _ _ _ h => h) (Or.inl ⟨by rfl, ?_⟩) (by assumption) ?_
              rotate_left
              · intro wq hSw; go_simp; (try with_reducible rfl)
              try simp only [Act.put, List.setIfInBounds_toArray, List.set_cons_zero, List.set_cons_succ]
              refine wpAnyH_take (i := 7) (oi := ⟨some 76, _, _, _, _, _⟩) (v := ?_) rfl (by kernel_rfl) (by kernel_rfl) (by kernel_rfl) (fun _ _ _ h => h) (Or.inl ⟨by rfl, ?_⟩) (by assumption) ?_
              rotate_left
              · intro wq hSw; go_simp; (try with_reducible rfl)
              try simp only [Act.put, List.setIfInBounds_toArray, List.set_cons_zero, List.set_cons_succ]
              refine wpAnyH_take (i := 9) (oi := ⟨some 78, _, _, _, _, _⟩) (v := ?_) rfl (by kernel_rfl) (by kernel_rfl) (by kernel_rfl) (fun _ _ _ h => h) (Or.inl ⟨by rfl, ?_⟩) (by assumption) ?_
              rotate_left
              · intro wq hSw; go_simp; (try with_reducible rfl)
              try simp only [Act.put, List.setIfInBounds_toArray, List.set_cons_zero, List.set_cons_succ]
              refine wpAnyH_take (i := 10) (oi := ⟨some 79, _, _, _, _, _⟩) (v := ?_) rfl (by kernel_rfl) (by kernel_rfl) (by kernel_rfl) (fun _ _ _ h => h) (Or.inl ⟨by rfl, ?_⟩) (by assumption) ?_
              rotate_left
              · intro wq hSw; go_simp; (try with_reducible rfl)
              try simp only [Act.put, List.setIfInBounds_toArray, List.set_cons_zero, List.set_cons_succ]
              refine wpAnyH_take (i := 11) (oi := ⟨some 80, _, _, _, _, _⟩) (v := ?_) rfl (by kernel_rfl) (by kernel_rfl) (by kernel_rfl) (fun _ _ _ h => h) (Or.inl ⟨by rfl, ?_⟩) (by assumption) ?_
              rotate_left
              · intro wq hSw; go_simp; (try with_reducible rfl)
              try simp only [Act.put, List.setIfInBounds_toArray, List.set_cons_zero, List.set_cons_succ]
              refine wpAnyH_take (i := 13) (oi := ⟨some 82, _, _, _, _, _⟩) (v := ?_) rfl (by kernel_rfl) (by kernel_rfl) (by kernel_rfl) (fun _ _ _ h => h) (Or.inl ⟨by rfl, ?_⟩) (by assumption) ?_
              rotate_left
              · intro wq hSw; go_simp; (try with_reducible rfl)
              try simp only [Act.put, List.setIfInBounds_toArray, List.set_cons_zero, List.set_cons_succ]
              refine wpAnyH_take (i := 14) (oi := ⟨some 83, _, _, _, _, _⟩) (v := ?_) rfl (by kernel_rfl) (by kernel_rfl) (by kernel_rfl) (fun _ _ _ h => h) (Or.inl ⟨by rfl, ?_⟩) (by assumption) ?_
              rotate_left
              · intro wq hSw; go_simp; (try with_reducible rfl)
              try simp only [Act.put, List.setIfInBounds_toArray, List.set_cons_zero, List.set_cons_succ]
              refine wpAnyH_ready (rs := [5, 12]) (by kernel_rfl) (by simp) ?_
              refine AllReadyH.cons (o := ⟨some 74, _, _, _, _, _⟩) rfl (fun K hK => ?_) ?_
              go_simp
              refine hK.out _ _ (by first | exact hHeld0 | (first | exact hHeld | (refine ⟨by go_grown, ?_⟩; simp [Cells, go_sem]; done))) (fun hHeld1 => ?_)
              clear hK K
              try clear hb
              try simp only [Act.put, List.setIfInBounds_toArray, List.set_cons_zero, List.set_cons_succ]
              refine wpAnyH_take (i := 8) (oi := ⟨some 77, _, _, _, _, _⟩) (v := ?_) rfl (by kernel_rfl) (by kernel_rfl) (by kernel_rfl) (fun _ _ _ h => h) (Or.inl ⟨by rfl, ?_⟩) (by assumption) ?_
              rotate_left
              · intro wq hSw; go_simp; (try with_reducible rfl)
              try simp only [Act.put, List.setIfInBounds_toArray, List.set_cons_zero, List.set_cons_succ]
              refine wpAnyH_ready (rs := [12]) (by kernel_rfl) (by simp) ?_
              refine AllReadyH.cons (o := ⟨some 81, _, _, _, _, _⟩) rfl (fun K hK => ?_) AllReadyH.nil
              go_simp
              refine hK.out _ _ (by first | exact hHeld1 | (first | exact hHeld | (refine ⟨by go_grown, ?_⟩; simp [Cells, go_sem]; done))) (fun hHeld2 => ?_)
              clear hK K
              try clear hb
              try simp only [Act.put, List.setIfInBounds_toArray, List.set_cons_zero, List.set_cons_succ]
              refine wpAnyH_take (i := 15) (oi := ⟨some 84, _, _, _, _, _⟩) (v := ?_) rfl (by kernel_rfl) (by kernel_rfl) (by kernel_rfl) (fun _ _ _ h => h) (Or.inl ⟨by rfl, ?_⟩) (by assumption) ?_
              rotate_left
              · intro wq hSw; go_simp; (try with_reducible rfl)
              try simp only [Act.put, List.setIfInBounds_toArray, List.set_cons_zero, List.set_cons_succ]
              refine wpAnyH_take (i := 16) (oi := ⟨some 85, _, _, _, _, _⟩) (v := ?_) rfl (by kernel_rfl) (by kernel_rfl) (by kernel_rfl) (fun _ _ _ h => h) (Or.inl ⟨by rfl, ?_⟩) (by assumption) ?_
              rotate_left
              · intro wq hSw; go_simp; (try with_reducible rfl)
              try simp only [Act.put, List.setIfInBounds_toArray, List.set_cons_zero, List.set_cons_succ]
              refine wpAnyH_take (i := 17) (oi := ⟨some 86, _, _, _, _, _⟩) (v := ?_) rfl (by kernel_rfl) (by kernel_rfl) (by kernel_rfl) (fun _ _ _ h => h) (Or.inl ⟨by rfl, ?_⟩) (by assumption) ?_
              rotate_left
              · intro wq hSw; go_simp; (try with_reducible rfl)
              try simp only [Act.put, List.setIfInBounds_toArray, List.set_cons_zero, List.set_cons_succ]
              refine wpAnyH_ready (rs := [18]) (by kernel_rfl) (by simp) ?_
              refine AllReadyH.cons (o := ⟨none, _, _, _, _, _⟩) rfl (fun K hK => ?_) AllReadyH.nil
              go_simp
              refine hK.out _ _ (⟨((hHeld2).1).setCell (p := ⟨g, k * 3 + 1, none⟩) HGW _, trivial⟩) (fun hHeld3 => ?_)
              clear hK K
              try clear hb
              try simp only [Act.put, List.setIfInBounds_toArray, List.set_cons_zero, List.set_cons_succ]
              refine wpAnyH_take (i := 19) (oi := ⟨some 87, _, _, _, _, _⟩) (v := ?_) rfl (by kernel_rfl) (by kernel_rfl) (by kernel_rfl) (fun _ _ _ h => h) (Or.inl ⟨by rfl, ?_⟩) (by assumption) ?_
              rotate_left
              · intro wq hSw; go_simp; (try with_reducible rfl)
              try simp only [Act.put, List.setIfInBounds_toArray, List.set_cons_zero, List.set_cons_succ]
              refine wpAnyH_take (i := 20) (oi := ⟨some 88, _, _, _, _, _⟩) (v := ?_) rfl (by kernel_rfl) (by kernel_rfl) (by kernel_rfl) (fun _ _ _ h => h) (Or.inl ⟨by rfl, ?_⟩) (by assumption) ?_
              rotate_left
              · intro wq hSw; go_simp; (try with_reducible rfl)
              try simp only [Act.put, List.setIfInBounds_toArray, List.set_cons_zero, List.set_cons_succ]
              refine wpAnyH_ready (rs := [21]) (by kernel_rfl) (by simp) ?_
              refine AllReadyH.cons (o := ⟨none, _, _, _, _, _⟩) rfl (fun K hK => ?_) AllReadyH.nil
              go_simp
              refine hK.out _ _ (⟨((hHeld3).1).setCell (p := ⟨g, k * 3 + 2, none⟩) HGW _, trivial⟩) (fun hHeld4 => ?_)
              clear hK K
              try clear hb
              try simp only [Act.put, List.setIfInBounds_toArray, List.set_cons_zero, List.set_cons_succ]
              refine wpAnyH_done (by kernel_rfl) ?_ _
              have hHeld := hHeld4
              rotate_left 1
              refine AllReadyH.cons (o := ⟨some 81, _, _, _, _, _⟩) rfl (fun K hK => ?_) ?_
              go_simp
              refine hK.out _ _ (by first | exact hHeld0 | (first | exact hHeld | (refine ⟨by go_grown, ?_⟩; simp [Cells, go_sem]; done))) (fun hHeld5 => ?_)
              clear hK K
              try clear hb
              try simp only [Act.put, List.setIfInBounds_toArray, List.set_cons_zero, List.set_cons_succ]
              refine wpAnyH_take (i := 15) (oi := ⟨some 84, _, _, _, _, _⟩) (v := ?_) rfl (by kernel_rfl) (by kernel_rfl) (by kernel_rfl) (fun _ _ _ h => h) (Or.inl ⟨by rfl, ?_⟩) (by assumption) ?_
              rotate_left
              · intro wq hSw; go_simp; (try with_reducible rfl)
              try simp only [Act.put, List.setIfInBounds_toArray, List.set_cons_zero, List.set_cons_succ]
              refine wpAnyH_ready (rs := [5]) (by kernel_rfl) (by simp) ?_
              refine AllReadyH.cons (o := ⟨some 74, _, _, _, _, _⟩) rfl (fun K hK => ?_) AllReadyH.nil
              go_simp
              refine hK.out _ _ (by first | exact hHeld5 | (first | exact hHeld | (refine ⟨by go_grown, ?_⟩; simp [Cells, go_sem]; done))) (fun hHeld6 => ?_)
              clear hK K
              try clear hb
              try simp only [Act.put, List.setIfInBounds_toArray, List.set_cons_zero, List.set_cons_succ]
              refine wpAnyH_take (i := 8) (oi := ⟨some 77, _, _, _, _, _⟩) (v := ?_) rfl (by kernel_rfl) (by kernel_rfl) (by kernel_rfl) (fun _ _ _ h => h) (Or.inl ⟨by rfl, ?_⟩) (by assumption) ?_
              rotate_left
              · intro wq hSw; go_simp; (try with_reducible rfl)
              try simp only [Act.put, List.setIfInBounds_toArray, List.set_cons_zero, List.set_cons_succ]
              refine wpAnyH_take (i := 16) (oi := ⟨some 85, _, _, _, _, _⟩) (v := ?_) rfl (by kernel_rfl) (by kernel_rfl) (by kernel_rfl) (fun _ _ _ h => h) (Or.inl ⟨by rfl, ?_⟩) (by assumption) ?_
              rotate_left
              · intro wq hSw; go_simp; (try with_reducible rfl)
              try simp only [Act.put, List.setIfInBounds_toArray, List.set_cons_zero, List.set_cons_succ]
              refine wpAnyH_take (i := 17) (oi := ⟨some 86, _, _, _, _, _⟩) (v := ?_) rfl (by kernel_rfl) (by kernel_rfl) (by kernel_rfl) (fun _ _ _ h => h) (Or.inl ⟨by rfl, ?_⟩) (by assumption) ?_
              rotate_left
              · intro wq hSw; go_simp; (try with_reducible rfl)
              try simp only [Act.put, List.setIfInBounds_toArray, List.set_cons_zero, List.set_cons_succ]
              refine wpAnyH_ready (rs := [18]) (by kernel_rfl) (by simp) ?_
              refine AllReadyH.cons (o := ⟨none, _, _, _, _, _⟩) rfl (fun K hK => ?_) AllReadyH.nil
              go_simp
              refine hK.out _ _ (⟨((hHeld6).1).setCell (p := ⟨g, k * 3 + 1, none⟩) HGW _, trivial⟩) (fun hHeld7 => ?_)
              clear hK K
              try clear hb
              try simp only [Act.put, List.setIfInBounds_toArray, List.set_cons_zero, List.set_cons_succ]
              refine wpAnyH_take (i := 19) (oi := ⟨some 87, _, _, _, _, _⟩) (v := ?_) rfl (by kernel_rfl) (by kernel_rfl) (by kernel_rfl) (fun _ _ _ h => h) (Or.inl ⟨by rfl, ?_⟩) (by assumption) ?_
              rotate_left
              · intro wq hSw; go_simp; (try with_reducible rfl)
              try simp only [Act.put, List.setIfInBounds_toArray, List.set_cons_zero, List.set_cons_succ]
              refine wpAnyH_take (i := 20) (oi := ⟨some 88, _, _, _, _, _⟩) (v := ?_) rfl (by kernel_rfl) (by kernel_rfl) (by kernel_rfl) (fun _ _ _ h => h) (Or.inl ⟨by rfl, ?_⟩) (by assumption) ?_
              rotate_left
              · intro wq hSw; go_simp; (try with_reducible rfl)
              try simp only [Act.put, List.setIfInBounds_toArray, List.set_cons_zero, List.set_cons_succ]
              refine wpAnyH_ready (rs := [21]) (by kernel_rfl) (by simp) ?_
              refine AllReadyH.cons (o := ⟨none, _, _, _, _, _⟩) rfl (fun K hK => ?_) AllReadyH.nil
              go_simp
              refine hK.out _ _ (⟨((hHeld7).1).setCell (p := ⟨g, k * 3 + 2, none⟩) HGW _, trivial⟩) (fun hHeld8 => ?_)
              clear hK K
              try clear hb
              try simp only [Act.put, List.setIfInBounds_toArray, List.set_cons_zero, List.set_cons_succ]
              refine wpAnyH_done (by kernel_rfl) ?_ _
              have hHeld := hHeld8
              rotate_left 1
              exact AllReadyH.nil
              all_goals
                have hO3 := Lib.hid (owns_below ((hO.out.stored (k * 3 + 1) (.int .i64 a2)).1.stored (k * 3 + 2) (.int .i64 d2)).1 (Below.refl _ _).drew)
                have hB3 := Lib.hid (Below.drew ((hW.out.setCell (p := ⟨g, k * 3 + 1, none⟩) HG.out (.int .i64 a2)).setCell (p := ⟨g, k * 3 + 2, none⟩) HG.out (.int .i64 d2)))
                rw [HF1.out, HF2.out, List.set_set] at hO3
                clear hHeld
                go_wp2_with fail
                go_roundw
                case rel => exact ⟨k + 1, _, by simp, gp, gk, HN, hO3, hB3, under HB2.out hB3.out⟩
                case measure => exact index_less gp
            · have x2 : decide (d ≤ 2305844108725321728 - z) = false := decide_eq_false g2
              clear fa1 fa2 fa3 hb hM o3 o4 o5 o6 o7 o8 o9 e3 e4
              go_wp2_with fail
              go_roundw
              case rel => exact ⟨k + 1, M, by simp, gp, gk, hN, hO, hW, hB⟩
              case measure => exact index_less gp
          · have x1 : decide (-2305844108725321728 + z ≤ a) = false := decide_eq_false g1
            clear fa1 fa2 fa3 hb hM o3 o4 o5 o6 o7 o8 o9 e3 e4
            go_wp2_with fail
            go_roundw
            case rel => exact ⟨k + 1, M, by simp, gp, gk, hN, hO, hW, hB⟩
            case measure => exact index_less gp
        · have hkm : k = m.length := by omega
          subst hkm
          have HQ := Lib.hid (wid_fits hN.out HK.out.1 HK.out.2.1)
          have ML2 : M.length = m.length := hN.out.1.symm
          have RM : ReadsD wr (.slice (some ⟨g, 0, none⟩) m.length c4) M := readsD_own (by rw [ML2]; exact hO.out)
          have FM := Lib.hid (fit9_any M (by omega) _ wr RM)
          have CM := Lib.hid (fun W (hb : Below wr.heap.size wr W) => pubI_any M (by omega) _ W (RM.below hb))
          have CL := Lib.hid (fun W (hb : Below w2.heap.size w2 W) => pubI_any m (by omega) _ W (H2.out.below hb))
          rw [HQ.out.1] at FM
          have HBw := Lib.hid (And.intro hB hW.out)
          clear hN hO hW RM hB
          generalize fitA M = fa2 at *
          generalize fitN M = fx2 at *
          generalize fitD9 M = fy2 at *
          go_wp2_with fail
          refine FM.out.mono ?_
          rintro e w5 ⟨rfl, hb5⟩
          have hb5a := hb5.alloc hb5.size (.cells #[.int .i64 fa2, .int .i64 0, .int .i64 fx2, .int .i64 fy2] 26)
          have HB5 := Lib.hid hb5a
          clear hb5 hb5a
          go_wp2_with fail
          refine (CL.out _ (under HBw.out.2 HB5.out)).mono ?_
          rintro e w6 hE6
          obtain ⟨hb6, A6, c6, rfl, ho6⟩ := hE6.open
          rw [HK.out.2.2.2.1]
          have HB6 := Lib.hid (under HB5.out hb6)
          rw [HK.out.2.2.2.2]
          clear hb6 ho6 hE6
          go_wp2_with fail
          refine (CM.out _ HB6.out).mono ?_
          rintro e w7 hE7
          obtain ⟨hb7, A7, c7, rfl, ho7⟩ := hE7.open
          rw [HQ.out.2.1]
          have HB7 := Lib.hid (under HB6.out hb7)
          rw [HQ.out.2.2]
          clear hb7 ho7 hE7
          go_wp2_with fail
          go_ret
          exact ⟨rfl, under HBw.out.1 HB7.out⟩
      · have j1 : ¬ (k : Int) < (pl.length : Int) := by omega
        have HQ := Lib.hid (wid_fits hN.out HK.out.1 HK.out.2.1)
        have ML2 : M.length = m.length := hN.out.1.symm
        have RM : ReadsD wr (.slice (some ⟨g, 0, none⟩) m.length c4) M := readsD_own (by rw [ML2]; exact hO.out)
        have FM := Lib.hid (fit9_any M (by omega) _ wr RM)
        have CM := Lib.hid (fun W (hb : Below wr.heap.size wr W) => pubI_any M (by omega) _ W (RM.below hb))
        have CL := Lib.hid (fun W (hb : Below w2.heap.size w2 W) => pubI_any m (by omega) _ W (H2.out.below hb))
        rw [HQ.out.1] at FM
        have HBw := Lib.hid (And.intro hB hW.out)
        clear hN hO hW RM hB
        generalize fitA M = fa2 at *
        generalize fitN M = fx2 at *
        generalize fitD9 M = fy2 at *
        go_wp2_with fail
        refine FM.out.mono ?_
        rintro e w5 ⟨rfl, hb5⟩
        have hb5a := hb5.alloc hb5.size (.cells #[.int .i64 fa2, .int .i64 0, .int .i64 fx2, .int .i64 fy2] 26)
        have HB5 := Lib.hid hb5a
        clear hb5 hb5a
        go_wp2_with fail
        refine (CL.out _ (under HBw.out.2 HB5.out)).mono ?_
        rintro e w6 hE6
        obtain ⟨hb6, A6, c6, rfl, ho6⟩ := hE6.open
        rw [HK.out.2.2.2.1]
        have HB6 := Lib.hid (under HB5.out hb6)
        rw [HK.out.2.2.2.2]
        clear hb6 ho6 hE6
        go_wp2_with fail
        refine (CM.out _ HB6.out).mono ?_
        rintro e w7 hE7
        obtain ⟨hb7, A7, c7, rfl, ho7⟩ := hE7.open
        rw [HQ.out.2.1]
        have HB7 := Lib.hid (under HB6.out hb7)
        rw [HQ.out.2.2]
        clear hb7 ho7 hE7
        go_wp2_with fail
        go_ret
        exact ⟨rfl, under HBw.out.1 HB7.out⟩
  · have e2 : fitE m = 180 ∨ fitE m = 4 := by
      cases gk : okD m
      · left; simp [fitE, gk]
      · right
        by_cases g : firN m < m.length
        · simp [fitE, gk, g]
        · exact absurd (by simp [fitE, gk, g]) hE
    have HB := Lib.hid (under HB2.out HB3.out)
    clear hE H2 OW
    generalize fitA m = fa at *
    generalize fitN m = fx at *
    generalize fitD9 m = fy at *
    rcases e2 with e2 | e2
    · rw [e2]
      clear e2
      go_wp2_with fail
      go_ret
      exact ⟨rfl, HB.out⟩
    · rw [e2]
      clear e2
      go_wp2_with fail
      go_ret
      exact ⟨rfl, HB.out⟩
end Go.Proofs.Ytlhjijigpjfokaa.P9
