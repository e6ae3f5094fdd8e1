/-
  Layer 4: SpanAdds, walked. Conditions: those written at each fact.
-/
import Derived.Test.YtmnndbafljngiaaAdA
namespace Go.Proofs.Ytmnndbafljngiaa
open Go.RowKit

theorem owns_base {w : World} {B : Nat} {e : TypeId} {s n g m c : Nat} {xs : List Value} (h : w.ownsRow B e s (.slice (some ⟨g, 0, none⟩) m c) n xs) : B ≤ g := by
  rcases h.2 with ⟨h', _⟩ | ⟨g', cap', cur, h', hb, _⟩
  · simp at h'
  · simp only [Value.slice.injEq, Option.some.injEq, Addr.mk.injEq, and_true] at h'
    obtain ⟨rfl, _⟩ := h'
    exact hb
theorem flatS_set (x y : Int) : ∀ (l : List (Int × Int)) (k : Nat), ((flatS l).set (k * 2) (.int .i64 x)).set (k * 2 + 1) (.int .i64 y) = flatS (l.set k (x, y))
  | [], k => by simp [flatS]
  | (a, b) :: l, 0 => by simp [flatS]
  | (a, b) :: l, k + 1 => by
    have h := flatS_set x y l k
    rw [show (k + 1) * 2 = k * 2 + 1 + 1 by omega]
    simp only [flatS, List.set_cons_succ]
    rw [h]
theorem set_mid {M P : List (Int × Int)} {k : Nat} {s t : Int × Int} (hM : M.length = k) (hs : P[k]? = some s) : (M ++ P.drop k).set k t = (M ++ [t]) ++ P.drop (k + 1) := by
  obtain ⟨h1, h2⟩ := List.getElem?_eq_some_iff.1 hs
  subst hM
  rw [List.drop_eq_getElem_cons h1, List.set_append_right _ _ (Nat.le_refl _), Nat.sub_self, List.set_cons_zero, List.append_assoc]
  rfl
theorem sum_wrap {M : List (Int × Int)} {V : List Int} {s u x y z : Int} (h : AddsI M V s u) (hl : M.length ≤ 20) (hx : Sml x) (hy : Sml y) (h1 : x ≤ z) (h2 : z ≤ y) :
    wrap64 (s + z) = s + z ∧ IntKind.u64.wrap (u + IntKind.u64.wrap (wrap64 (y - x))) = u + (y - x) := by
  obtain ⟨a1, a2, a3, a4, a5, a6, a7, a8⟩ := h
  unfold Sml at hx hy
  simp only [IntKind.wrap_u64]
  unfold wrap64
  omega
theorem mul_wide {x y t0 t1 m : Int} (hxy : x ≤ y) (hx : Sml x) (hy : Sml y) (m1 : -999 ≤ m) (m2 : m ≤ 999) (W1 : 0 ≤ m → t1 - t0 = (y - x) * m) (W2 : m ≤ 0 → t1 - t0 = (y - x) * -m) :
    Hid (IntKind.u64.wrap ((y - x) * IntKind.u64.wrap (if m < IntKind.i64.wrap (-m) then IntKind.i64.wrap (-m) else m)) = t1 - t0) := by
  refine Lib.hid ?_
  rw [show IntKind.i64.wrap (-m) = -m by rw [IntKind.wrap_i64]; omega]
  have hb : ∀ r : Int, 0 ≤ r → r ≤ 999 → 0 ≤ (y - x) * r ∧ (y - x) * r ≤ 2251799813685248 * 999 := fun r r1 r2 => by
    unfold Sml at hx hy
    exact ⟨Int.mul_nonneg (by omega) r1, Int.mul_le_mul (by omega) r2 r1 (by omega)⟩
  by_cases h : m < -m
  · rw [if_pos h]
    have k := hb (-m) (by omega) (by omega)
    have e : IntKind.u64.wrap (-m) = -m := by rw [IntKind.wrap_u64]; omega
    rw [e, IntKind.wrap_u64, W2 (by omega)]
    omega
  · rw [if_neg h]
    have k := hb m (by omega) (by omega)
    have e : IntKind.u64.wrap m = m := by rw [IntKind.wrap_u64]; omega
    rw [e, IntKind.wrap_u64, W1 (by omega)]
    omega
set_option maxRecDepth 100000 in
set_option maxHeartbeats 8000000 in
theorem adds_walk (P : List (Int × Int)) (n : Nat) (hn : P.length = n) (hn1 : 1 ≤ n) (hn2 : n ≤ 20) (hP : OkS P) (m : Int) (hm1 : -9223372036854775808 ≤ m) (hm2 : m ≤ 9223372036854775807)
    (bb off n9 c9 : Nat) (a9 : Int) (a91 : 0 ≤ a9) (a92 : a9 < 18446744073709551616) (hn9 : 0 < n9) (w : World) (hbw : bb < w.heap.size) (hcw : w.cell? ⟨bb, off + 2, none⟩ = some (.int .u64 a9))
    (GU : ∀ W, Below w.heap.size w W → Calls Try.prog 40 #[.slice (some ⟨bb, off, none⟩) n9 c9] W fun e w' => ∃ g1 c1 v2, e = .returned (.tuple #[.slice (some ⟨g1, 0, none⟩) n c1, v2]) ∧ Below W.heap.size W w' ∧ w'.ownsRow W.heap.size 23 2 (.slice (some ⟨g1, 0, none⟩) n c1) n (flatS P) ∧ n ≤ c1) :
    Calls Try.prog 8 #[.slice (some ⟨bb, off, none⟩) n9 c9, .int .i64 m] w (Ret w (.bool true)) := by
  have WK := Lib.hid (fun W => wakes_any W)
  replace GU := Lib.hid GU
  have SM := Lib.hid (fun z W => small_any z W)
  have LI := Lib.hid (fun x y a h x1 y2 a1 a2 W => lies_any x y a h x1 y2 a1 a2 W)
  have HN := Lib.hid hn
  have HP := Lib.hid hP
  obtain ⟨j0, ji, jz0, jz1, jz2⟩ := info_parts infoI64
  have HM := Lib.hid (And.intro hm1 hm2)
  have HA9 := Lib.hid (And.intro a91 a92)
  have n90 : (0 : Int) < (n9 : Int) := by omega
  clear hn hP hm1 hm2 a91 a92
  go_enter Try.func8, Try.ntmps8
  go_wp2_with fail
  refine (WK.out _).mono ?_
  rintro e w1 ⟨rfl, hb1⟩
  have HB1 := Lib.hid hb1
  clear hb1
  go_wp2_with fail
  refine (GU.out _ HB1.out).mono ?_
  rintro e w2 ⟨g1, c1, v2, rfl, hb2, ho1, hc1⟩
  have HB2 := Lib.hid hb2
  have HO := Lib.hid ho1
  have hcw1 := (HB1.out.cell (p := ⟨bb, off + 2, none⟩) hbw).trans hcw
  have hbw1 : bb < w1.heap.size := Nat.lt_of_lt_of_le hbw HB1.out.size
  have hw12 : w1.heap.size ≤ w2.heap.size := hb2.size
  clear hb2 ho1 hcw hbw GU WK
  go_wp2_with fail
  go_loopw [7, 8, 9, 32] (fun v7 v8 v9 i wr => ∃ (k : Nat) (M : List (Int × Int)) (V : List Int) (s u : Int), i = .int .i64 k ∧ k ≤ n ∧ v8 = .int .i64 s ∧ v9 = .int .u64 u ∧ Hid (M.length = k) ∧ Hid (AddsI M V s u) ∧ Hid (wr.ownsRow w1.heap.size 23 2 (.slice (some ⟨g1, 0, none⟩) n c1) n (flatS (M ++ P.drop k))) ∧ Hid (wr.ownsRow w1.heap.size 2 1 v7 k (V.map (Value.int .i64))) ∧ Below w1.heap.size w1 wr) (fun _ _ _ i _ => n - (intOf i).toNat)
  case atStart => exact ⟨0, [], [], 0, 0, rfl, by omega, rfl, rfl, Lib.hid rfl, Lib.hid addsI_nil, HO, Lib.hid ⟨rfl, Or.inl ⟨rfl, rfl⟩⟩, HB2.out⟩
  case round =>
    obtain ⟨k, M, V, s, u, rfl, hkn, rfl, rfl, HML, HAI, HO1, HO2, hB⟩ := hrel
    by_cases gk : k < n
    · obtain ⟨⟨x0, y0⟩, hs⟩ : ∃ s, P[k]? = some s := ⟨_, List.getElem?_eq_getElem (by have := HN.out; omega)⟩
      have hs' : (M ++ P.drop k)[k]? = some (x0, y0) := by
        rw [List.getElem?_append_right (by rw [HML.out]; exact Nat.le_refl _), HML.out, List.getElem?_drop, Nat.sub_self, Nat.add_zero]
        exact hs
      have hs0 := flatS_at _ k _ hs'
      have hf0 := HO1.out.frozenAt (k * 2)
      have hf1 := HO1.out.frozenAt (k * 2 + 1)
      have hq0 := (HO1.out.cellAt (k * 2) (by omega)).trans hs0.1
      have hq1 := (HO1.out.cellAt (k * 2 + 1) (by omega)).trans hs0.2
      simp only at hq0 hq1
      have hg1 : g1 < wr.heap.size := by
        by_cases h : g1 < wr.heap.size
        · exact h
        · exact absurd rfl (owns_lt HO1.out g1 (by omega))
      have i1 : (k : Int) < (n : Int) := by omega
      have i0 : (0 : Int) ≤ (k : Int) := by omega
      have HS := Lib.hid hs
      clear hs hs' hs0
      go_wp2_with fail
      refine region_keeps (w0 := wr) (L := [(g1, k * 2, .int .i64 x0), (g1, k * 2 + 1, .int .i64 y0)]) (by kernel_rfl) ⟨Below.refl _ _, ⟨hg1, hq0, hf0⟩, ⟨hg1, hq1, hf1⟩, trivial⟩ (fun hHeld0 => ?_)
      refine wpAnyH_take (i := 0) (oi := ⟨some 35, _, _, _, _, _⟩) (v := ?_) rfl (by kernel_rfl) (by kernel_rfl) (by kernel_rfl) (fun _ _ _ h => h) (Or.inl ⟨by rfl, ?_⟩) (by assumption) ?_
      rotate_left
      · intro wq hSw; go_simp; (try with_reducible rfl)
      try simp only [Act.put, List.setIfInBounds_toArray, List.set_cons_zero, List.set_cons_succ]
      refine wpAnyH_take (i := 1) (oi := ⟨some 36, _, _, _, _, _⟩) (v := ?_) rfl (by kernel_rfl) (by kernel_rfl) (by kernel_rfl) (fun _ _ _ h => h) (Or.inl ⟨by rfl, ?_⟩) (by assumption) ?_
      rotate_left
      · intro wq hSw; go_simp; (try with_reducible rfl)
      try simp only [Act.put, List.setIfInBounds_toArray, List.set_cons_zero, List.set_cons_succ]
      refine wpAnyH_take (i := 2) (oi := ⟨some 37, _, _, _, _, _⟩) (v := ?_) rfl (by kernel_rfl) (by kernel_rfl) (by kernel_rfl) (fun _ _ _ h => h) (Or.inl ⟨by rfl, ?_⟩) (by assumption) ?_
      rotate_left
      · intro wq hSw; go_simp; (try with_reducible rfl)
      try simp only [Act.put, List.setIfInBounds_toArray, List.set_cons_zero, List.set_cons_succ]
      refine wpAnyH_take (i := 3) (oi := ⟨some 38, _, _, _, _, _⟩) (v := ?_) rfl (by kernel_rfl) (by kernel_rfl) (by kernel_rfl) (fun _ _ _ h => h) (Or.inl ⟨by rfl, ?_⟩) (by assumption) ?_
      rotate_left
      · intro wq hSw; go_simp; (try with_reducible rfl)
      try simp only [Act.put, List.setIfInBounds_toArray, List.set_cons_zero, List.set_cons_succ]
      refine wpAnyH_take (i := 4) (oi := ⟨some 39, _, _, _, _, _⟩) (v := ?_) rfl (by kernel_rfl) (by kernel_rfl) (by kernel_rfl) (fun _ _ _ h => h) (Or.inl ⟨by rfl, ?_⟩) (by assumption) ?_
      rotate_left
      · intro wq hSw; obtain ⟨⟨qz0, qc0, qf0⟩, ⟨qz1, qc1, qf1⟩, _⟩ := hSw.2; go_simp; (try with_reducible rfl)
      try simp only [Act.put, List.setIfInBounds_toArray, List.set_cons_zero, List.set_cons_succ]
      refine wpAnyH_take (i := 6) (oi := ⟨some 41, _, _, _, _, _⟩) (v := ?_) rfl (by kernel_rfl) (by kernel_rfl) (by kernel_rfl) (fun _ _ _ h => h) (Or.inl ⟨by rfl, ?_⟩) (by assumption) ?_
      rotate_left
      · intro wq hSw; go_simp; (try with_reducible rfl)
      try simp only [Act.put, List.setIfInBounds_toArray, List.set_cons_zero, List.set_cons_succ]
      refine wpAnyH_take (i := 7) (oi := ⟨some 42, _, _, _, _, _⟩) (v := ?_) rfl (by kernel_rfl) (by kernel_rfl) (by kernel_rfl) (fun _ _ _ h => h) (Or.inl ⟨by rfl, ?_⟩) (by assumption) ?_
      rotate_left
      · intro wq hSw; go_simp; (try with_reducible rfl)
      try simp only [Act.put, List.setIfInBounds_toArray, List.set_cons_zero, List.set_cons_succ]
      refine wpAnyH_take (i := 8) (oi := ⟨some 43, _, _, _, _, _⟩) (v := ?_) rfl (by kernel_rfl) (by kernel_rfl) (by kernel_rfl) (fun _ _ _ h => h) (Or.inl ⟨by rfl, ?_⟩) (by assumption) ?_
      rotate_left
      · intro wq hSw; go_simp; (try with_reducible rfl)
      try simp only [Act.put, List.setIfInBounds_toArray, List.set_cons_zero, List.set_cons_succ]
      refine wpAnyH_take (i := 9) (oi := ⟨some 44, _, _, _, _, _⟩) (v := ?_) rfl (by kernel_rfl) (by kernel_rfl) (by kernel_rfl) (fun _ _ _ h => h) (Or.inl ⟨by rfl, ?_⟩) (by assumption) ?_
      rotate_left
      · intro wq hSw; go_simp; (try with_reducible rfl)
      try simp only [Act.put, List.setIfInBounds_toArray, List.set_cons_zero, List.set_cons_succ]
      refine wpAnyH_take (i := 10) (oi := ⟨some 45, _, _, _, _, _⟩) (v := ?_) rfl (by kernel_rfl) (by kernel_rfl) (by kernel_rfl) (fun _ _ _ h => h) (Or.inl ⟨by rfl, ?_⟩) (by assumption) ?_
      rotate_left
      · intro wq hSw; obtain ⟨⟨qz0, qc0, qf0⟩, ⟨qz1, qc1, qf1⟩, _⟩ := hSw.2; go_simp; (try with_reducible rfl)
      try simp only [Act.put, List.setIfInBounds_toArray, List.set_cons_zero, List.set_cons_succ]
      refine wpAnyH_ready (rs := [5]) (by kernel_rfl) (by simp) ?_
      refine AllReadyH.cons (o := ⟨some 40, _, _, _, _, _⟩) rfl (fun K hK => ?_) AllReadyH.nil
      go_simp
      (with_reducible refine (SM.out _ _).mono ?_); rintro e w6 ⟨rfl, hb⟩
      refine hK.out _ _ (hHeld0.next hb) (fun hHeld1 => ?_)
      clear hK K
      try clear hb
      try simp only [Act.put, List.setIfInBounds_toArray, List.set_cons_zero, List.set_cons_succ]
      refine wpAnyH_ready (rs := [11]) (by kernel_rfl) (by simp) ?_
      refine AllReadyH.cons (o := ⟨some 46, _, _, _, _, _⟩) rfl (fun K hK => ?_) AllReadyH.nil
      go_simp
      (with_reducible refine (SM.out _ _).mono ?_); rintro e w6 ⟨rfl, hb⟩
      refine hK.out _ _ (hHeld1.next hb) (fun hHeld2 => ?_)
      clear hK K
      try clear hb
      try simp only [Act.put, List.setIfInBounds_toArray, List.set_cons_zero, List.set_cons_succ]
      refine wpAnyH_take (i := 12) (oi := ⟨some 11, _, _, _, _, _⟩) (v := ?_) rfl (by kernel_rfl) (by kernel_rfl) (by kernel_rfl) (fun _ _ _ h => h) (Or.inl ⟨by rfl, ?_⟩) (by assumption) ?_
      rotate_left
      · intro wq hSw; go_simp; (try with_reducible rfl)
      try simp only [Act.put, List.setIfInBounds_toArray, List.set_cons_zero, List.set_cons_succ]
      refine wpAnyH_take (i := 13) (oi := ⟨some 12, _, _, _, _, _⟩) (v := ?_) rfl (by kernel_rfl) (by kernel_rfl) (by kernel_rfl) (fun _ _ _ h => h) (Or.inl ⟨by rfl, ?_⟩) (by assumption) ?_
      rotate_left
      · intro wq hSw; go_simp; (try with_reducible rfl)
      try simp only [Act.put, List.setIfInBounds_toArray, List.set_cons_zero, List.set_cons_succ]
      refine wpAnyH_done (by kernel_rfl) ?_ _
      have hHeld := hHeld2
      obtain ⟨⟨kz0, kc0, kf0⟩, ⟨kz1, kc1, kf1⟩, _⟩ := hHeld.2
      all_goals
        have HO1b := Lib.hid (owns_below HO1.out hHeld.1)
        have HO2b := Lib.hid (owns_below HO2.out hHeld.1)
        have S1 := sml_tmod x0
        have S2 := sml_tmod y0
        generalize x0.tmod 1125899906842624 = a at *
        generalize y0.tmod 1125899906842624 = b at *
        clear HO1 HO2 hHeld0
        obtain ⟨x, y, hxy, hle, hx, hy⟩ : ∃ x y, (a < b ∧ x = a ∧ y = b ∨ b < a ∧ x = b ∧ y = a ∨ a = b ∧ x = a ∧ y = b) ∧ Hid (x ≤ y) ∧ Hid (Sml x) ∧ Hid (Sml y) := by
          rcases Int.lt_trichotomy a b with h | h | h
          · exact ⟨a, b, .inl ⟨h, rfl, rfl⟩, Lib.hid (by omega), Lib.hid S1, Lib.hid S2⟩
          · exact ⟨a, b, .inr (.inr ⟨h, rfl, rfl⟩), Lib.hid (by omega), Lib.hid S1, Lib.hid S2⟩
          · exact ⟨b, a, .inr (.inl ⟨h, rfl, rfl⟩), Lib.hid (by omega), Lib.hid S2, Lib.hid S1⟩
        clear S1 S2
        have HO3 := Lib.hid ((HO1b.out.stored (k * 2) (.int .i64 x)).1.stored (k * 2 + 1) (.int .i64 y)).1
        rcases hxy with ⟨h, rfl, rfl⟩ | ⟨h, rfl, rfl⟩ | ⟨h, rfl, rfl⟩
        rotate_left 2
        · subst h
          go_wp2_with fail
          have hgb := owns_base HO1b.out
          have hgr1 := (HO1b.out.stored (k * 2) (.int .i64 x)).2
          have hgr2 := ((HO1b.out.stored (k * 2) (.int .i64 x)).1.stored (k * 2 + 1) (.int .i64 x)).2
          have HO2c := Lib.hid (owns_other (owns_other HO2b.out HO1b.out (by decide) hgr1) (HO1b.out.stored (k * 2) (.int .i64 x)).1 (by decide) hgr2)
          have hB3 : Below w1.heap.size w1 ((w6.setCell ⟨g1, k * 2, none⟩ (.int .i64 x)).setCell ⟨g1, k * 2 + 1, none⟩ (.int .i64 x)) := ((under hB hHeld.1).setCell (p := ⟨g1, k * 2, none⟩) hgb _).setCell (p := ⟨g1, k * 2 + 1, none⟩) hgb _
          rw [flatS_set, set_mid HML.out HS.out] at HO3
          generalize (w6.setCell ⟨g1, k * 2, none⟩ (.int .i64 x)).setCell ⟨g1, k * 2 + 1, none⟩ (.int .i64 x) = W3 at *
          have hs' : ((M ++ [(x, x)]) ++ P.drop (k + 1))[k]? = some (x, x) := by
            rw [List.append_assoc, List.getElem?_append_right (by rw [HML.out]; exact Nat.le_refl _), HML.out, Nat.sub_self]
            rfl
          have hs0 := flatS_at _ k _ hs'
          have hr0 := HO3.out.frozenAt (k * 2)
          have hr1 := HO3.out.frozenAt (k * 2 + 1)
          have hp0 := (HO3.out.cellAt (k * 2) (by omega)).trans hs0.1
          have hp1 := (HO3.out.cellAt (k * 2 + 1) (by omega)).trans hs0.2
          simp only at hp0 hp1
          have hg3 : g1 < W3.heap.size := by
            by_cases h : g1 < W3.heap.size
            · exact h
            · exact absurd rfl (owns_lt HO3.out g1 (by omega))
          have L3 := LI.out x x (IntKind.u64.wrap (a9 + IntKind.u64.wrap k)) hle.out (by have := hx.out; unfold Sml at this; omega) (by have := hy.out; unfold Sml at this; omega) (by rw [IntKind.wrap_u64]; omega) (by rw [IntKind.wrap_u64]; omega)
          have LZ := lies_range x x (IntKind.u64.wrap (a9 + IntKind.u64.wrap k)) hle.out
          generalize liesG x x (IntKind.u64.wrap (a9 + IntKind.u64.wrap k)) = z at L3 LZ
          have SW := Lib.hid (sum_wrap HAI.out (by rw [HML.out]; omega) hx.out hy.out LZ.1 LZ.2)
          have AN := Lib.hid (addsI_next HAI.out hx.out hy.out LZ.1 LZ.2)
          have hVk : V.length = k := HAI.out.1.trans HML.out
          have HL3 := Lib.hid (fun W => L3 W)
          clear L3 LZ
          have HAP := Lib.hid (owns_apart HO2c.out HO3.out (by decide))
          have hc9 := (hB3.cell (p := ⟨bb, off + 2, none⟩) hbw1).trans hcw1
          have hb9 : bb < W3.heap.size := Nat.lt_of_lt_of_le hbw1 hB3.size
          clear HAI hHeld hHeld1 hHeld2 HO1b HO2b kz0 kc0 kf0 kz1 kc1 kf1 hgr1 hgr2 hs' hs0 hf0 hf1 hq0 hq1 hg1 hgb HS LI
          refine region_keeps (w0 := w1) (L := [(g1, k * 2, .int .i64 x), (g1, k * 2 + 1, .int .i64 x)]) (by kernel_rfl) ⟨hB3, ⟨hg3, hp0, hr0⟩, ⟨hg3, hp1, hr1⟩, trivial⟩ (fun hHeld0 => ?_)
          refine wpAnyH_take (i := 0) (oi := ⟨some 57, _, _, _, _, _⟩) (v := ?_) rfl (by kernel_rfl) (by kernel_rfl) (by kernel_rfl) (fun _ _ _ h => h) (Or.inl ⟨by rfl, ?_⟩) (by assumption) ?_
          rotate_left
          · intro wq hSw; go_simp; (try with_reducible rfl)
          try simp only [Act.put, List.setIfInBounds_toArray, List.set_cons_zero, List.set_cons_succ]
          refine wpAnyH_take (i := 1) (oi := ⟨some 58, _, _, _, _, _⟩) (v := ?_) rfl (by kernel_rfl) (by kernel_rfl) (by kernel_rfl) (fun _ _ _ h => h) (Or.inl ⟨by rfl, ?_⟩) (by assumption) ?_
          rotate_left
          · intro wq hSw; go_simp; (try with_reducible rfl)
          try simp only [Act.put, List.setIfInBounds_toArray, List.set_cons_zero, List.set_cons_succ]
          refine wpAnyH_take (i := 2) (oi := ⟨some 59, _, _, _, _, _⟩) (v := ?_) rfl (by kernel_rfl) (by kernel_rfl) (by kernel_rfl) (fun _ _ _ h => h) (Or.inl ⟨by rfl, ?_⟩) (by assumption) ?_
          rotate_left
          · intro wq hSw; go_simp; (try with_reducible rfl)
          try simp only [Act.put, List.setIfInBounds_toArray, List.set_cons_zero, List.set_cons_succ]
          refine wpAnyH_take (i := 3) (oi := ⟨some 60, _, _, _, _, _⟩) (v := ?_) rfl (by kernel_rfl) (by kernel_rfl) (by kernel_rfl) (fun _ _ _ h => h) (Or.inl ⟨by rfl, ?_⟩) (by assumption) ?_
          rotate_left
          · intro wq hSw; go_simp; (try with_reducible rfl)
          try simp only [Act.put, List.setIfInBounds_toArray, List.set_cons_zero, List.set_cons_succ]
          refine wpAnyH_take (i := 4) (oi := ⟨some 61, _, _, _, _, _⟩) (v := ?_) rfl (by kernel_rfl) (by kernel_rfl) (by kernel_rfl) (fun _ _ _ h => h) (Or.inl ⟨by rfl, ?_⟩) (by assumption) ?_
          rotate_left
          · intro wq hSw; obtain ⟨⟨qz0, qc0, qf0⟩, ⟨qz1, qc1, qf1⟩, _⟩ := hSw.2; have pq := (hSw.1.cell (p := ⟨bb, off + 2, none⟩) hbw1).trans hcw1; go_simp; (try with_reducible rfl)
          try simp only [Act.put, List.setIfInBounds_toArray, List.set_cons_zero, List.set_cons_succ]
          refine wpAnyH_take (i := 5) (oi := ⟨some 62, _, _, _, _, _⟩) (v := ?_) rfl (by kernel_rfl) (by kernel_rfl) (by kernel_rfl) (fun _ _ _ h => h) (Or.inl ⟨by rfl, ?_⟩) (by assumption) ?_
          rotate_left
          · intro wq hSw; go_simp; (try with_reducible rfl)
          try simp only [Act.put, List.setIfInBounds_toArray, List.set_cons_zero, List.set_cons_succ]
          refine wpAnyH_take (i := 6) (oi := ⟨some 63, _, _, _, _, _⟩) (v := ?_) rfl (by kernel_rfl) (by kernel_rfl) (by kernel_rfl) (fun _ _ _ h => h) (Or.inl ⟨by rfl, ?_⟩) (by assumption) ?_
          rotate_left
          · intro wq hSw; go_simp; (try with_reducible rfl)
          try simp only [Act.put, List.setIfInBounds_toArray, List.set_cons_zero, List.set_cons_succ]
          refine wpAnyH_take (i := 7) (oi := ⟨some 64, _, _, _, _, _⟩) (v := ?_) rfl (by kernel_rfl) (by kernel_rfl) (by kernel_rfl) (fun _ _ _ h => h) (Or.inl ⟨by rfl, ?_⟩) (by assumption) ?_
          rotate_left
          · intro wq hSw; go_simp; (try with_reducible rfl)
          try simp only [Act.put, List.setIfInBounds_toArray, List.set_cons_zero, List.set_cons_succ]
          refine wpAnyH_take (i := 8) (oi := ⟨some 65, _, _, _, _, _⟩) (v := ?_) rfl (by kernel_rfl) (by kernel_rfl) (by kernel_rfl) (fun _ _ _ h => h) (Or.inl ⟨by rfl, ?_⟩) (by assumption) ?_
          rotate_left
          · intro wq hSw; obtain ⟨⟨qz0, qc0, qf0⟩, ⟨qz1, qc1, qf1⟩, _⟩ := hSw.2; have pq := (hSw.1.cell (p := ⟨bb, off + 2, none⟩) hbw1).trans hcw1; go_simp; (try with_reducible rfl)
          try simp only [Act.put, List.setIfInBounds_toArray, List.set_cons_zero, List.set_cons_succ]
          refine wpAnyH_take (i := 9) (oi := ⟨some 66, _, _, _, _, _⟩) (v := ?_) rfl (by kernel_rfl) (by kernel_rfl) (by kernel_rfl) (fun _ _ _ h => h) (Or.inl ⟨by rfl, ?_⟩) (by assumption) ?_
          rotate_left
          · intro wq hSw; go_simp; (try with_reducible rfl)
          try simp only [Act.put, List.setIfInBounds_toArray, List.set_cons_zero, List.set_cons_succ]
          refine wpAnyH_take (i := 10) (oi := ⟨some 67, _, _, _, _, _⟩) (v := ?_) rfl (by kernel_rfl) (by kernel_rfl) (by kernel_rfl) (fun _ _ _ h => h) (Or.inl ⟨by rfl, ?_⟩) (by assumption) ?_
          rotate_left
          · intro wq hSw; go_simp; (try with_reducible rfl)
          try simp only [Act.put, List.setIfInBounds_toArray, List.set_cons_zero, List.set_cons_succ]
          refine wpAnyH_take (i := 11) (oi := ⟨some 68, _, _, _, _, _⟩) (v := ?_) rfl (by kernel_rfl) (by kernel_rfl) (by kernel_rfl) (fun _ _ _ h => h) (Or.inl ⟨by rfl, ?_⟩) (by assumption) ?_
          rotate_left
          · intro wq hSw; go_simp; (try with_reducible rfl)
          try simp only [Act.put, List.setIfInBounds_toArray, List.set_cons_zero, List.set_cons_succ]
          refine wpAnyH_take (i := 12) (oi := ⟨some 69, _, _, _, _, _⟩) (v := ?_) rfl (by kernel_rfl) (by kernel_rfl) (by kernel_rfl) (fun _ _ _ h => h) (Or.inl ⟨by rfl, ?_⟩) (by assumption) ?_
          rotate_left
          · intro wq hSw; go_simp; (try with_reducible rfl)
          try simp only [Act.put, List.setIfInBounds_toArray, List.set_cons_zero, List.set_cons_succ]
          refine wpAnyH_ready (rs := [13]) (by kernel_rfl) (by simp) ?_
          refine AllReadyH.cons (o := ⟨some 70, _, _, _, _, _⟩) rfl (fun K hK => ?_) AllReadyH.nil
          go_simp
          (with_reducible refine (HL3.out _).mono ?_); rintro e w5 ⟨rfl, hb⟩; have HO2d := Lib.hid (owns_below (owns_below HO2c.out (by go_grown)) hb); have HO3d := Lib.hid (owns_below (owns_below HO3.out (by go_grown)) hb)
          refine hK.out _ _ (hHeld0.next hb) (fun hHeld1 => ?_)
          clear hK K
          try clear hb
          try simp only [Act.put, List.setIfInBounds_toArray, List.set_cons_zero, List.set_cons_succ]
          refine wpAnyH_ready (rs := [14]) (by kernel_rfl) (by simp) ?_
          refine AllReadyH.cons (o := ⟨some 71, _, _, _, _, _⟩) rfl (fun K hK => ?_) AllReadyH.nil
          go_simp
          refine hK.out _ _ (by first | exact hHeld1.alloc _ | exact (hHeld1.alloc _).drew) (fun hHeld2 => ?_)
          clear hK K
          try clear hb
          try simp only [Act.put, List.setIfInBounds_toArray, List.set_cons_zero, List.set_cons_succ]
          refine wpAnyH_ready (rs := [15]) (by kernel_rfl) (by simp) ?_
          refine AllReadyH.cons (o := ⟨some 72, _, _, _, _, _⟩) rfl (fun K hK => ?_) AllReadyH.nil
          (refine if_wanted rfl ?_; refine wp_append_own _ (.tmp 57) (.tmp 71) 63 rfl w1.heap.size 2 j0 (.int .i64 0) 1 8 Try.underlying63 ji jz0 jz1 jz2 rfl (by decide) _ _ _ rfl (owns_below HO2d.out (by go_grown)) ⟨w5.heap.size, 0, none⟩ 1 1 [.int .i64 z] rfl rfl (new_cells1 rfl) (by intro u hu; simp at hu; subst hu; rfl) (by unfold maxLen; omega) (by omega) (hHeld2).1.size (fun v8 w8 hown8 hgrow8 _ => ?_); have HO3e := Lib.hid (owns_other (owns_below HO3d.out (by go_grown)) (owns_below HO2d.out (by go_grown)) (by decide) hgrow8))
          refine hK.out _ _ (((hHeld2).grows (owns_below HO2d.out (by go_grown)) (Nat.le_refl _) (by intro q hq; simp at hq; rcases hq with rfl | rfl <;> exact HAP.out) hgrow8)) (fun hHeld3 => ?_)
          clear hK K
          try clear hb
          try simp only [Act.put, List.setIfInBounds_toArray, List.set_cons_zero, List.set_cons_succ]
          refine wpAnyH_take (i := 16) (oi := ⟨some 7, _, _, _, _, _⟩) (v := ?_) rfl (by kernel_rfl) (by kernel_rfl) (by kernel_rfl) (fun _ _ _ h => h) (Or.inl ⟨by rfl, ?_⟩) (by assumption) ?_
          rotate_left
          · intro wq hSw; go_simp; (try with_reducible rfl)
          try simp only [Act.put, List.setIfInBounds_toArray, List.set_cons_zero, List.set_cons_succ]
          refine wpAnyH_done (by kernel_rfl) ?_ _
          have hHeld := hHeld3
          obtain ⟨⟨kz0, kc0, kf0⟩, ⟨kz1, kc1, kf1⟩, _⟩ := hHeld.2
          have HVL : (V ++ [z]).length = k + 1 := by rw [List.length_append, hVk]; rfl
          obtain ⟨g3, cc3, hv8, o3, _⟩ := ownI_of (l := V ++ [z]) (by rw [HVL, List.map_append]; exact hown8) (by simp)
          rw [HVL] at hv8
          subst hv8
          obtain ⟨q0, q1, q2, q3⟩ := o3 k z (by rw [← hVk]; exact List.getElem?_concat_length)
          have HO8 := Lib.hid hown8
          have i2 : (k : Int) < (k : Int) + 1 := by omega
          have HH := Lib.hid hHeld.1
          clear o3 hown8 hgrow8 hHeld0 hHeld1 hHeld2 hHeld HO3d HO2d
          go_wp2_with fail
          go_quiet (fail)
          go_wp2_with fail
          go_roundw
          case rel =>
            refine ⟨k + 1, M ++ [(x, x)], V ++ [z], s + z, u + (x - x), by simp, by omega, by rw [SW.out.1], by simpa [show wrap64 0 = 0 by unfold wrap64; omega, show IntKind.u64.wrap 0 = 0 by rw [IntKind.wrap_u64]; omega] using SW.out.2, Lib.hid (by rw [List.length_append, HML.out]; rfl), AN, HO3e, Lib.hid (by rw [List.map_append]; exact HO8.out), drewN_below HH.out _⟩
          case measure => simp [intOf]; omega
        all_goals
          go_wp2_with fail
          have hgb := owns_base HO1b.out
          have hgr1 := (HO1b.out.stored (k * 2) (.int .i64 x)).2
          have hgr2 := ((HO1b.out.stored (k * 2) (.int .i64 x)).1.stored (k * 2 + 1) (.int .i64 y)).2
          have HO2c := Lib.hid (owns_other (owns_other HO2b.out HO1b.out (by decide) hgr1) (HO1b.out.stored (k * 2) (.int .i64 x)).1 (by decide) hgr2)
          have hB3 : Below w1.heap.size w1 ((w6.setCell ⟨g1, k * 2, none⟩ (.int .i64 x)).setCell ⟨g1, k * 2 + 1, none⟩ (.int .i64 y)) := ((under hB hHeld.1).setCell (p := ⟨g1, k * 2, none⟩) hgb _).setCell (p := ⟨g1, k * 2 + 1, none⟩) hgb _
          rw [flatS_set, set_mid HML.out HS.out] at HO3
          generalize (w6.setCell ⟨g1, k * 2, none⟩ (.int .i64 x)).setCell ⟨g1, k * 2 + 1, none⟩ (.int .i64 y) = W3 at *
          have hs' : ((M ++ [(x, y)]) ++ P.drop (k + 1))[k]? = some (x, y) := by
            rw [List.append_assoc, List.getElem?_append_right (by rw [HML.out]; exact Nat.le_refl _), HML.out, Nat.sub_self]
            rfl
          have hs0 := flatS_at _ k _ hs'
          have hr0 := HO3.out.frozenAt (k * 2)
          have hr1 := HO3.out.frozenAt (k * 2 + 1)
          have hp0 := (HO3.out.cellAt (k * 2) (by omega)).trans hs0.1
          have hp1 := (HO3.out.cellAt (k * 2 + 1) (by omega)).trans hs0.2
          simp only at hp0 hp1
          have hg3 : g1 < W3.heap.size := by
            by_cases h : g1 < W3.heap.size
            · exact h
            · exact absurd rfl (owns_lt HO3.out g1 (by omega))
          have L3 := LI.out x y (IntKind.u64.wrap (a9 + IntKind.u64.wrap k)) hle.out (by have := hx.out; unfold Sml at this; omega) (by have := hy.out; unfold Sml at this; omega) (by rw [IntKind.wrap_u64]; omega) (by rw [IntKind.wrap_u64]; omega)
          have LZ := lies_range x y (IntKind.u64.wrap (a9 + IntKind.u64.wrap k)) hle.out
          generalize liesG x y (IntKind.u64.wrap (a9 + IntKind.u64.wrap k)) = z at L3 LZ
          have SW := Lib.hid (sum_wrap HAI.out (by rw [HML.out]; omega) hx.out hy.out LZ.1 LZ.2)
          have AN := Lib.hid (addsI_next HAI.out hx.out hy.out LZ.1 LZ.2)
          have hVk : V.length = k := HAI.out.1.trans HML.out
          have HL3 := Lib.hid (fun W => L3 W)
          clear L3 LZ
          have HAP := Lib.hid (owns_apart HO2c.out HO3.out (by decide))
          have hc9 := (hB3.cell (p := ⟨bb, off + 2, none⟩) hbw1).trans hcw1
          have hb9 : bb < W3.heap.size := Nat.lt_of_lt_of_le hbw1 hB3.size
          clear HAI hHeld hHeld1 hHeld2 HO1b HO2b kz0 kc0 kf0 kz1 kc1 kf1 hgr1 hgr2 hs' hs0 hf0 hf1 hq0 hq1 hg1 hgb h HS LI
          refine region_keeps (w0 := w1) (L := [(g1, k * 2, .int .i64 x), (g1, k * 2 + 1, .int .i64 y)]) (by kernel_rfl) ⟨hB3, ⟨hg3, hp0, hr0⟩, ⟨hg3, hp1, hr1⟩, trivial⟩ (fun hHeld0 => ?_)
          refine wpAnyH_take (i := 0) (oi := ⟨some 57, _, _, _, _, _⟩) (v := ?_) rfl (by kernel_rfl) (by kernel_rfl) (by kernel_rfl) (fun _ _ _ h => h) (Or.inl ⟨by rfl, ?_⟩) (by assumption) ?_
          rotate_left
          · intro wq hSw; go_simp; (try with_reducible rfl)
          try simp only [Act.put, List.setIfInBounds_toArray, List.set_cons_zero, List.set_cons_succ]
          refine wpAnyH_take (i := 1) (oi := ⟨some 58, _, _, _, _, _⟩) (v := ?_) rfl (by kernel_rfl) (by kernel_rfl) (by kernel_rfl) (fun _ _ _ h => h) (Or.inl ⟨by rfl, ?_⟩) (by assumption) ?_
          rotate_left
          · intro wq hSw; go_simp; (try with_reducible rfl)
          try simp only [Act.put, List.setIfInBounds_toArray, List.set_cons_zero, List.set_cons_succ]
          refine wpAnyH_take (i := 2) (oi := ⟨some 59, _, _, _, _, _⟩) (v := ?_) rfl (by kernel_rfl) (by kernel_rfl) (by kernel_rfl) (fun _ _ _ h => h) (Or.inl ⟨by rfl, ?_⟩) (by assumption) ?_
          rotate_left
          · intro wq hSw; go_simp; (try with_reducible rfl)
          try simp only [Act.put, List.setIfInBounds_toArray, List.set_cons_zero, List.set_cons_succ]
          refine wpAnyH_take (i := 3) (oi := ⟨some 60, _, _, _, _, _⟩) (v := ?_) rfl (by kernel_rfl) (by kernel_rfl) (by kernel_rfl) (fun _ _ _ h => h) (Or.inl ⟨by rfl, ?_⟩) (by assumption) ?_
          rotate_left
          · intro wq hSw; go_simp; (try with_reducible rfl)
          try simp only [Act.put, List.setIfInBounds_toArray, List.set_cons_zero, List.set_cons_succ]
          refine wpAnyH_take (i := 4) (oi := ⟨some 61, _, _, _, _, _⟩) (v := ?_) rfl (by kernel_rfl) (by kernel_rfl) (by kernel_rfl) (fun _ _ _ h => h) (Or.inl ⟨by rfl, ?_⟩) (by assumption) ?_
          rotate_left
          · intro wq hSw; obtain ⟨⟨qz0, qc0, qf0⟩, ⟨qz1, qc1, qf1⟩, _⟩ := hSw.2; have pq := (hSw.1.cell (p := ⟨bb, off + 2, none⟩) hbw1).trans hcw1; go_simp; (try with_reducible rfl)
          try simp only [Act.put, List.setIfInBounds_toArray, List.set_cons_zero, List.set_cons_succ]
          refine wpAnyH_take (i := 5) (oi := ⟨some 62, _, _, _, _, _⟩) (v := ?_) rfl (by kernel_rfl) (by kernel_rfl) (by kernel_rfl) (fun _ _ _ h => h) (Or.inl ⟨by rfl, ?_⟩) (by assumption) ?_
          rotate_left
          · intro wq hSw; go_simp; (try with_reducible rfl)
          try simp only [Act.put, List.setIfInBounds_toArray, List.set_cons_zero, List.set_cons_succ]
          refine wpAnyH_take (i := 6) (oi := ⟨some 63, _, _, _, _, _⟩) (v := ?_) rfl (by kernel_rfl) (by kernel_rfl) (by kernel_rfl) (fun _ _ _ h => h) (Or.inl ⟨by rfl, ?_⟩) (by assumption) ?_
          rotate_left
          · intro wq hSw; go_simp; (try with_reducible rfl)
          try simp only [Act.put, List.setIfInBounds_toArray, List.set_cons_zero, List.set_cons_succ]
          refine wpAnyH_take (i := 7) (oi := ⟨some 64, _, _, _, _, _⟩) (v := ?_) rfl (by kernel_rfl) (by kernel_rfl) (by kernel_rfl) (fun _ _ _ h => h) (Or.inl ⟨by rfl, ?_⟩) (by assumption) ?_
          rotate_left
          · intro wq hSw; go_simp; (try with_reducible rfl)
          try simp only [Act.put, List.setIfInBounds_toArray, List.set_cons_zero, List.set_cons_succ]
          refine wpAnyH_take (i := 8) (oi := ⟨some 65, _, _, _, _, _⟩) (v := ?_) rfl (by kernel_rfl) (by kernel_rfl) (by kernel_rfl) (fun _ _ _ h => h) (Or.inl ⟨by rfl, ?_⟩) (by assumption) ?_
          rotate_left
          · intro wq hSw; obtain ⟨⟨qz0, qc0, qf0⟩, ⟨qz1, qc1, qf1⟩, _⟩ := hSw.2; have pq := (hSw.1.cell (p := ⟨bb, off + 2, none⟩) hbw1).trans hcw1; go_simp; (try with_reducible rfl)
          try simp only [Act.put, List.setIfInBounds_toArray, List.set_cons_zero, List.set_cons_succ]
          refine wpAnyH_take (i := 9) (oi := ⟨some 66, _, _, _, _, _⟩) (v := ?_) rfl (by kernel_rfl) (by kernel_rfl) (by kernel_rfl) (fun _ _ _ h => h) (Or.inl ⟨by rfl, ?_⟩) (by assumption) ?_
          rotate_left
          · intro wq hSw; go_simp; (try with_reducible rfl)
          try simp only [Act.put, List.setIfInBounds_toArray, List.set_cons_zero, List.set_cons_succ]
          refine wpAnyH_take (i := 10) (oi := ⟨some 67, _, _, _, _, _⟩) (v := ?_) rfl (by kernel_rfl) (by kernel_rfl) (by kernel_rfl) (fun _ _ _ h => h) (Or.inl ⟨by rfl, ?_⟩) (by assumption) ?_
          rotate_left
          · intro wq hSw; go_simp; (try with_reducible rfl)
          try simp only [Act.put, List.setIfInBounds_toArray, List.set_cons_zero, List.set_cons_succ]
          refine wpAnyH_take (i := 11) (oi := ⟨some 68, _, _, _, _, _⟩) (v := ?_) rfl (by kernel_rfl) (by kernel_rfl) (by kernel_rfl) (fun _ _ _ h => h) (Or.inl ⟨by rfl, ?_⟩) (by assumption) ?_
          rotate_left
          · intro wq hSw; go_simp; (try with_reducible rfl)
          try simp only [Act.put, List.setIfInBounds_toArray, List.set_cons_zero, List.set_cons_succ]
          refine wpAnyH_take (i := 12) (oi := ⟨some 69, _, _, _, _, _⟩) (v := ?_) rfl (by kernel_rfl) (by kernel_rfl) (by kernel_rfl) (fun _ _ _ h => h) (Or.inl ⟨by rfl, ?_⟩) (by assumption) ?_
          rotate_left
          · intro wq hSw; go_simp; (try with_reducible rfl)
          try simp only [Act.put, List.setIfInBounds_toArray, List.set_cons_zero, List.set_cons_succ]
          refine wpAnyH_ready (rs := [13]) (by kernel_rfl) (by simp) ?_
          refine AllReadyH.cons (o := ⟨some 70, _, _, _, _, _⟩) rfl (fun K hK => ?_) AllReadyH.nil
          go_simp
          (with_reducible refine (HL3.out _).mono ?_); rintro e w5 ⟨rfl, hb⟩; have HO2d := Lib.hid (owns_below (owns_below HO2c.out (by go_grown)) hb); have HO3d := Lib.hid (owns_below (owns_below HO3.out (by go_grown)) hb)
          refine hK.out _ _ (hHeld0.next hb) (fun hHeld1 => ?_)
          clear hK K
          try clear hb
          try simp only [Act.put, List.setIfInBounds_toArray, List.set_cons_zero, List.set_cons_succ]
          refine wpAnyH_ready (rs := [14]) (by kernel_rfl) (by simp) ?_
          refine AllReadyH.cons (o := ⟨some 71, _, _, _, _, _⟩) rfl (fun K hK => ?_) AllReadyH.nil
          go_simp
          refine hK.out _ _ (by first | exact hHeld1.alloc _ | exact (hHeld1.alloc _).drew) (fun hHeld2 => ?_)
          clear hK K
          try clear hb
          try simp only [Act.put, List.setIfInBounds_toArray, List.set_cons_zero, List.set_cons_succ]
          refine wpAnyH_ready (rs := [15]) (by kernel_rfl) (by simp) ?_
          refine AllReadyH.cons (o := ⟨some 72, _, _, _, _, _⟩) rfl (fun K hK => ?_) AllReadyH.nil
          (refine if_wanted rfl ?_; refine wp_append_own _ (.tmp 57) (.tmp 71) 63 rfl w1.heap.size 2 j0 (.int .i64 0) 1 8 Try.underlying63 ji jz0 jz1 jz2 rfl (by decide) _ _ _ rfl (owns_below HO2d.out (by go_grown)) ⟨w5.heap.size, 0, none⟩ 1 1 [.int .i64 z] rfl rfl (new_cells1 rfl) (by intro u hu; simp at hu; subst hu; rfl) (by unfold maxLen; omega) (by omega) (hHeld2).1.size (fun v8 w8 hown8 hgrow8 _ => ?_); have HO3e := Lib.hid (owns_other (owns_below HO3d.out (by go_grown)) (owns_below HO2d.out (by go_grown)) (by decide) hgrow8))
          refine hK.out _ _ (((hHeld2).grows (owns_below HO2d.out (by go_grown)) (Nat.le_refl _) (by intro q hq; simp at hq; rcases hq with rfl | rfl <;> exact HAP.out) hgrow8)) (fun hHeld3 => ?_)
          clear hK K
          try clear hb
          try simp only [Act.put, List.setIfInBounds_toArray, List.set_cons_zero, List.set_cons_succ]
          refine wpAnyH_take (i := 16) (oi := ⟨some 7, _, _, _, _, _⟩) (v := ?_) rfl (by kernel_rfl) (by kernel_rfl) (by kernel_rfl) (fun _ _ _ h => h) (Or.inl ⟨by rfl, ?_⟩) (by assumption) ?_
          rotate_left
          · intro wq hSw; go_simp; (try with_reducible rfl)
          try simp only [Act.put, List.setIfInBounds_toArray, List.set_cons_zero, List.set_cons_succ]
          refine wpAnyH_done (by kernel_rfl) ?_ _
          have hHeld := hHeld3
          obtain ⟨⟨kz0, kc0, kf0⟩, ⟨kz1, kc1, kf1⟩, _⟩ := hHeld.2
          have HVL : (V ++ [z]).length = k + 1 := by rw [List.length_append, hVk]; rfl
          obtain ⟨g3, cc3, hv8, o3, _⟩ := ownI_of (l := V ++ [z]) (by rw [HVL, List.map_append]; exact hown8) (by simp)
          rw [HVL] at hv8
          subst hv8
          obtain ⟨q0, q1, q2, q3⟩ := o3 k z (by rw [← hVk]; exact List.getElem?_concat_length)
          have HO8 := Lib.hid hown8
          have i2 : (k : Int) < (k : Int) + 1 := by omega
          have HH := Lib.hid hHeld.1
          clear o3 hown8 hgrow8 hHeld0 hHeld1 hHeld2 hHeld HO3d HO2d
          go_wp2_with fail
          go_quiet (fail)
          go_wp2_with fail
          go_roundw
          case rel =>
            refine ⟨k + 1, M ++ [(x, y)], V ++ [z], s + z, u + (y - x), by simp, by omega, by rw [SW.out.1], by rw [SW.out.2], Lib.hid (by rw [List.length_append, HML.out]; rfl), AN, HO3e, Lib.hid (by rw [List.map_append]; exact HO8.out), drewN_below HH.out _⟩
          case measure => simp [intOf]; omega
    · have hk : n = k := by omega
      subst hk
      have hD : P.drop n = [] := List.drop_eq_nil_of_le (by have := HN.out; omega)
      rw [hD, List.append_nil] at HO1
      have hAI := HAI.out
      have hMl := HML.out
      have RD := readsS_own (l := M) (by rw [hMl]; exact HO1.out)
      have PL := plus_any M (fun p hp => by have := hAI.2.1 p hp; unfold Sml at this; omega) (by omega) _ _ RD
      rw [addsI_plus hAI (by omega)] at PL
      replace PL := Lib.hid PL
      obtain ⟨a1, a2, a3, a4, a5, a6, a7, a8⟩ := hAI
      generalize (sumS M).1 = S1 at *
      generalize (sumS M).2 = S2 at *
      have HSa := fun W => has_any S1 S2 s W
      rw [show (decide (S1 ≤ s) && decide (s ≤ S2)) = true by rw [decide_eq_true a4, decide_eq_true a5]; rfl] at HSa
      have WD := fun W => width_any S1 S2 (by omega) (by omega) W
      rw [show (if S2 < S1 then 0 else S2 - S1) = u by rw [if_neg (by omega), a6]] at WD
      replace HSa := Lib.hid HSa
      replace WD := Lib.hid WD
      have HA2 := Lib.hid a2
      have HA3 := Lib.hid a3
      have HA1 := Lib.hid a1
      have hHeld : Keeps wr [] wr := ⟨Below.refl _ _, trivial⟩
      clear RD a1 a2 a3 a4 a5 a6 a7 a8 hD HAI SM LI
      go_wp2_with fail
      refine PL.out.mono ?_
      rintro e w6 ⟨rfl, hb⟩
      replace hHeld := hHeld.next hb
      clear hb
      go_wp2_with fail
      refine (HSa.out _).mono ?_
      rintro e w7 ⟨rfl, hb⟩
      replace hHeld : Keeps wr [(w6.heap.size, 0, .int .i64 S1), (w6.heap.size, 1, .int .i64 S2)] w7 := Keeps.next ((hHeld.alloc (.cells #[.int .i64 S1, .int .i64 S2] 23)).app (newK2 (hHeld.alloc (.cells #[.int .i64 S1, .int .i64 S2] 23)))) hb
      clear hb
      obtain ⟨⟨kz0, kc0, kf0⟩, ⟨kz1, kc1, kf1⟩, _⟩ := hHeld.2
      go_wp2_with fail
      refine (WD.out _).mono ?_
      rintro e w8 ⟨rfl, hb⟩
      replace hHeld := hHeld.next hb
      clear hb
      go_wp2_with fail
      have H0 : Keeps wr [] w8 := ⟨hHeld.1, trivial⟩
      clear hHeld kz0 kc0 kf0 kz1 kc1 kf1 HSa WD PL
      obtain ⟨m', hm', m1, m2⟩ : ∃ m', m.tmod 1000 = m' ∧ Hid (-999 ≤ m') ∧ Hid (m' ≤ 999) := ⟨_, rfl, Lib.hid (by have := Int.lt_tmod_of_pos m (show (0 : Int) < 1000 by decide); omega), Lib.hid (by have := Int.tmod_lt_of_pos m (show (0 : Int) < 1000 by decide); omega)⟩
      rw [hm']
      clear hm'
      have HB8 := Lib.hid (under hB H0.1)
      have hg1 : 0 < n → g1 < wr.heap.size := fun hn0 => by
        by_cases h : g1 < wr.heap.size
        · exact h
        · exact absurd rfl (owns_lt HO1.out g1 (by omega))
      obtain ⟨g3, cc3, hv, o3, _⟩ := ownI_of (l := V) (by rw [HA1.out, hMl]; exact HO2.out) (List.ne_nil_of_length_pos (by have := HA1.out; omega))
      rw [HA1.out, hMl] at hv
      subst hv
      have HO3 := Lib.hid o3
      clear o3
      obtain ⟨wr0, hw0⟩ : ∃ W, W = wr := ⟨_, rfl⟩
      subst hw0
      go_loopw [117] (fun i wq => ∃ k : Nat, i = .int .i64 k ∧ k ≤ n ∧ Keeps wr0 [] wq) (fun i _ => n - (intOf i).toNat)
      case atStart => exact ⟨0, rfl, by omega, H0⟩
      case round =>
        obtain ⟨k, rfl, hkn2, hHeld⟩ := hrel
        by_cases gk2 : k < n
        · obtain ⟨⟨x, y⟩, hs⟩ : ∃ s, M[k]? = some s := ⟨_, List.getElem?_eq_getElem (by omega)⟩
          obtain ⟨z, hz⟩ : ∃ z, V[k]? = some z := ⟨_, List.getElem?_eq_getElem (by have := HA1.out; omega)⟩
          have hs0 := flatS_at _ k _ hs
          have c0 := (hHeld.1.cell (p := ⟨g1, k * 2, none⟩) (hg1 (by omega))).trans ((HO1.out.cellAt (k * 2) (by omega)).trans hs0.1)
          have c1' := (hHeld.1.cell (p := ⟨g1, k * 2 + 1, none⟩) (hg1 (by omega))).trans ((HO1.out.cellAt (k * 2 + 1) (by omega)).trans hs0.2)
          obtain ⟨q0, q1, q2, q3⟩ := HO3.out k z hz
          have c2 := (hHeld.1.cell (p := ⟨g3, k, none⟩) q0).trans q1
          simp only at c0 c1'
          obtain ⟨hx, hy, hxy⟩ := HA2.out _ (List.mem_of_getElem? hs)
          obtain ⟨hz1, hz2⟩ := HA3.out k _ _ hs hz
          simp only at hx hy hxy hz1 hz2
          obtain ⟨t0, t1, e1, e2, e3, b1, b2, b3, KZ, W1, W2⟩ := times_in x y m' hx hy hxy m1.out m2.out
          obtain ⟨z1, z2⟩ := KZ z hz1 hz2
          have M1 := m1.out
          have M2 := m2.out
          have T1 := fun W => times_any x y m' (by unfold Sml at hx; omega) (by unfold Sml at hx; omega) (by unfold Sml at hy; omega) (by unfold Sml at hy; omega) (by omega) (by omega) W
          rw [e1] at T1
          have T2 := fun W => times_any t0 t1 (-1) (by omega) (by omega) (by omega) (by omega) (by omega) (by omega) W
          rw [e2] at T2
          have T3 := fun W => times_any x y (-m') (by unfold Sml at hx; omega) (by unfold Sml at hx; omega) (by unfold Sml at hy; omega) (by unfold Sml at hy; omega) (by omega) (by omega) W
          rw [e3] at T3
          replace T1 := Lib.hid T1
          replace T2 := Lib.hid T2
          replace T3 := Lib.hid T3
          have i1 : (k : Int) < (n : Int) := by omega
          have i0 : (0 : Int) ≤ (k : Int) := by omega
          have ng : wrap64 (-m') = -m' := by unfold wrap64; omega
          have zm : IntKind.i64.wrap (z * m') = z * m' := by rw [IntKind.wrap_i64]; omega
          have HSb := fun W => has_any t0 t1 (z * m') W
          rw [show (decide (t0 ≤ z * m') && decide (z * m' ≤ t1)) = true by rw [decide_eq_true z1, decide_eq_true z2]; rfl] at HSb
          rw [← zm] at HSb
          clear zm
          have WA := fun W => width_any t0 t1 (by omega) (by omega) W
          rw [if_neg (by omega)] at WA
          have WB := fun W => width_any x y (by unfold Sml at hx; omega) (by unfold Sml at hy; omega) W
          rw [if_neg (by omega)] at WB
          have hd : 0 ≤ t1 - t0 ∧ t1 - t0 < 18446744073709551616 := by omega
          replace HSb := Lib.hid HSb
          replace WA := Lib.hid WA
          replace WB := Lib.hid WB
          have HQ := mul_wide hxy hx hy m1.out m2.out W1 W2
          clear e1 e2 e3 KZ hs hz hs0 q3 z1 z2 hz1 hz2
          go_wp2_with fail
          refine (T1.out _).mono ?_
          rintro e w9 ⟨rfl, hb⟩
          replace hHeld : Keeps wr0 [(wr.heap.size, 0, .int .i64 x), (wr.heap.size, 1, .int .i64 y)] w9 := Keeps.next ((hHeld.alloc (.cells #[.int .i64 x, .int .i64 y] 23)).app (newK2 (hHeld.alloc (.cells #[.int .i64 x, .int .i64 y] 23)))) hb
          clear hb
          obtain ⟨⟨kz0, kc0, kf0⟩, ⟨kz1, kc1, kf1⟩, _⟩ := hHeld.2
          go_wp2_with fail
          refine (T2.out _).mono ?_
          rintro e w10 ⟨rfl, hb⟩
          replace hHeld : Keeps wr0 [(wr.heap.size, 0, .int .i64 x), (wr.heap.size, 1, .int .i64 y), (w9.heap.size, 0, .int .i64 t0), (w9.heap.size, 1, .int .i64 t1)] w10 := Keeps.next ((hHeld.alloc (.cells #[.int .i64 t0, .int .i64 t1] 23)).app (newK2 (hHeld.alloc (.cells #[.int .i64 t0, .int .i64 t1] 23)))) hb
          clear hb kz0 kc0 kf0 kz1 kc1 kf1
          obtain ⟨⟨kz0, kc0, kf0⟩, ⟨kz1, kc1, kf1⟩, ⟨kz2, kc2, kf2⟩, ⟨kz3, kc3, kf3⟩, _⟩ := hHeld.2
          go_wp2_with fail
          refine (T3.out _).mono ?_
          rintro e w11 ⟨rfl, hb⟩
          replace hHeld : Keeps wr0 [(wr.heap.size, 0, .int .i64 x), (wr.heap.size, 1, .int .i64 y), (w9.heap.size, 0, .int .i64 t0), (w9.heap.size, 1, .int .i64 t1), (w10.heap.size, 0, .int .i64 (-t1)), (w10.heap.size, 1, .int .i64 (-t0))] w11 := Keeps.next ((hHeld.alloc (.cells #[.int .i64 (-t1), .int .i64 (-t0)] 23)).app (newK2 (hHeld.alloc (.cells #[.int .i64 (-t1), .int .i64 (-t0)] 23)))) hb
          clear hb kz0 kc0 kf0 kz1 kc1 kf1 kz2 kc2 kf2 kz3 kc3 kf3
          obtain ⟨⟨kz0, kc0, kf0⟩, ⟨kz1, kc1, kf1⟩, ⟨kz2, kc2, kf2⟩, ⟨kz3, kc3, kf3⟩, ⟨kz4, kc4, kf4⟩, ⟨kz5, kc5, kf5⟩, _⟩ := hHeld.2
          go_wp2_with fail
          have HG := (hHeld.alloc (.cells #[.int .i64 (-t1), .int .i64 (-t0)] 23)).app (newK2 (hHeld.alloc (.cells #[.int .i64 (-t1), .int .i64 (-t0)] 23)))
          clear hHeld kz0 kc0 kf0 kz1 kc1 kf1 kz2 kc2 kf2 kz3 kc3 kf3 kz4 kc4 kf4 kz5 kc5 kf5 T1 T2 T3
          refine region_keeps (w0 := wr0) (L := [(wr.heap.size, 0, .int .i64 x), (wr.heap.size, 1, .int .i64 y), (w9.heap.size, 0, .int .i64 t0), (w9.heap.size, 1, .int .i64 t1), (w10.heap.size, 0, .int .i64 (-t1)), (w10.heap.size, 1, .int .i64 (-t0)), (w11.heap.size, 0, .int .i64 (-t1)), (w11.heap.size, 1, .int .i64 (-t0))]) (by kernel_rfl) HG (fun hHeld0 => ?_)
          refine wpAnyH_take (i := 0) (oi := ⟨some 140, _, _, _, _, _⟩) (v := ?_) rfl (by kernel_rfl) (by kernel_rfl) (by kernel_rfl) (fun _ _ _ h => h) (Or.inl ⟨by rfl, ?_⟩) (by assumption) ?_
          rotate_left
          · intro wq hSw; go_simp; (try with_reducible rfl)
          try simp only [Act.put, List.setIfInBounds_toArray, List.set_cons_zero, List.set_cons_succ]
          refine wpAnyH_take (i := 1) (oi := ⟨some 141, _, _, _, _, _⟩) (v := ?_) rfl (by kernel_rfl) (by kernel_rfl) (by kernel_rfl) (fun _ _ _ h => h) (Or.inl ⟨by rfl, ?_⟩) (by assumption) ?_
          rotate_left
          · intro wq hSw; go_simp; (try with_reducible rfl)
          try simp only [Act.put, List.setIfInBounds_toArray, List.set_cons_zero, List.set_cons_succ]
          refine wpAnyH_take (i := 2) (oi := ⟨some 142, _, _, _, _, _⟩) (v := ?_) rfl (by kernel_rfl) (by kernel_rfl) (by kernel_rfl) (fun _ _ _ h => h) (Or.inl ⟨by rfl, ?_⟩) (by assumption) ?_
          rotate_left
          · intro wq hSw; go_simp; (try with_reducible rfl)
          try simp only [Act.put, List.setIfInBounds_toArray, List.set_cons_zero, List.set_cons_succ]
          refine wpAnyH_take (i := 3) (oi := ⟨some 143, _, _, _, _, _⟩) (v := ?_) rfl (by kernel_rfl) (by kernel_rfl) (by kernel_rfl) (fun _ _ _ h => h) (Or.inl ⟨by rfl, ?_⟩) (by assumption) ?_
          rotate_left
          · intro wq hSw; go_simp; (try with_reducible rfl)
          try simp only [Act.put, List.setIfInBounds_toArray, List.set_cons_zero, List.set_cons_succ]
          refine wpAnyH_take (i := 4) (oi := ⟨some 144, _, _, _, _, _⟩) (v := ?_) rfl (by kernel_rfl) (by kernel_rfl) (by kernel_rfl) (fun _ _ _ h => h) (Or.inl ⟨by rfl, ?_⟩) (by assumption) ?_
          rotate_left
          · intro wq hSw; go_simp; (try with_reducible rfl)
          try simp only [Act.put, List.setIfInBounds_toArray, List.set_cons_zero, List.set_cons_succ]
          refine wpAnyH_take (i := 5) (oi := ⟨some 145, _, _, _, _, _⟩) (v := ?_) rfl (by kernel_rfl) (by kernel_rfl) (by kernel_rfl) (fun _ _ _ h => h) (Or.inl ⟨by rfl, ?_⟩) (by assumption) ?_
          rotate_left
          · intro wq hSw; go_simp; (try with_reducible rfl)
          try simp only [Act.put, List.setIfInBounds_toArray, List.set_cons_zero, List.set_cons_succ]
          refine wpAnyH_take (i := 6) (oi := ⟨some 146, _, _, _, _, _⟩) (v := ?_) rfl (by kernel_rfl) (by kernel_rfl) (by kernel_rfl) (fun _ _ _ h => h) (Or.inl ⟨by rfl, ?_⟩) (by assumption) ?_
          rotate_left
          · intro wq hSw; go_simp; (try with_reducible rfl)
          try simp only [Act.put, List.setIfInBounds_toArray, List.set_cons_zero, List.set_cons_succ]
          refine wpAnyH_take (i := 7) (oi := ⟨some 147, _, _, _, _, _⟩) (v := ?_) rfl (by kernel_rfl) (by kernel_rfl) (by kernel_rfl) (fun _ _ _ h => h) (Or.inl ⟨by rfl, ?_⟩) (by assumption) ?_
          rotate_left
          · intro wq hSw; go_simp; (try with_reducible rfl)
          try simp only [Act.put, List.setIfInBounds_toArray, List.set_cons_zero, List.set_cons_succ]
          refine wpAnyH_take (i := 8) (oi := ⟨some 148, _, _, _, _, _⟩) (v := ?_) rfl (by kernel_rfl) (by kernel_rfl) (by kernel_rfl) (fun _ _ _ h => h) (Or.inl ⟨by rfl, ?_⟩) (by assumption) ?_
          rotate_left
          · intro wq hSw; go_simp; (try with_reducible rfl)
          try simp only [Act.put, List.setIfInBounds_toArray, List.set_cons_zero, List.set_cons_succ]
          refine wpAnyH_take (i := 9) (oi := ⟨some 149, _, _, _, _, _⟩) (v := ?_) rfl (by kernel_rfl) (by kernel_rfl) (by kernel_rfl) (fun _ _ _ h => h) (Or.inl ⟨by rfl, ?_⟩) (by assumption) ?_
          rotate_left
          · intro wq hSw; go_simp; (try with_reducible rfl)
          try simp only [Act.put, List.setIfInBounds_toArray, List.set_cons_zero, List.set_cons_succ]
          refine wpAnyH_take (i := 10) (oi := ⟨some 150, _, _, _, _, _⟩) (v := ?_) rfl (by kernel_rfl) (by kernel_rfl) (by kernel_rfl) (fun _ _ _ h => h) (Or.inl ⟨by rfl, ?_⟩) (by assumption) ?_
          rotate_left
          · intro wq hSw; go_simp; (try with_reducible rfl)
          try simp only [Act.put, List.setIfInBounds_toArray, List.set_cons_zero, List.set_cons_succ]
          refine wpAnyH_take (i := 11) (oi := ⟨some 151, _, _, _, _, _⟩) (v := ?_) rfl (by kernel_rfl) (by kernel_rfl) (by kernel_rfl) (fun _ _ _ h => h) (Or.inl ⟨by rfl, ?_⟩) (by assumption) ?_
          rotate_left
          · intro wq hSw; obtain ⟨⟨qz0, qc0, qf0⟩, ⟨qz1, qc1, qf1⟩, ⟨qz2, qc2, qf2⟩, ⟨qz3, qc3, qf3⟩, ⟨qz4, qc4, qf4⟩, ⟨qz5, qc5, qf5⟩, ⟨qz6, qc6, qf6⟩, ⟨qz7, qc7, qf7⟩, _⟩ := hSw.2; have pq := (hSw.1.cell (p := ⟨g3, k, none⟩) q0).trans q1; go_simp; (try with_reducible rfl)
          try simp only [Act.put, List.setIfInBounds_toArray, List.set_cons_zero, List.set_cons_succ]
          refine wpAnyH_take (i := 12) (oi := ⟨some 152, _, _, _, _, _⟩) (v := ?_) rfl (by kernel_rfl) (by kernel_rfl) (by kernel_rfl) (fun _ _ _ h => h) (Or.inl ⟨by rfl, ?_⟩) (by assumption) ?_
          rotate_left
          · intro wq hSw; obtain ⟨⟨qz0, qc0, qf0⟩, ⟨qz1, qc1, qf1⟩, ⟨qz2, qc2, qf2⟩, ⟨qz3, qc3, qf3⟩, ⟨qz4, qc4, qf4⟩, ⟨qz5, qc5, qf5⟩, ⟨qz6, qc6, qf6⟩, ⟨qz7, qc7, qf7⟩, _⟩ := hSw.2; have pq := (hSw.1.cell (p := ⟨g3, k, none⟩) q0).trans q1; go_simp; (try with_reducible rfl)
          try simp only [Act.put, List.setIfInBounds_toArray, List.set_cons_zero, List.set_cons_succ]
          refine wpAnyH_take (i := 13) (oi := ⟨some 153, _, _, _, _, _⟩) (v := ?_) rfl (by kernel_rfl) (by kernel_rfl) (by kernel_rfl) (fun _ _ _ h => h) (Or.inl ⟨by rfl, ?_⟩) (by assumption) ?_
          rotate_left
          · intro wq hSw; go_simp; (try with_reducible rfl)
          try simp only [Act.put, List.setIfInBounds_toArray, List.set_cons_zero, List.set_cons_succ]
          refine wpAnyH_take (i := 14) (oi := ⟨some 154, _, _, _, _, _⟩) (v := ?_) rfl (by kernel_rfl) (by kernel_rfl) (by kernel_rfl) (fun _ _ _ h => h) (Or.inl ⟨by rfl, ?_⟩) (by assumption) ?_
          rotate_left
          · intro wq hSw; go_simp; (try with_reducible rfl)
          try simp only [Act.put, List.setIfInBounds_toArray, List.set_cons_zero, List.set_cons_succ]
          refine wpAnyH_take (i := 15) (oi := ⟨some 155, _, _, _, _, _⟩) (v := ?_) rfl (by kernel_rfl) (by kernel_rfl) (by kernel_rfl) (fun _ _ _ h => h) (Or.inl ⟨by rfl, ?_⟩) (by assumption) ?_
          rotate_left
          · intro wq hSw; go_simp; (try with_reducible rfl)
          try simp only [Act.put, List.setIfInBounds_toArray, List.set_cons_zero, List.set_cons_succ]
          refine wpAnyH_take (i := 16) (oi := ⟨some 156, _, _, _, _, _⟩) (v := ?_) rfl (by kernel_rfl) (by kernel_rfl) (by kernel_rfl) (fun _ _ _ h => h) (Or.inl ⟨by rfl, ?_⟩) (by assumption) ?_
          rotate_left
          · intro wq hSw; obtain ⟨⟨qz0, qc0, qf0⟩, ⟨qz1, qc1, qf1⟩, ⟨qz2, qc2, qf2⟩, ⟨qz3, qc3, qf3⟩, ⟨qz4, qc4, qf4⟩, ⟨qz5, qc5, qf5⟩, ⟨qz6, qc6, qf6⟩, ⟨qz7, qc7, qf7⟩, _⟩ := hSw.2; have pq := (hSw.1.cell (p := ⟨g3, k, none⟩) q0).trans q1; go_simp; (try with_reducible rfl)
          try simp only [Act.put, List.setIfInBounds_toArray, List.set_cons_zero, List.set_cons_succ]
          refine wpAnyH_take (i := 17) (oi := ⟨some 157, _, _, _, _, _⟩) (v := ?_) rfl (by kernel_rfl) (by kernel_rfl) (by kernel_rfl) (fun _ _ _ h => h) (Or.inl ⟨by rfl, ?_⟩) (by assumption) ?_
          rotate_left
          · intro wq hSw; go_simp; (try with_reducible rfl)
          try simp only [Act.put, List.setIfInBounds_toArray, List.set_cons_zero, List.set_cons_succ]
          refine wpAnyH_take (i := 18) (oi := ⟨some 158, _, _, _, _, _⟩) (v := ?_) rfl (by kernel_rfl) (by kernel_rfl) (by kernel_rfl) (fun _ _ _ h => h) (Or.inl ⟨by rfl, ?_⟩) (by assumption) ?_
          rotate_left
          · intro wq hSw; go_simp; (try with_reducible rfl)
          try simp only [Act.put, List.setIfInBounds_toArray, List.set_cons_zero, List.set_cons_succ]
          refine wpAnyH_take (i := 19) (oi := ⟨some 159, _, _, _, _, _⟩) (v := ?_) rfl (by kernel_rfl) (by kernel_rfl) (by kernel_rfl) (fun _ _ _ h => h) (Or.inl ⟨by rfl, ?_⟩) (by assumption) ?_
          rotate_left
          · intro wq hSw; go_simp; (try with_reducible rfl)
          try simp only [Act.put, List.setIfInBounds_toArray, List.set_cons_zero, List.set_cons_succ]
          refine wpAnyH_take (i := 20) (oi := ⟨some 160, _, _, _, _, _⟩) (v := ?_) rfl (by kernel_rfl) (by kernel_rfl) (by kernel_rfl) (fun _ _ _ h => h) (Or.inl ⟨by rfl, ?_⟩) (by assumption) ?_
          rotate_left
          · intro wq hSw; obtain ⟨⟨qz0, qc0, qf0⟩, ⟨qz1, qc1, qf1⟩, ⟨qz2, qc2, qf2⟩, ⟨qz3, qc3, qf3⟩, ⟨qz4, qc4, qf4⟩, ⟨qz5, qc5, qf5⟩, ⟨qz6, qc6, qf6⟩, ⟨qz7, qc7, qf7⟩, _⟩ := hSw.2; have pq := (hSw.1.cell (p := ⟨g3, k, none⟩) q0).trans q1; go_simp; (try with_reducible rfl)
          try simp only [Act.put, List.setIfInBounds_toArray, List.set_cons_zero, List.set_cons_succ]
          refine wpAnyH_take (i := 21) (oi := ⟨some 161, _, _, _, _, _⟩) (v := ?_) rfl (by kernel_rfl) (by kernel_rfl) (by kernel_rfl) (fun _ _ _ h => h) (Or.inl ⟨by rfl, ?_⟩) (by assumption) ?_
          rotate_left
          · intro wq hSw; go_simp; (try with_reducible rfl)
          try simp only [Act.put, List.setIfInBounds_toArray, List.set_cons_zero, List.set_cons_succ]
          refine wpAnyH_take (i := 22) (oi := ⟨some 162, _, _, _, _, _⟩) (v := ?_) rfl (by kernel_rfl) (by kernel_rfl) (by kernel_rfl) (fun _ _ _ h => h) (Or.inl ⟨by rfl, ?_⟩) (by assumption) ?_
          rotate_left
          · intro wq hSw; go_simp; (try with_reducible rfl)
          try simp only [Act.put, List.setIfInBounds_toArray, List.set_cons_zero, List.set_cons_succ]
          refine wpAnyH_ready (rs := [23]) (by kernel_rfl) (by simp) ?_
          refine AllReadyH.cons (o := ⟨some 163, _, _, _, _, _⟩) rfl (fun K hK => ?_) AllReadyH.nil
          go_simp
          (first | (with_reducible refine (HSb.out _).mono ?_) | (with_reducible refine (WA.out _).mono ?_) | (with_reducible refine (WB.out _).mono ?_)); rintro e w12 ⟨rfl, hb⟩
          refine hK.out _ _ (hHeld0.next hb) (fun hHeld1 => ?_)
          clear hK K
          try clear hb
          try simp only [Act.put, List.setIfInBounds_toArray, List.set_cons_zero, List.set_cons_succ]
          refine wpAnyH_take (i := 24) (oi := ⟨some 164, _, _, _, _, _⟩) (v := ?_) rfl (by kernel_rfl) (by kernel_rfl) (by kernel_rfl) (fun _ _ _ h => h) (Or.inl ⟨by rfl, ?_⟩) (by assumption) ?_
          rotate_left
          · intro wq hSw; go_simp; (try with_reducible rfl)
          try simp only [Act.put, List.setIfInBounds_toArray, List.set_cons_zero, List.set_cons_succ]
          refine wpAnyH_take (i := 25) (oi := ⟨some 165, _, _, _, _, _⟩) (v := ?_) rfl (by kernel_rfl) (by kernel_rfl) (by kernel_rfl) (fun _ _ _ h => h) (Or.inl ⟨by rfl, ?_⟩) (by assumption) ?_
          rotate_left
          · intro wq hSw; go_simp; (try with_reducible rfl)
          try simp only [Act.put, List.setIfInBounds_toArray, List.set_cons_zero, List.set_cons_succ]
          refine wpAnyH_take (i := 26) (oi := ⟨some 166, _, _, _, _, _⟩) (v := ?_) rfl (by kernel_rfl) (by kernel_rfl) (by kernel_rfl) (fun _ _ _ h => h) (Or.inl ⟨by rfl, ?_⟩) (by assumption) ?_
          rotate_left
          · intro wq hSw; go_simp; (try with_reducible rfl)
          try simp only [Act.put, List.setIfInBounds_toArray, List.set_cons_zero, List.set_cons_succ]
          refine wpAnyH_take (i := 27) (oi := ⟨some 167, _, _, _, _, _⟩) (v := ?_) rfl (by kernel_rfl) (by kernel_rfl) (by kernel_rfl) (fun _ _ _ h => h) (Or.inl ⟨by rfl, ?_⟩) (by assumption) ?_
          rotate_left
          · intro wq hSw; obtain ⟨⟨qz0, qc0, qf0⟩, ⟨qz1, qc1, qf1⟩, ⟨qz2, qc2, qf2⟩, ⟨qz3, qc3, qf3⟩, ⟨qz4, qc4, qf4⟩, ⟨qz5, qc5, qf5⟩, ⟨qz6, qc6, qf6⟩, ⟨qz7, qc7, qf7⟩, _⟩ := hSw.2; have pq := (hSw.1.cell (p := ⟨g3, k, none⟩) q0).trans q1; go_simp; (try with_reducible rfl)
          try simp only [Act.put, List.setIfInBounds_toArray, List.set_cons_zero, List.set_cons_succ]
          refine wpAnyH_take (i := 29) (oi := ⟨some 169, _, _, _, _, _⟩) (v := ?_) rfl (by kernel_rfl) (by kernel_rfl) (by kernel_rfl) (fun _ _ _ h => h) (Or.inl ⟨by rfl, ?_⟩) (by assumption) ?_
          rotate_left
          · intro wq hSw; obtain ⟨⟨qz0, qc0, qf0⟩, ⟨qz1, qc1, qf1⟩, ⟨qz2, qc2, qf2⟩, ⟨qz3, qc3, qf3⟩, ⟨qz4, qc4, qf4⟩, ⟨qz5, qc5, qf5⟩, ⟨qz6, qc6, qf6⟩, ⟨qz7, qc7, qf7⟩, _⟩ := hSw.2; have pq := (hSw.1.cell (p := ⟨g3, k, none⟩) q0).trans q1; go_simp; (try with_reducible rfl)
          try simp only [Act.put, List.setIfInBounds_toArray, List.set_cons_zero, List.set_cons_succ]
          refine wpAnyH_take (i := 31) (oi := ⟨some 171, _, _, _, _, _⟩) (v := ?_) rfl (by kernel_rfl) (by kernel_rfl) (by kernel_rfl) (fun _ _ _ h => h) (Or.inl ⟨by rfl, ?_⟩) (by assumption) ?_
          rotate_left
          · intro wq hSw; go_simp; (try with_reducible rfl)
          try simp only [Act.put, List.setIfInBounds_toArray, List.set_cons_zero, List.set_cons_succ]
          refine wpAnyH_take (i := 32) (oi := ⟨some 172, _, _, _, _, _⟩) (v := ?_) rfl (by kernel_rfl) (by kernel_rfl) (by kernel_rfl) (fun _ _ _ h => h) (Or.inl ⟨by rfl, ?_⟩) (by assumption) ?_
          rotate_left
          · intro wq hSw; go_simp; (try with_reducible rfl)
          try simp only [Act.put, List.setIfInBounds_toArray, List.set_cons_zero, List.set_cons_succ]
          refine wpAnyH_take (i := 33) (oi := ⟨some 173, _, _, _, _, _⟩) (v := ?_) rfl (by kernel_rfl) (by kernel_rfl) (by kernel_rfl) (fun _ _ _ h => h) (Or.inl ⟨by rfl, ?_⟩) (by assumption) ?_
          rotate_left
          · intro wq hSw; go_simp; (try with_reducible rfl)
          try simp only [Act.put, List.setIfInBounds_toArray, List.set_cons_zero, List.set_cons_succ]
          refine wpAnyH_take (i := 34) (oi := ⟨some 174, _, _, _, _, _⟩) (v := ?_) rfl (by kernel_rfl) (by kernel_rfl) (by kernel_rfl) (fun _ _ _ h => h) (Or.inl ⟨by rfl, ?_⟩) (by assumption) ?_
          rotate_left
          · intro wq hSw; go_simp; (try with_reducible rfl)
          try simp only [Act.put, List.setIfInBounds_toArray, List.set_cons_zero, List.set_cons_succ]
          refine wpAnyH_take (i := 35) (oi := ⟨some 175, _, _, _, _, _⟩) (v := ?_) rfl (by kernel_rfl) (by kernel_rfl) (by kernel_rfl) (fun _ _ _ h => h) (Or.inl ⟨by rfl, ?_⟩) (by assumption) ?_
          rotate_left
          · intro wq hSw; go_simp; (try with_reducible rfl)
          try simp only [Act.put, List.setIfInBounds_toArray, List.set_cons_zero, List.set_cons_succ]
          refine wpAnyH_ready (rs := [28]) (by kernel_rfl) (by simp) ?_
          refine AllReadyH.cons (o := ⟨some 168, _, _, _, _, _⟩) rfl (fun K hK => ?_) AllReadyH.nil
          go_simp
          (first | (with_reducible refine (HSb.out _).mono ?_) | (with_reducible refine (WA.out _).mono ?_) | (with_reducible refine (WB.out _).mono ?_)); rintro e w12 ⟨rfl, hb⟩
          refine hK.out _ _ (hHeld1.next hb) (fun hHeld2 => ?_)
          clear hK K
          try clear hb
          try simp only [Act.put, List.setIfInBounds_toArray, List.set_cons_zero, List.set_cons_succ]
          refine wpAnyH_ready (rs := [30]) (by kernel_rfl) (by simp) ?_
          refine AllReadyH.cons (o := ⟨some 170, _, _, _, _, _⟩) rfl (fun K hK => ?_) AllReadyH.nil
          go_simp
          (first | (with_reducible refine (HSb.out _).mono ?_) | (with_reducible refine (WA.out _).mono ?_) | (with_reducible refine (WB.out _).mono ?_)); rintro e w12 ⟨rfl, hb⟩
          refine hK.out _ _ (hHeld2.next hb) (fun hHeld3 => ?_)
          clear hK K
          try clear hb
          try simp only [Act.put, List.setIfInBounds_toArray, List.set_cons_zero, List.set_cons_succ]
          refine wpAnyH_take (i := 36) (oi := ⟨some 176, _, _, _, _, _⟩) (v := ?_) rfl (by kernel_rfl) (by kernel_rfl) (by kernel_rfl) (fun _ _ _ h => h) (Or.inl ⟨by rfl, ?_⟩) (by assumption) ?_
          rotate_left
          · intro wq hSw; go_simp; (try with_reducible rfl)
          try simp only [Act.put, List.setIfInBounds_toArray, List.set_cons_zero, List.set_cons_succ]
          refine wpAnyH_take (i := 37) (oi := ⟨some 177, _, _, _, _, _⟩) (v := ?_) rfl (by kernel_rfl) (by kernel_rfl) (by kernel_rfl) (fun _ _ _ h => h) (Or.inl ⟨by rfl, ?_⟩) (by assumption) ?_
          rotate_left
          · intro wq hSw; go_simp; (try with_reducible rfl)
          try simp only [Act.put, List.setIfInBounds_toArray, List.set_cons_zero, List.set_cons_succ]
          refine wpAnyH_take (i := 38) (oi := ⟨some 178, _, _, _, _, _⟩) (v := ?_) rfl (by kernel_rfl) (by kernel_rfl) (by kernel_rfl) (fun _ _ _ h => h) (Or.inl ⟨by rfl, ?_⟩) (by assumption) ?_
          rotate_left
          · intro wq hSw; go_simp; (try with_reducible rfl)
          try simp only [Act.put, List.setIfInBounds_toArray, List.set_cons_zero, List.set_cons_succ]
          refine wpAnyH_done (by kernel_rfl) ?_ _
          have hHeld := hHeld3
          obtain ⟨⟨kz0, kc0, kf0⟩, ⟨kz1, kc1, kf1⟩, ⟨kz2, kc2, kf2⟩, ⟨kz3, kc3, kf3⟩, ⟨kz4, kc4, kf4⟩, ⟨kz5, kc5, kf5⟩, ⟨kz6, kc6, kf6⟩, ⟨kz7, kc7, kf7⟩, _⟩ := hHeld.2
          all_goals
            go_wp2_with fail
          all_goals first
            | exact absurd ‹(t1 - t0 != _) = true› (by rw [HQ.out]; simp)
            | (refine ⟨⟨k + 1, by simp, by omega, hHeld.1, trivial⟩, ?_⟩; simp [intOf]; omega)
        · have i1 : ¬ (k : Int) < (n : Int) := by omega
          go_wp2_with fail
          go_ret
          exact ⟨rfl, under HB1.out (under hB hHeld.1)⟩
end Go.Proofs.Ytmnndbafljngiaa
