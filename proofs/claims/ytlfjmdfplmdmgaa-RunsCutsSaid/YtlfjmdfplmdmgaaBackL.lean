/-
  Layer 7: the law RunsBack holds of every input. Conditions: those of the law's row.
-/
import Derived.Test.YtlfjmdfplmdmgaaBackF
namespace Go.Proofs.Ytlfjmdfplmdmgaa
open Go.RowKit Go.Shelf

/-- Where there are no times. -/
theorem are_nil : areB [] = false := by simp [areB]
set_option maxRecDepth 100000 in
set_option maxHeartbeats 4000000 in
theorem back_good (w : World) (ad : Addr) (n c N : Nat) (T : List Int) (hm : min (n : Int) 260 = (N : Int)) (hNc : N ≤ c) (hN : N ≤ 260) (hTN : T.length = N) (hR : Reads .i64 w (.slice (some ad) N c) T) (hA : areB T = true) (WK : Hid (Calls Try.prog 11 #[] w (Ret w (.bool true)))) : Calls Try.prog 7 #[.slice (some ad) n c] w (Ret w (.bool true)) := by
  obtain ⟨i0, hi, hz0, hz1, hz2⟩ := info_parts infoI64
  have HTN := Lib.hid hTN
  have HR := Lib.hid hR
  have n1 : (N : Int) ≤ (c : Int) := by omega
  have n2 : (0 : Int) ≤ (N : Int) := by omega
  have G := goodR hA
  have OF2 := good_of hA (by omega)
  have hLn := G.len
  generalize laidR T = L at *
  have TI := good_ti G
  have CK := good_ck G
  have CN := good_cn G hTN
  have EQ := good_eq (T := T) (by omega)
  have FI := good_fi G
  have AT := good_at G
  clear hA G
  go_enter Try.func7, Try.ntmps7
  go_wp2_with fail
  refine WK.out.mono ?_
  rintro e w1 ⟨rfl, hb1⟩
  go_wp2_with (at_builtin; refine wpList_append_own _ rfl _ _ 26 rfl w1.heap.size 2 i0 (.int .i64 0) 1 8 Try.underlying26 hi hz0 hz1 hz2 rfl (by decide) _ _ _ rfl (World.ownsRow_made w1 #[] 0 (Nat.le_refl _) (Nat.zero_le _) rfl) ad N c (T.map (Value.int .i64)) rfl ?qc1 ?qc2 ?qc3 ?qc4 ?qc5 ?qc6 ?_)
  case qc1 => rw [List.length_map, HTN.out]; simp
  case qc2 => exact reads_addI (HR.out.below (hb1.trans ((below_alloc w1 _).mono hb1.size)))
  case qc3 => exact ints_one T
  case qc4 => unfold maxLen; omega
  case qc5 => omega
  case qc6 => simp
  intro v2 w2 hown hgrow _
  have hb12 : Below w1.heap.size w1 w2 := ((Below.refl _ w1).alloc (Nat.le_refl _) _).grown hgrow (by simp) (by intro k hk; simp [Value.ownBlock] at hk; omega)
  have hO2 : RowI w1.heap.size T v2 w2 := by unfold RowI; rw [HTN.out]; simpa using hown
  have hB2 := under hb1 hb12
  clear hown hgrow hb12
  have hr2 := reads_own (k := .i64) hO2
  obtain ⟨A2, c2, rfl, hc2, hk2⟩ := id hr2
  rw [hTN] at hr2 hc2 ⊢
  have R2 := Lib.hid hr2
  have K2 := Lib.hid hk2
  clear hr2 hk2 hO2 WK HR hR
  go_wp2_with fail
  refine (OF2.out _ _ R2.out).mono ?_
  rintro e w3 ⟨u, rfl, hb3, ho3⟩
  have hr3 := readsR_own ho3
  obtain ⟨A3, c3, rfl, _⟩ := id hr3
  have R3 := Lib.hid hr3
  have R23 := Lib.hid (R2.out.below hb3)
  have hB3 := under hB2 hb3
  have hb23 := hb3
  clear hr3 ho3 hb3
  go_wp2_with fail
  refine (TI.out _ _ R3.out).mono ?_
  rintro e w4 ⟨u4, rfl, hb4, ho4⟩
  have hr4 := reads_own (k := .i64) ho4
  obtain ⟨A4, c4, rfl, _⟩ := id hr4
  rw [hTN] at hr4 ⊢
  have R4 := Lib.hid hr4
  have R34 := Lib.hid (R3.out.below hb4)
  have R24 := Lib.hid (R23.out.below hb4)
  have hB4 := under hB3 hb4
  have hb24 := under hb23 hb4
  clear hr4 ho4 hb4 hb23 hB3 hB2
  have tN : ((N : Int) != (N : Int)) = false := by simp
  go_wp2_with fail
  refine (EQ.out _ _ _ R4.out R24.out).mono ?_
  rintro e w5 ⟨rfl, hb5⟩
  have R35 := Lib.hid (R34.out.below hb5)
  have hB5 := under hB4 hb5
  have hb25 := under hb24 hb5
  clear hb5 hB4 hb24
  go_wp2_with fail
  refine (CK.out _ _ R35.out).mono ?_
  rintro e w6 ⟨rfl, hb6⟩
  have R36 := Lib.hid (R35.out.below hb6)
  have hB6 := under hB5 hb6
  have hb26 := under hb25 hb6
  clear hb6 hB5 hb25
  go_wp2_with fail
  refine (CN.out _ _ R36.out).mono ?_
  rintro e w7 ⟨rfl, hb7⟩
  have R37 := Lib.hid (R36.out.below hb7)
  have hB7 := under hB6 hb7
  have hb27 := under hb26 hb7
  clear hb7 hB6 hb26 R2 R23 R24 R3 R34 R35 R36 R4 OF2 TI CK CN EQ
  go_wp2_with fail
  go_loopw [98] (fun i wr => ∃ k : Nat, i = .int .i64 k ∧ k ≤ N ∧ Below w7.heap.size w7 wr) (fun i _ => N - (intOf i).toNat)
  case atStart => exact ⟨0, rfl, by omega, Below.refl _ _⟩
  case round =>
    obtain ⟨k, rfl, hkl, hB⟩ := hrel
    by_cases gk : k < N
    · obtain ⟨t, hx⟩ : ∃ s, T[k]? = some s := ⟨_, List.getElem?_eq_getElem (by have := HTN.out; omega)⟩
      obtain ⟨bb, off, rfl, hbw, hc1⟩ := K2.out k _ hx
      have c1 := (hB.cell (p := ⟨bb, off + k, none⟩) (Nat.lt_of_lt_of_le hbw hb27.size)).trans ((hb27.cell (p := ⟨bb, off + k, none⟩) hbw).trans hc1)
      have i1 : (k : Int) < (N : Int) := by omega
      have i3 : (0 : Int) ≤ (k : Int) := by omega
      have HX := Lib.hid hx
      clear hc1 hx
      go_wp2_with fail
      refine (FI.out _ _ k t (R37.out.below hB) HX.out).mono ?_
      rintro e w8 ⟨rfl, hb8⟩
      have hB8 := under hB hb8
      go_wp2_with fail
      refine (AT.out _ _ k t (R37.out.below hB8) HX.out).mono ?_
      rintro e w9 ⟨rfl, hb9⟩
      have hB9 := under hB8 hb9
      clear hb8 hb9 hB8 hB c1
      have t1 : ((k : Int) != (k : Int)) = false := by simp
      have t2 : (t != t) = false := by simp
      go_wp2_with fail
      go_roundw
      case rel => exact ⟨k + 1, by simp, gk, hB9⟩
      case measure => exact index_less7 gk
    · have i1 : ¬ (k : Int) < (N : Int) := by omega
      go_wp2_with fail
      go_ret
      exact ⟨rfl, under hB7 hB⟩
set_option maxRecDepth 100000 in
set_option maxHeartbeats 4000000 in
theorem back_zero (w : World) (ad : Addr) (n c N : Nat) (T : List Int) (hm : min (n : Int) 260 = (N : Int)) (hNc : N ≤ c) (hN : N ≤ 260) (hTN : T.length = N) (hR : Reads .i64 w (.slice (some ad) N c) T) (h0 : ¬ 1 ≤ N) (hA : areB T = false) (WK : Hid (Calls Try.prog 11 #[] w (Ret w (.bool true)))) : Calls Try.prog 7 #[.slice (some ad) n c] w (Ret w (.bool true)) := by
  obtain ⟨i0, hi, hz0, hz1, hz2⟩ := info_parts infoI64
  have HTN := Lib.hid hTN
  have HR := Lib.hid hR
  have n1 : (N : Int) ≤ (c : Int) := by omega
  have n2 : (0 : Int) ≤ (N : Int) := by omega
  have OF2 : Hid (∀ v W, Reads .i64 W v T → Calls Try.prog 20 #[v] W (ErrR W 2)) := Lib.hid (fun v W hr => (ofA_any T (by omega) v W hr).mono fun e w' hh => by have := res_err hh (by rw [hA]; decide); rwa [hA] at this)
  have n5 : ((N : Int) == 0) = true := beq_iff_eq.2 (by omega)
  clear hA
  go_enter Try.func7, Try.ntmps7
  go_wp2_with fail
  refine WK.out.mono ?_
  rintro e w1 ⟨rfl, hb1⟩
  go_wp2_with (at_builtin; refine wpList_append_own _ rfl _ _ 26 rfl w1.heap.size 2 i0 (.int .i64 0) 1 8 Try.underlying26 hi hz0 hz1 hz2 rfl (by decide) _ _ _ rfl (World.ownsRow_made w1 #[] 0 (Nat.le_refl _) (Nat.zero_le _) rfl) ad N c (T.map (Value.int .i64)) rfl ?qc1 ?qc2 ?qc3 ?qc4 ?qc5 ?qc6 ?_)
  case qc1 => rw [List.length_map, HTN.out]; simp
  case qc2 => exact reads_addI (HR.out.below (hb1.trans ((below_alloc w1 _).mono hb1.size)))
  case qc3 => exact ints_one T
  case qc4 => unfold maxLen; omega
  case qc5 => omega
  case qc6 => simp
  intro v2 w2 hown hgrow _
  have hb12 : Below w1.heap.size w1 w2 := ((Below.refl _ w1).alloc (Nat.le_refl _) _).grown hgrow (by simp) (by intro k hk; simp [Value.ownBlock] at hk; omega)
  have hO2 : RowI w1.heap.size T v2 w2 := by unfold RowI; rw [HTN.out]; simpa using hown
  have hB2 := under hb1 hb12
  clear hown hgrow hb12
  have hr2 := reads_own (k := .i64) hO2
  obtain ⟨A2, c2, rfl, hc2, hk2⟩ := id hr2
  rw [hTN] at hr2 hc2 ⊢
  have R2 := Lib.hid hr2
  have K2 := Lib.hid hk2
  clear hr2 hk2 hO2 WK HR hR
  go_wp2_with fail
  refine (OF2.out _ _ R2.out).mono ?_
  rintro e w3 ⟨rfl, hb3⟩
  have R23 := Lib.hid (R2.out.below hb3)
  have hB3 := under hB2 hb3
  go_wp2_with fail
  go_ret
  exact ⟨rfl, hB3⟩
set_option maxRecDepth 100000 in
set_option maxHeartbeats 4000000 in
theorem back_big (w : World) (ad : Addr) (n c N : Nat) (T : List Int) (hm : min (n : Int) 260 = (N : Int)) (hNc : N ≤ c) (hN : N ≤ 260) (hTN : T.length = N) (hR : Reads .i64 w (.slice (some ad) N c) T) (h0 : 256 < N) (hA : areB T = false) (WK : Hid (Calls Try.prog 11 #[] w (Ret w (.bool true)))) : Calls Try.prog 7 #[.slice (some ad) n c] w (Ret w (.bool true)) := by
  obtain ⟨i0, hi, hz0, hz1, hz2⟩ := info_parts infoI64
  have HTN := Lib.hid hTN
  have HR := Lib.hid hR
  have n1 : (N : Int) ≤ (c : Int) := by omega
  have n2 : (0 : Int) ≤ (N : Int) := by omega
  have OF2 : Hid (∀ v W, Reads .i64 W v T → Calls Try.prog 20 #[v] W (ErrR W 2)) := Lib.hid (fun v W hr => (ofA_any T (by omega) v W hr).mono fun e w' hh => by have := res_err hh (by rw [hA]; decide); rwa [hA] at this)
  have n3 : (256 : Int) < (N : Int) := by omega
  have n4 : ¬ (N : Int) = 0 := by omega
  have n5 : ((N : Int) == 0) = false := beq_eq_false_iff_ne.2 n4
  clear hA
  go_enter Try.func7, Try.ntmps7
  go_wp2_with fail
  refine WK.out.mono ?_
  rintro e w1 ⟨rfl, hb1⟩
  go_wp2_with (at_builtin; refine wpList_append_own _ rfl _ _ 26 rfl w1.heap.size 2 i0 (.int .i64 0) 1 8 Try.underlying26 hi hz0 hz1 hz2 rfl (by decide) _ _ _ rfl (World.ownsRow_made w1 #[] 0 (Nat.le_refl _) (Nat.zero_le _) rfl) ad N c (T.map (Value.int .i64)) rfl ?qc1 ?qc2 ?qc3 ?qc4 ?qc5 ?qc6 ?_)
  case qc1 => rw [List.length_map, HTN.out]; simp
  case qc2 => exact reads_addI (HR.out.below (hb1.trans ((below_alloc w1 _).mono hb1.size)))
  case qc3 => exact ints_one T
  case qc4 => unfold maxLen; omega
  case qc5 => omega
  case qc6 => simp
  intro v2 w2 hown hgrow _
  have hb12 : Below w1.heap.size w1 w2 := ((Below.refl _ w1).alloc (Nat.le_refl _) _).grown hgrow (by simp) (by intro k hk; simp [Value.ownBlock] at hk; omega)
  have hO2 : RowI w1.heap.size T v2 w2 := by unfold RowI; rw [HTN.out]; simpa using hown
  have hB2 := under hb1 hb12
  clear hown hgrow hb12
  have hr2 := reads_own (k := .i64) hO2
  obtain ⟨A2, c2, rfl, hc2, hk2⟩ := id hr2
  rw [hTN] at hr2 hc2 ⊢
  have R2 := Lib.hid hr2
  have K2 := Lib.hid hk2
  clear hr2 hk2 hO2 WK HR hR
  go_wp2_with fail
  refine (OF2.out _ _ R2.out).mono ?_
  rintro e w3 ⟨rfl, hb3⟩
  have R23 := Lib.hid (R2.out.below hb3)
  have hB3 := under hB2 hb3
  go_wp2_with fail
  go_ret
  exact ⟨rfl, hB3⟩
set_option maxRecDepth 100000 in
set_option maxHeartbeats 4000000 in
theorem back_rest (w : World) (ad : Addr) (n c N : Nat) (T : List Int) (hm : min (n : Int) 260 = (N : Int)) (hNc : N ≤ c) (hN : N ≤ 260) (hTN : T.length = N) (hR : Reads .i64 w (.slice (some ad) N c) T) (h0 : 1 ≤ N) (h00 : N ≤ 256) (hA : areB T = false) (WK : Hid (Calls Try.prog 11 #[] w (Ret w (.bool true)))) : Calls Try.prog 7 #[.slice (some ad) n c] w (Ret w (.bool true)) := by
  obtain ⟨i0, hi, hz0, hz1, hz2⟩ := info_parts infoI64
  have HTN := Lib.hid hTN
  have HR := Lib.hid hR
  have n1 : (N : Int) ≤ (c : Int) := by omega
  have n2 : (0 : Int) ≤ (N : Int) := by omega
  have OF2 : Hid (∀ v W, Reads .i64 W v T → Calls Try.prog 20 #[v] W (ErrR W 2)) := Lib.hid (fun v W hr => (ofA_any T (by omega) v W hr).mono fun e w' hh => by have := res_err hh (by rw [hA]; decide); rwa [hA] at this)
  have n3 : (N : Int) ≤ 256 := by omega
  have n4 : ¬ (N : Int) = 0 := by omega
  have n5 : ((N : Int) == 0) = false := beq_eq_false_iff_ne.2 n4
  have n6 : (0 : Int) < (N : Int) := by omega
  obtain ⟨j, hj⟩ : ∃ j, N = j + 1 := ⟨N - 1, by omega⟩
  have ej : (N : Int) - 1 = (j : Int) := by omega
  have ew : wrap64 ((N : Int) - 1) = (j : Int) := (i64_keeps (by omega) (by omega)).trans ej
  have ek : IntKind.i64.wrap ((N : Int) - 1) = (j : Int) := by rw [IntKind.wrap_i64]; omega
  have ij : (j : Int) < (N : Int) := by omega
  have j0 : (0 : Int) ≤ (j : Int) := by omega
  obtain ⟨x, hx⟩ : ∃ s, T[0]? = some s := ⟨_, List.getElem?_eq_getElem (by omega)⟩
  obtain ⟨y, hy⟩ : ∃ s, T[j]? = some s := ⟨_, List.getElem?_eq_getElem (by omega)⟩
  have HXY := Lib.hid (And.intro hx hy)
  have HA := Lib.hid hA
  have HJ := Lib.hid hj
  have IS := Lib.hid (fun v W (hr : Reads .i64 W v T) => isSorted_any T (by omega) (by omega) v W hr)
  have hne : T ≠ [] := by intro e; rw [e] at hTN; simp at hTN; omega
  have CL := Lib.hid (fun ad c W (hr : Reads .i64 W (.slice (some ad) T.length c) T) => cloneI T (by omega) hne ad c W hr)
  have HNE := Lib.hid hne
  rw [hTN] at CL
  clear hA hx hy hj ej hne
  go_enter Try.func7, Try.ntmps7
  go_wp2_with fail
  refine WK.out.mono ?_
  rintro e w1 ⟨rfl, hb1⟩
  go_wp2_with (at_builtin; refine wpList_append_own _ rfl _ _ 26 rfl w1.heap.size 2 i0 (.int .i64 0) 1 8 Try.underlying26 hi hz0 hz1 hz2 rfl (by decide) _ _ _ rfl (World.ownsRow_made w1 #[] 0 (Nat.le_refl _) (Nat.zero_le _) rfl) ad N c (T.map (Value.int .i64)) rfl ?qc1 ?qc2 ?qc3 ?qc4 ?qc5 ?qc6 ?_)
  case qc1 => rw [List.length_map, HTN.out]; simp
  case qc2 => exact reads_addI (HR.out.below (hb1.trans ((below_alloc w1 _).mono hb1.size)))
  case qc3 => exact ints_one T
  case qc4 => unfold maxLen; omega
  case qc5 => omega
  case qc6 => simp
  intro v2 w2 hown hgrow _
  have hb12 : Below w1.heap.size w1 w2 := ((Below.refl _ w1).alloc (Nat.le_refl _) _).grown hgrow (by simp) (by intro k hk; simp [Value.ownBlock] at hk; omega)
  have hO2 : RowI w1.heap.size T v2 w2 := by unfold RowI; rw [HTN.out]; simpa using hown
  have hB2 := under hb1 hb12
  clear hown hgrow hb12
  have hr2 := reads_own (k := .i64) hO2
  obtain ⟨A2, c2, rfl, hc2, hk2⟩ := id hr2
  rw [hTN] at hr2 hc2 ⊢
  have R2 := Lib.hid hr2
  have K2 := Lib.hid hk2
  clear hr2 hk2 hO2 WK HR hR
  obtain ⟨bb, off, hbe, hbw, hc1⟩ := K2.out 0 _ HXY.out.1
  subst hbe
  obtain ⟨bb2, off2, hbe, hbw2, hc3⟩ := K2.out j _ HXY.out.2
  cases hbe
  have C1 := Lib.hid hc1
  have C2 := Lib.hid hc3
  clear hc1 hc3
  go_wp2_with fail
  refine (OF2.out _ _ R2.out).mono ?_
  rintro e w3 ⟨rfl, hb3⟩
  have R23 := Lib.hid (R2.out.below hb3)
  have hB3 := under hB2 hb3
  have c1 := (hb3.cell (p := ⟨bb, off + 0, none⟩) hbw).trans C1.out
  have c4 := (hb3.cell (p := ⟨bb, off + j, none⟩) hbw).trans C2.out
  simp only [Nat.add_zero] at c1
  have hb23 := hb3.size
  clear hb3
  by_cases gx : x < 0
  · go_wp2_with fail
    go_ret
    exact ⟨rfl, hB3⟩
  by_cases gy : 281474976710656 < y
  · go_wp2_with fail
    go_ret
    exact ⟨rfl, hB3⟩
  go_wp2_with fail
  refine (IS.out _ _ R23.out).mono ?_
  rintro e w4 ⟨b, rfl, hsort, hb4⟩
  have hB4 := under hB3 hb4
  have R24 := Lib.hid (R23.out.below hb4)
  cases b
  · go_wp2_with fail
    go_ret
    exact ⟨rfl, hB4⟩
  · obtain ⟨d1, d2, hd1, hd2⟩ := not_are HA.out (by omega) (by omega) HXY.out.1 (by rw [hTN, show N - 1 = j by have := HJ.out; omega]; exact HXY.out.2) (by omega) (by omega) (hsort rfl)
    have HD := Lib.hid (show ∃ i x, T[i]? = some x ∧ T[i + 1]? = some x from ⟨d1, d2, hd1, hd2⟩)
    have h2N : 2 ≤ N := by have := (List.getElem?_eq_some_iff.1 hd2).1; omega
    clear hsort hd1 hd2 hb4
    go_wp2_with fail
    refine (CL.out _ _ _ R24.out).mono ?_
    rintro e w5 ⟨g, cap, rfl, hb5, ho5⟩
    have hB5 := under hB4 hb5
    obtain ⟨g', cap', hge, hcap, hgB, hI, hcell⟩ := rowI_some ho5 HNE.out
    cases hge
    have CO := Lib.hid (compact_any T N cap hTN h2N (by omega) (by omega) g w4.heap.size hgB w5 (hTN ▸ hI) hcell HD.out)
    rw [hTN]
    clear ho5 hI hcell
    go_wp2_with fail
    refine CO.out.mono ?_
    rintro e w6 ⟨A6, m6, c6, rfl, hm6, hb6⟩
    have hB6 : Below w.heap.size w w6 := hB5.trans (hb6.mono (Nat.le_trans hB4.size (Nat.le_refl _)))
    have i6 : (m6 : Int) < (N : Int) := by omega
    go_wp2_with fail
    go_ret
    exact ⟨rfl, hB6⟩
set_option maxRecDepth 100000 in
set_option maxHeartbeats 1000000 in
theorem back_any (l : List Int) (hl : l.length ≤ 9223372036854775807) (v : Value) (w : World) (h : Reads .i64 w v l) : Calls Try.prog 7 #[v] w (Ret w (.bool true)) := by
  have WK := Lib.hid (wakes_any w)
  have hh := h
  obtain ⟨A, c, rfl, hc, hk⟩ := h
  cases A with
  | none =>
    have e : l = [] := by
      cases l with
      | nil => rfl
      | cons x l' =>
        obtain ⟨b, off, e1, _⟩ := hk 0 x rfl
        cases e1
    subst e
    have OF2 : Hid (∀ v W, Reads .i64 W v [] → Calls Try.prog 20 #[v] W (ErrR W 2)) := Lib.hid (fun v W hr => (ofA_any [] (by simp) v W hr).mono fun e w' hh => by have := res_err hh (by rw [are_nil]; decide); rwa [are_nil] at this)
    clear hk hh
    go_enter Try.func7, Try.ntmps7
    go_wp2_with fail
    refine WK.out.mono ?_
    rintro e w1 ⟨rfl, hb1⟩
    go_wp2_with fail
    refine (OF2.out _ _ (show Reads .i64 _ _ [] from ⟨_, _, rfl, Nat.zero_le _, fun i z hi => by simp at hi⟩)).mono ?_
    rintro e w3 ⟨rfl, hb3⟩
    go_wp2_with fail
    go_ret
    exact ⟨rfl, under hb1 (past1 hb3)⟩
  | some ad =>
    obtain ⟨N, hN⟩ : ∃ N, N = min l.length 260 := ⟨_, rfl⟩
    have hm : min (l.length : Int) 260 = (N : Int) := by omega
    have hT : (l.take N).length = N := by rw [List.length_take]; omega
    have hR := reads_takeI hh N (by omega)
    cases gk : areB (l.take N)
    · by_cases g1 : 1 ≤ N
      · by_cases g2 : N ≤ 256
        · exact back_rest w ad l.length c N (l.take N) hm (by omega) (by omega) hT hR g1 g2 gk WK
        · exact back_big w ad l.length c N (l.take N) hm (by omega) (by omega) hT hR (by omega) gk WK
      · exact back_zero w ad l.length c N (l.take N) hm (by omega) (by omega) hT hR g1 gk WK
    · exact back_good w ad l.length c N (l.take N) hm (by omega) (by omega) hT hR gk WK
end Go.Proofs.Ytlfjmdfplmdmgaa
