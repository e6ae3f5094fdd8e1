/-
  Layer 7: the law RunsCuts holds of every input: its walks. Conditions: those of the law's row.
-/
import Derived.Test.YtlfjmdfplmdmgaaCuM
namespace Go.Proofs.Ytlfjmdfplmdmgaa
open Go.RowKit Go.Shelf

set_option maxRecDepth 100000 in
set_option maxHeartbeats 16000000 in
theorem cuts_out (l m : List Rn) (T U : List Int) (N M : Nat) (hTN : T.length = N) (hN : 1 ≤ N) (hN2 : N ≤ 256) (hUM : U.length = M) (hM2 : M ≤ 256) (i j : Int) (hpl : i < 0 ∨ (¬ i < 0 ∧ j ≤ i) ∨ (¬ i < 0 ∧ ¬ j ≤ i ∧ (N : Int) < j)) (cj : Int) (bm br : Bool) (vx vy : Value) (w : World)
    (hcj : (cj = 170 ∧ bm = false) ∨ (cj = 2 ∧ bm = true ∧ br = false ∧ 1 ≤ M) ∨ (cj = 0 ∧ bm = true ∧ br = true ∧ 1 ≤ M)) (B : List Rn)
    (WK : Hid (Calls Try.prog 11 #[] w (Ret w (.bool true))))
    (OX : Hid (∀ W, Below w.heap.size w W → Calls Try.prog 12 #[vx] W (LaidR W l)))
    (OY : Hid (∀ W, Below w.heap.size w W → Calls Try.prog 12 #[vy] W (LaidR W m)))
    (CU : Hid (∀ v W, ReadsR W v l → Calls Try.prog 28 #[v, .int .i64 i, .int .i64 j] W (ErrR W 2)))
    (PI : Hid (∀ v W, ReadsR W v l → Calls Try.prog 29 #[v, .int .i64 i, .int .i64 j] W (ErrR W 2)))
    (JO : Hid (∀ v u W, ReadsR W v l → ReadsR W u m → Calls Try.prog 30 #[v, u] W (Res W cj B)))
    (RL : Hid (∀ v W, ReadsR W v l → Calls Try.prog 13 #[v] W (Ret W (.bool true))))
    (RM : Hid (∀ v W, ReadsR W v m → Calls Try.prog 13 #[v] W (Ret W (.bool bm))))
    (TL : Hid (∀ v W, ReadsR W v l → Calls Try.prog 17 #[v] W (LaidI W T)))
    (TM : Hid (∀ v W, ReadsR W v m → Calls Try.prog 17 #[v] W (LaidI W U)))
    (RI : Hid (∀ v W, Reads .i64 W v (T ++ U) → Calls Try.prog 21 #[v] W (Ret W (.bool br))))
    (RB : Hid (br = true → ∀ v W, Reads .i64 W v (T ++ U) → Calls Try.prog 22 #[v] W (LaidR W B)))
    (EQ : Hid (∀ X : List Rn, X.length ≤ 1000000 → ∀ v u W, ReadsR W v X → ReadsR W u X → Calls Try.prog 19 #[v, u] W (Ret W (.bool true)))) (hBl : B.length ≤ 1000000) :
    Calls Try.prog 6 #[vx, vy, .int .i64 i, .int .i64 j] w (Ret w (.bool true)) := by
  obtain ⟨i0, hi, hz0, hz1, hz2⟩ := info_parts infoI64
  have HTN := Lib.hid hTN
  have HUM := Lib.hid hUM
  have hne : T ≠ [] := by rintro rfl; simp at hTN; omega
  have HNE := Lib.hid hne
  have CL := Lib.hid (fun ad c W (hr : Reads .i64 W (.slice (some ad) T.length c) T) => cloneI T (by omega) hne ad c W hr)
  rw [hTN] at CL
  have EQB := Lib.hid (EQ.out B hBl)
  have HCJ := Lib.hid hcj
  clear hne hcj EQ
  rcases hpl with g1 | ⟨g1, g2⟩ | ⟨g1, g2, g3⟩
  all_goals
    go_enter Try.func6, Try.ntmps6
    go_wp2_with fail
    refine WK.out.mono ?_
    rintro e w1 ⟨rfl, hB1⟩
    go_wp2_with fail
    refine (OX.out _ hB1).mono ?_
    rintro e w2 ⟨x2, rfl, hb2, ho2⟩
    have hB2 := under hB1 hb2
    have L_2 := Lib.hid (readsR_own ho2)
    clear ho2 hb2 hB1
    go_wp2_with fail
    refine (OY.out _ hB2).mono ?_
    rintro e w3 ⟨x3, rfl, hb3, ho3⟩
    have hB3 := under hB2 hb3
    have M_3 := Lib.hid (readsR_own ho3)
    have L_3 := Lib.hid (L_2.out.below hb3)
    clear ho3 hb3 hB2 L_2 OX OY WK
    go_wp2_with fail
    refine (CU.out _ _ L_3.out).mono ?_
    rintro e w4 ⟨rfl, hb4⟩
    have hB4 := under hB3 hb4
    have L_4 := Lib.hid (L_3.out.below hb4)
    have M_4 := Lib.hid (M_3.out.below hb4)
    clear L_3 M_3
    clear hb4 hB3
    go_wp2_with fail
    refine (PI.out _ _ L_4.out).mono ?_
    rintro e w5 ⟨rfl, hb5⟩
    have hB5 := under hB4 hb5
    have L_5 := Lib.hid (L_4.out.below hb5)
    have M_5 := Lib.hid (M_4.out.below hb5)
    clear L_4 M_4
    clear hb5 hB4
    go_wp2_with fail
    rcases HCJ.out with ⟨rfl, rfl⟩ | ⟨rfl, rfl, rfl, hM1⟩ | ⟨rfl, rfl, rfl, hM1⟩
    · clear HCJ
      replace JO := Lib.hid (fun v u W h1 h2 => (JO.out v u W h1 h2).mono fun e w' hh => res_err hh (by decide))
      refine (JO.out _ _ _ L_5.out M_5.out).mono ?_
      rintro e w6 ⟨rfl, hb6⟩
      have hB6 := under hB5 hb6
      have L_6 := Lib.hid (L_5.out.below hb6)
      have M_6 := Lib.hid (M_5.out.below hb6)
      clear L_5 M_5
      clear hb6 hB5
      go_wp2_with fail
      refine (RL.out _ _ L_6.out).mono ?_
      rintro e w7 ⟨rfl, hb7⟩
      have hB7 := under hB6 hb7
      have L_7 := Lib.hid (L_6.out.below hb7)
      have M_7 := Lib.hid (M_6.out.below hb7)
      clear L_6 M_6
      clear hb7 hB6
      go_wp2_with fail
      refine (RM.out _ _ M_7.out).mono ?_
      rintro e w8 ⟨rfl, hb8⟩
      have hB8 := under hB7 hb8
      have L_8 := Lib.hid (L_7.out.below hb8)
      have M_8 := Lib.hid (M_7.out.below hb8)
      clear L_7 M_7
      clear hb8 hB7
      go_wp2_with fail
      refine (TL.out _ _ L_8.out).mono ?_
      rintro e w9 ⟨x9, rfl, hb9, ho9⟩
      obtain ⟨g, cap, rfl, hcap, -, -, -⟩ := rowI_some ho9 HNE.out
      have hrT := reads_own (k := .i64) ho9
      rw [hTN] at hrT hcap ⊢
      have TT_9 := Lib.hid hrT
      have hB9 := under hB8 hb9
      have L_9 := Lib.hid (L_8.out.below hb9)
      have M_9 := Lib.hid (M_8.out.below hb9)
      clear L_8 M_8
      clear ho9 hb9 hrT hB8
      go_wp2_with fail
      refine (TM.out _ _ M_9.out).mono ?_
      rintro e w10 ⟨x10, rfl, hb10, ho10⟩
      obtain ⟨AU, cU, rfl⟩ := own_slice ho10
      have hB10 := under hB9 hb10
      have L_10 := Lib.hid (L_9.out.below hb10)
      have M_10 := Lib.hid (M_9.out.below hb10)
      have TT_10 := Lib.hid (TT_9.out.below hb10)
      clear L_9 M_9 TT_9
      clear ho10 hb10 hB9
      go_wp2_with fail
      go_ret
      exact ⟨rfl, hB10⟩
    · clear HCJ
      replace JO := Lib.hid (fun v u W h1 h2 => (JO.out v u W h1 h2).mono fun e w' hh => res_err hh (by decide))
      refine (JO.out _ _ _ L_5.out M_5.out).mono ?_
      rintro e w6 ⟨rfl, hb6⟩
      have hB6 := under hB5 hb6
      have L_6 := Lib.hid (L_5.out.below hb6)
      have M_6 := Lib.hid (M_5.out.below hb6)
      clear L_5 M_5
      clear hb6 hB5
      go_wp2_with fail
      refine (RL.out _ _ L_6.out).mono ?_
      rintro e w7 ⟨rfl, hb7⟩
      have hB7 := under hB6 hb7
      have L_7 := Lib.hid (L_6.out.below hb7)
      have M_7 := Lib.hid (M_6.out.below hb7)
      clear L_6 M_6
      clear hb7 hB6
      go_wp2_with fail
      refine (RM.out _ _ M_7.out).mono ?_
      rintro e w8 ⟨rfl, hb8⟩
      have hB8 := under hB7 hb8
      have L_8 := Lib.hid (L_7.out.below hb8)
      have M_8 := Lib.hid (M_7.out.below hb8)
      clear L_7 M_7
      clear hb8 hB7
      go_wp2_with fail
      refine (TL.out _ _ L_8.out).mono ?_
      rintro e w9 ⟨x9, rfl, hb9, ho9⟩
      obtain ⟨g, cap, rfl, hcap, -, -, -⟩ := rowI_some ho9 HNE.out
      have hrT := reads_own (k := .i64) ho9
      rw [hTN] at hrT hcap ⊢
      have TT_9 := Lib.hid hrT
      have hB9 := under hB8 hb9
      have L_9 := Lib.hid (L_8.out.below hb9)
      have M_9 := Lib.hid (M_8.out.below hb9)
      clear L_8 M_8
      clear ho9 hb9 hrT hB8
      go_wp2_with fail
      refine (TM.out _ _ M_9.out).mono ?_
      rintro e w10 ⟨x10, rfl, hb10, ho10⟩
      obtain ⟨gu, capu, rfl, hcapu, -, -, -⟩ := rowI_some ho10 (by rintro rfl; simp at hUM; omega)
      have hrU := reads_own (k := .i64) ho10
      rw [hUM] at hrU hcapu ⊢
      have UU_10 := Lib.hid hrU
      have hB10 := under hB9 hb10
      have L_10 := Lib.hid (L_9.out.below hb10)
      have M_10 := Lib.hid (M_9.out.below hb10)
      have TT_10 := Lib.hid (TT_9.out.below hb10)
      clear L_9 M_9 TT_9
      clear ho10 hb10 hrU hB9
      go_wp2_with fail
      refine (CL.out _ _ _ TT_10.out).mono ?_
      rintro e w11 ⟨gc, capc, rfl, hb11, ho11⟩
      have HC : Hid (w11.ownsRow w10.heap.size 2 1 (.slice (some ⟨gc, 0, none⟩) N capc) N (T.map (Value.int .i64))) := Lib.hid (by have h := ho11; unfold RowI at h; rwa [hTN] at h)
      have hwc := hb11.size
      have UC := Lib.hid (UU_10.out.below hb11)
      rw [hTN]
      clear ho11
      go_wp2_with (at_builtin; refine wpList_append_own _ rfl _ _ 26 rfl w10.heap.size 2 i0 (.int .i64 0) 1 8 Try.underlying26 hi hz0 hz1 hz2 rfl (by decide) _ _ _ rfl HC.out ⟨gu, 0, none⟩ M capu (U.map (Value.int .i64)) rfl ?qc1 ?qc2 ?qc3 ?qc4 ?qc5 ?qc6 ?_)
      case qc1 => rw [List.length_map, HUM.out]; simp
      case qc2 => exact reads_addI UC.out
      case qc3 => exact ints_one U
      case qc4 => unfold maxLen; omega
      case qc5 => omega
      case qc6 => omega
      intro v12 w12 hown hgrow _
      have hb12 : Below w10.heap.size w10 w12 := hb11.grown hgrow hwc (fun k' hk' => (HC.out.lt k' hk').1)
      have AA_12 : Hid (Reads .i64 w12 v12 (T ++ U)) := Lib.hid (reads_own (k := .i64) (show w12.ownsRow w10.heap.size 2 1 v12 (T ++ U).length ((T ++ U).map (Value.int .i64)) by rw [List.length_append, hTN, hUM, List.map_append]; exact hown))
      have hB12 := under hB10 hb12
      have L_12 := Lib.hid (L_10.out.below hb12)
      have M_12 := Lib.hid (M_10.out.below hb12)
      have TT_12 := Lib.hid (TT_10.out.below hb12)
      have UU_12 := Lib.hid (UU_10.out.below hb12)
      clear L_10 M_10 TT_10 UU_10
      clear hown hgrow HC UC hwc hb11 hb12 hB10
      obtain ⟨AT, nT, cT, rfl⟩ : ∃ A n c, v12 = .slice A n c := by
        obtain ⟨A, c, e, _⟩ := AA_12.out
        exact ⟨A, _, c, e⟩
      go_wp2_with fail
      refine (RI.out _ _ AA_12.out).mono ?_
      rintro e w13 ⟨rfl, hb13⟩
      have hB13 := under hB12 hb13
      have L_13 := Lib.hid (L_12.out.below hb13)
      have M_13 := Lib.hid (M_12.out.below hb13)
      have TT_13 := Lib.hid (TT_12.out.below hb13)
      have UU_13 := Lib.hid (UU_12.out.below hb13)
      have AA_13 := Lib.hid (AA_12.out.below hb13)
      clear L_12 M_12 TT_12 UU_12 AA_12
      clear hb13 hB12
      go_wp2_with fail
      go_ret
      exact ⟨rfl, hB13⟩
    · clear HCJ
      replace RB := Lib.hid (RB.out rfl)
      replace JO := Lib.hid (fun v u W h1 h2 => (JO.out v u W h1 h2).mono fun e w' hh => res_ok hh rfl)
      refine (JO.out _ _ _ L_5.out M_5.out).mono ?_
      rintro e w6 ⟨x6, rfl, hb6, ho6⟩
      have BT_6 := Lib.hid (readsR_own ho6)
      have hB6 := under hB5 hb6
      have L_6 := Lib.hid (L_5.out.below hb6)
      have M_6 := Lib.hid (M_5.out.below hb6)
      clear L_5 M_5
      clear ho6 hb6 hB5
      go_wp2_with fail
      refine (RL.out _ _ L_6.out).mono ?_
      rintro e w7 ⟨rfl, hb7⟩
      have hB7 := under hB6 hb7
      have L_7 := Lib.hid (L_6.out.below hb7)
      have M_7 := Lib.hid (M_6.out.below hb7)
      have BT_7 := Lib.hid (BT_6.out.below hb7)
      clear L_6 M_6 BT_6
      clear hb7 hB6
      go_wp2_with fail
      refine (RM.out _ _ M_7.out).mono ?_
      rintro e w8 ⟨rfl, hb8⟩
      have hB8 := under hB7 hb8
      have L_8 := Lib.hid (L_7.out.below hb8)
      have M_8 := Lib.hid (M_7.out.below hb8)
      have BT_8 := Lib.hid (BT_7.out.below hb8)
      clear L_7 M_7 BT_7
      clear hb8 hB7
      go_wp2_with fail
      refine (TL.out _ _ L_8.out).mono ?_
      rintro e w9 ⟨x9, rfl, hb9, ho9⟩
      obtain ⟨g, cap, rfl, hcap, -, -, -⟩ := rowI_some ho9 HNE.out
      have hrT := reads_own (k := .i64) ho9
      rw [hTN] at hrT hcap ⊢
      have TT_9 := Lib.hid hrT
      have hB9 := under hB8 hb9
      have L_9 := Lib.hid (L_8.out.below hb9)
      have M_9 := Lib.hid (M_8.out.below hb9)
      have BT_9 := Lib.hid (BT_8.out.below hb9)
      clear L_8 M_8 BT_8
      clear ho9 hb9 hrT hB8
      go_wp2_with fail
      refine (TM.out _ _ M_9.out).mono ?_
      rintro e w10 ⟨x10, rfl, hb10, ho10⟩
      obtain ⟨gu, capu, rfl, hcapu, -, -, -⟩ := rowI_some ho10 (by rintro rfl; simp at hUM; omega)
      have hrU := reads_own (k := .i64) ho10
      rw [hUM] at hrU hcapu ⊢
      have UU_10 := Lib.hid hrU
      have hB10 := under hB9 hb10
      have L_10 := Lib.hid (L_9.out.below hb10)
      have M_10 := Lib.hid (M_9.out.below hb10)
      have BT_10 := Lib.hid (BT_9.out.below hb10)
      have TT_10 := Lib.hid (TT_9.out.below hb10)
      clear L_9 M_9 BT_9 TT_9
      clear ho10 hb10 hrU hB9
      go_wp2_with fail
      refine (CL.out _ _ _ TT_10.out).mono ?_
      rintro e w11 ⟨gc, capc, rfl, hb11, ho11⟩
      have HC : Hid (w11.ownsRow w10.heap.size 2 1 (.slice (some ⟨gc, 0, none⟩) N capc) N (T.map (Value.int .i64))) := Lib.hid (by have h := ho11; unfold RowI at h; rwa [hTN] at h)
      have hwc := hb11.size
      have UC := Lib.hid (UU_10.out.below hb11)
      rw [hTN]
      clear ho11
      go_wp2_with (at_builtin; refine wpList_append_own _ rfl _ _ 26 rfl w10.heap.size 2 i0 (.int .i64 0) 1 8 Try.underlying26 hi hz0 hz1 hz2 rfl (by decide) _ _ _ rfl HC.out ⟨gu, 0, none⟩ M capu (U.map (Value.int .i64)) rfl ?qc1 ?qc2 ?qc3 ?qc4 ?qc5 ?qc6 ?_)
      case qc1 => rw [List.length_map, HUM.out]; simp
      case qc2 => exact reads_addI UC.out
      case qc3 => exact ints_one U
      case qc4 => unfold maxLen; omega
      case qc5 => omega
      case qc6 => omega
      intro v12 w12 hown hgrow _
      have hb12 : Below w10.heap.size w10 w12 := hb11.grown hgrow hwc (fun k' hk' => (HC.out.lt k' hk').1)
      have AA_12 : Hid (Reads .i64 w12 v12 (T ++ U)) := Lib.hid (reads_own (k := .i64) (show w12.ownsRow w10.heap.size 2 1 v12 (T ++ U).length ((T ++ U).map (Value.int .i64)) by rw [List.length_append, hTN, hUM, List.map_append]; exact hown))
      have hB12 := under hB10 hb12
      have L_12 := Lib.hid (L_10.out.below hb12)
      have M_12 := Lib.hid (M_10.out.below hb12)
      have BT_12 := Lib.hid (BT_10.out.below hb12)
      have TT_12 := Lib.hid (TT_10.out.below hb12)
      have UU_12 := Lib.hid (UU_10.out.below hb12)
      clear L_10 M_10 BT_10 TT_10 UU_10
      clear hown hgrow HC UC hwc hb11 hb12 hB10
      obtain ⟨AT, nT, cT, rfl⟩ : ∃ A n c, v12 = .slice A n c := by
        obtain ⟨A, c, e, _⟩ := AA_12.out
        exact ⟨A, _, c, e⟩
      go_wp2_with fail
      refine (RI.out _ _ AA_12.out).mono ?_
      rintro e w13 ⟨rfl, hb13⟩
      have hB13 := under hB12 hb13
      have L_13 := Lib.hid (L_12.out.below hb13)
      have M_13 := Lib.hid (M_12.out.below hb13)
      have BT_13 := Lib.hid (BT_12.out.below hb13)
      have TT_13 := Lib.hid (TT_12.out.below hb13)
      have UU_13 := Lib.hid (UU_12.out.below hb13)
      have AA_13 := Lib.hid (AA_12.out.below hb13)
      clear L_12 M_12 BT_12 TT_12 UU_12 AA_12
      clear hb13 hB12
      go_wp2_with fail
      refine (RB.out _ _ AA_13.out).mono ?_
      rintro e w14 ⟨x14, rfl, hb14, ho14⟩
      have BB_14 := Lib.hid (readsR_own ho14)
      have hB14 := under hB13 hb14
      have L_14 := Lib.hid (L_13.out.below hb14)
      have M_14 := Lib.hid (M_13.out.below hb14)
      have BT_14 := Lib.hid (BT_13.out.below hb14)
      have TT_14 := Lib.hid (TT_13.out.below hb14)
      have UU_14 := Lib.hid (UU_13.out.below hb14)
      have AA_14 := Lib.hid (AA_13.out.below hb14)
      clear L_13 M_13 BT_13 TT_13 UU_13 AA_13
      clear ho14 hb14 hB13
      go_wp2_with fail
      refine (EQB.out _ _ _ BT_14.out BB_14.out).mono ?_
      rintro e w15 ⟨rfl, hb15⟩
      have hB15 := under hB14 hb15
      have L_15 := Lib.hid (L_14.out.below hb15)
      have M_15 := Lib.hid (M_14.out.below hb15)
      have BT_15 := Lib.hid (BT_14.out.below hb15)
      have TT_15 := Lib.hid (TT_14.out.below hb15)
      have UU_15 := Lib.hid (UU_14.out.below hb15)
      have AA_15 := Lib.hid (AA_14.out.below hb15)
      have BB_15 := Lib.hid (BB_14.out.below hb15)
      clear L_14 M_14 BT_14 TT_14 UU_14 AA_14 BB_14
      clear hb15 hB14
      go_wp2_with fail
      go_ret
      exact ⟨rfl, hB15⟩
end Go.Proofs.Ytlfjmdfplmdmgaa
