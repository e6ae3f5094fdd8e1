/-
  Layer 7: the law RunsCuts holds of every input: its walks. Conditions: those of the law's row.
-/
import Derived.Test.YtlfjmdfplmdmgaaCuM
namespace Go.Proofs.Ytlfjmdfplmdmgaa
open Go.RowKit Go.Shelf

set_option maxRecDepth 100000 in
set_option maxHeartbeats 16000000 in
theorem cuts_in (l m : List Rn) (T U : List Int) (N M : Nat) (hTN : T.length = N) (hN : 1 ≤ N) (hN2 : N ≤ 256) (hUM : U.length = M) (hM2 : M ≤ 256) (i j : Int) (I J : Nat) (ei : i = (I : Int)) (ej : j = (J : Int)) (hIJ : I < J) (hJN : J ≤ N) (C Q : List Rn) (cj : Int) (bm br : Bool) (vx vy : Value) (w : World)
    (hcj : (cj = 170 ∧ bm = false) ∨ (cj = 2 ∧ bm = true ∧ br = false ∧ 1 ≤ M) ∨ (cj = 0 ∧ bm = true ∧ br = true ∧ 1 ≤ M)) (B : List Rn)
    (WK : Hid (Calls Try.prog 11 #[] w (Ret w (.bool true))))
    (OX : Hid (∀ W, Below w.heap.size w W → Calls Try.prog 12 #[vx] W (LaidR W l)))
    (OY : Hid (∀ W, Below w.heap.size w W → Calls Try.prog 12 #[vy] W (LaidR W m)))
    (CU : Hid (∀ v W, ReadsR W v l → Calls Try.prog 28 #[v, .int .i64 i, .int .i64 j] W (GotR W C)))
    (PI : Hid (∀ v W, ReadsR W v l → Calls Try.prog 29 #[v, .int .i64 i, .int .i64 j] W (GotR W Q)))
    (JO : Hid (∀ v u W, ReadsR W v l → ReadsR W u m → Calls Try.prog 30 #[v, u] W (Res W cj B)))
    (RL : Hid (∀ v W, ReadsR W v l → Calls Try.prog 13 #[v] W (Ret W (.bool true))))
    (RM : Hid (∀ v W, ReadsR W v m → Calls Try.prog 13 #[v] W (Ret W (.bool bm))))
    (TL : Hid (∀ v W, ReadsR W v l → Calls Try.prog 17 #[v] W (LaidI W T)))
    (TM : Hid (∀ v W, ReadsR W v m → Calls Try.prog 17 #[v] W (LaidI W U)))
    (RI : Hid (∀ v W, Reads .i64 W v (T ++ U) → Calls Try.prog 21 #[v] W (Ret W (.bool br))))
    (RB : Hid (br = true → ∀ v W, Reads .i64 W v (T ++ U) → Calls Try.prog 22 #[v] W (LaidR W B)))
    (EQ : Hid (∀ X : List Rn, X.length ≤ 1000000 → ∀ v u W, ReadsR W v X → ReadsR W u X → Calls Try.prog 19 #[v, u] W (Ret W (.bool true)))) (hBl : B.length ≤ 1000000)
    (hCl : C.length ≤ 1000000) (hQl : Q.length ≤ 1000000)
    (RC : Hid (∀ v W, Reads .i64 W v ((T.drop I).take (J - I)) → Calls Try.prog 22 #[v] W (LaidR W C)))
    (RP : Hid (∀ v W, ReadsR W v l → Calls Try.prog 31 #[v, .int .i64 i, .int .i64 j] W (LaidR W Q))) :
    Calls Try.prog 6 #[vx, vy, .int .i64 i, .int .i64 j] w (Ret w (.bool true)) := by
  obtain ⟨i0, hi, hz0, hz1, hz2⟩ := info_parts infoI64
  have HTN := Lib.hid hTN
  have HUM := Lib.hid hUM
  have hne : T ≠ [] := by rintro rfl; simp at hTN; omega
  have HNE := Lib.hid hne
  have CL := Lib.hid (fun ad c W (hr : Reads .i64 W (.slice (some ad) T.length c) T) => cloneI T (by omega) hne ad c W hr)
  rw [hTN] at CL
  have EQB := Lib.hid (EQ.out B hBl)
  have EQC := Lib.hid (EQ.out C hCl)
  have EQQ := Lib.hid (EQ.out Q hQl)
  subst ei ej
  have i1 : ¬ (I : Int) < 0 := by omega
  have i2 : ¬ (J : Int) ≤ (I : Int) := by omega
  have i3 : ¬ (N : Int) < (J : Int) := by omega
  have i4 : (I : Int) ≤ (J : Int) := by omega
  have i5 : (0 : Int) ≤ (I : Int) := by omega
  have HCJ := Lib.hid hcj
  clear hne hcj EQ
  go_enter Try.func6, Try.ntmps6
  go_wp2_with fail
  refine WK.out.mono ?_
  rintro e w1 ⟨rfl, hB1⟩
  go_wp2_with fail
  refine (OX.out _ hB1).mono ?_
  rintro e w2 ⟨x2, rfl, hb2, ho2⟩
  have hB2 := under hB1 hb2
  have L_2 := Lib.hid (readsR_own ho2)
  clear ho2 hb2 hB1
  go_wp2_with fail
  refine (OY.out _ hB2).mono ?_
  rintro e w3 ⟨x3, rfl, hb3, ho3⟩
  have hB3 := under hB2 hb3
  have M_3 := Lib.hid (readsR_own ho3)
  have L_3 := Lib.hid (L_2.out.below hb3)
  clear ho3 hb3 hB2 L_2 OX OY WK
  go_wp2_with fail
  refine (CU.out _ _ L_3.out).mono ?_
  rintro e w4 ⟨x4, rfl, hb4, ho4⟩
  have CT_4 := Lib.hid (readsR_own ho4)
  have hB4 := under hB3 hb4
  have L_4 := Lib.hid (L_3.out.below hb4)
  have M_4 := Lib.hid (M_3.out.below hb4)
  clear L_3 M_3
  clear ho4 hb4 hB3
  go_wp2_with fail
  refine (PI.out _ _ L_4.out).mono ?_
  rintro e w5 ⟨x5, rfl, hb5, ho5⟩
  have PT_5 := Lib.hid (readsR_own ho5)
  have hB5 := under hB4 hb5
  have L_5 := Lib.hid (L_4.out.below hb5)
  have M_5 := Lib.hid (M_4.out.below hb5)
  have CT_5 := Lib.hid (CT_4.out.below hb5)
  clear L_4 M_4 CT_4
  clear ho5 hb5 hB4
  go_wp2_with fail
  rcases HCJ.out with ⟨rfl, rfl⟩ | ⟨rfl, rfl, rfl, hM1⟩ | ⟨rfl, rfl, rfl, hM1⟩
  · clear HCJ
    replace JO := Lib.hid (fun v u W h1 h2 => (JO.out v u W h1 h2).mono fun e w' hh => res_err hh (by decide))
    refine (JO.out _ _ _ L_5.out M_5.out).mono ?_
    rintro e w6 ⟨rfl, hb6⟩
    have hB6 := under hB5 hb6
    have L_6 := Lib.hid (L_5.out.below hb6)
    have M_6 := Lib.hid (M_5.out.below hb6)
    have CT_6 := Lib.hid (CT_5.out.below hb6)
    have PT_6 := Lib.hid (PT_5.out.below hb6)
    clear L_5 M_5 CT_5 PT_5
    clear hb6 hB5
    go_wp2_with fail
    refine (RL.out _ _ L_6.out).mono ?_
    rintro e w7 ⟨rfl, hb7⟩
    have hB7 := under hB6 hb7
    have L_7 := Lib.hid (L_6.out.below hb7)
    have M_7 := Lib.hid (M_6.out.below hb7)
    have CT_7 := Lib.hid (CT_6.out.below hb7)
    have PT_7 := Lib.hid (PT_6.out.below hb7)
    clear L_6 M_6 CT_6 PT_6
    clear hb7 hB6
    go_wp2_with fail
    refine (RM.out _ _ M_7.out).mono ?_
    rintro e w8 ⟨rfl, hb8⟩
    have hB8 := under hB7 hb8
    have L_8 := Lib.hid (L_7.out.below hb8)
    have M_8 := Lib.hid (M_7.out.below hb8)
    have CT_8 := Lib.hid (CT_7.out.below hb8)
    have PT_8 := Lib.hid (PT_7.out.below hb8)
    clear L_7 M_7 CT_7 PT_7
    clear hb8 hB7
    go_wp2_with fail
    refine (TL.out _ _ L_8.out).mono ?_
    rintro e w9 ⟨x9, rfl, hb9, ho9⟩
    obtain ⟨g, cap, rfl, hcap, -, -, -⟩ := rowI_some ho9 HNE.out
    have hrT := reads_own (k := .i64) ho9
    rw [hTN] at hrT hcap ⊢
    have TT_9 := Lib.hid hrT
    have hB9 := under hB8 hb9
    have L_9 := Lib.hid (L_8.out.below hb9)
    have M_9 := Lib.hid (M_8.out.below hb9)
    have CT_9 := Lib.hid (CT_8.out.below hb9)
    have PT_9 := Lib.hid (PT_8.out.below hb9)
    clear L_8 M_8 CT_8 PT_8
    clear ho9 hb9 hrT hB8
    go_wp2_with fail
    refine (TM.out _ _ M_9.out).mono ?_
    rintro e w10 ⟨x10, rfl, hb10, ho10⟩
    obtain ⟨AU, cU, rfl⟩ := own_slice ho10
    have hB10 := under hB9 hb10
    have L_10 := Lib.hid (L_9.out.below hb10)
    have M_10 := Lib.hid (M_9.out.below hb10)
    have CT_10 := Lib.hid (CT_9.out.below hb10)
    have PT_10 := Lib.hid (PT_9.out.below hb10)
    have TT_10 := Lib.hid (TT_9.out.below hb10)
    clear L_9 M_9 CT_9 PT_9 TT_9
    clear ho10 hb10 hB9
    have i6 : (J : Int) ≤ (cap : Int) := by omega
    go_wp2_with fail
    refine (RC.out _ _ (reads_mid hTN TT_10.out (Nat.le_of_lt hIJ) hJN)).mono ?_
    rintro e w11 ⟨x11, rfl, hb11, ho11⟩
    have CC_11 := Lib.hid (readsR_own ho11)
    have hB11 := under hB10 hb11
    have L_11 := Lib.hid (L_10.out.below hb11)
    have M_11 := Lib.hid (M_10.out.below hb11)
    have CT_11 := Lib.hid (CT_10.out.below hb11)
    have PT_11 := Lib.hid (PT_10.out.below hb11)
    have TT_11 := Lib.hid (TT_10.out.below hb11)
    clear L_10 M_10 CT_10 PT_10 TT_10
    clear ho11 hb11 hB10
    go_wp2_with fail
    refine (EQC.out _ _ _ CT_11.out CC_11.out).mono ?_
    rintro e w12 ⟨rfl, hb12⟩
    have hB12 := under hB11 hb12
    have L_12 := Lib.hid (L_11.out.below hb12)
    have M_12 := Lib.hid (M_11.out.below hb12)
    have CT_12 := Lib.hid (CT_11.out.below hb12)
    have PT_12 := Lib.hid (PT_11.out.below hb12)
    have TT_12 := Lib.hid (TT_11.out.below hb12)
    have CC_12 := Lib.hid (CC_11.out.below hb12)
    clear L_11 M_11 CT_11 PT_11 TT_11 CC_11
    clear hb12 hB11
    go_wp2_with fail
    refine (RP.out _ _ L_12.out).mono ?_
    rintro e w13 ⟨x13, rfl, hb13, ho13⟩
    have QQ_13 := Lib.hid (readsR_own ho13)
    have hB13 := under hB12 hb13
    have L_13 := Lib.hid (L_12.out.below hb13)
    have M_13 := Lib.hid (M_12.out.below hb13)
    have CT_13 := Lib.hid (CT_12.out.below hb13)
    have PT_13 := Lib.hid (PT_12.out.below hb13)
    have TT_13 := Lib.hid (TT_12.out.below hb13)
    have CC_13 := Lib.hid (CC_12.out.below hb13)
    clear L_12 M_12 CT_12 PT_12 TT_12 CC_12
    clear ho13 hb13 hB12
    go_wp2_with fail
    refine (EQQ.out _ _ _ PT_13.out QQ_13.out).mono ?_
    rintro e w14 ⟨rfl, hb14⟩
    have hB14 := under hB13 hb14
    have L_14 := Lib.hid (L_13.out.below hb14)
    have M_14 := Lib.hid (M_13.out.below hb14)
    have CT_14 := Lib.hid (CT_13.out.below hb14)
    have PT_14 := Lib.hid (PT_13.out.below hb14)
    have TT_14 := Lib.hid (TT_13.out.below hb14)
    have CC_14 := Lib.hid (CC_13.out.below hb14)
    have QQ_14 := Lib.hid (QQ_13.out.below hb14)
    clear L_13 M_13 CT_13 PT_13 TT_13 CC_13 QQ_13
    clear hb14 hB13
    go_wp2_with fail
    go_ret
    exact ⟨rfl, hB14⟩
  · clear HCJ
    replace JO := Lib.hid (fun v u W h1 h2 => (JO.out v u W h1 h2).mono fun e w' hh => res_err hh (by decide))
    refine (JO.out _ _ _ L_5.out M_5.out).mono ?_
    rintro e w6 ⟨rfl, hb6⟩
    have hB6 := under hB5 hb6
    have L_6 := Lib.hid (L_5.out.below hb6)
    have M_6 := Lib.hid (M_5.out.below hb6)
    have CT_6 := Lib.hid (CT_5.out.below hb6)
    have PT_6 := Lib.hid (PT_5.out.below hb6)
    clear L_5 M_5 CT_5 PT_5
    clear hb6 hB5
    go_wp2_with fail
    refine (RL.out _ _ L_6.out).mono ?_
    rintro e w7 ⟨rfl, hb7⟩
    have hB7 := under hB6 hb7
    have L_7 := Lib.hid (L_6.out.below hb7)
    have M_7 := Lib.hid (M_6.out.below hb7)
    have CT_7 := Lib.hid (CT_6.out.below hb7)
    have PT_7 := Lib.hid (PT_6.out.below hb7)
    clear L_6 M_6 CT_6 PT_6
    clear hb7 hB6
    go_wp2_with fail
    refine (RM.out _ _ M_7.out).mono ?_
    rintro e w8 ⟨rfl, hb8⟩
    have hB8 := under hB7 hb8
    have L_8 := Lib.hid (L_7.out.below hb8)
    have M_8 := Lib.hid (M_7.out.below hb8)
    have CT_8 := Lib.hid (CT_7.out.below hb8)
    have PT_8 := Lib.hid (PT_7.out.below hb8)
    clear L_7 M_7 CT_7 PT_7
    clear hb8 hB7
    go_wp2_with fail
    refine (TL.out _ _ L_8.out).mono ?_
    rintro e w9 ⟨x9, rfl, hb9, ho9⟩
    obtain ⟨g, cap, rfl, hcap, -, -, -⟩ := rowI_some ho9 HNE.out
    have hrT := reads_own (k := .i64) ho9
    rw [hTN] at hrT hcap ⊢
    have TT_9 := Lib.hid hrT
    have hB9 := under hB8 hb9
    have L_9 := Lib.hid (L_8.out.below hb9)
    have M_9 := Lib.hid (M_8.out.below hb9)
    have CT_9 := Lib.hid (CT_8.out.below hb9)
    have PT_9 := Lib.hid (PT_8.out.below hb9)
    clear L_8 M_8 CT_8 PT_8
    clear ho9 hb9 hrT hB8
    go_wp2_with fail
    refine (TM.out _ _ M_9.out).mono ?_
    rintro e w10 ⟨x10, rfl, hb10, ho10⟩
    obtain ⟨gu, capu, rfl, hcapu, -, -, -⟩ := rowI_some ho10 (by rintro rfl; simp at hUM; omega)
    have hrU := reads_own (k := .i64) ho10
    rw [hUM] at hrU hcapu ⊢
    have UU_10 := Lib.hid hrU
    have hB10 := under hB9 hb10
    have L_10 := Lib.hid (L_9.out.below hb10)
    have M_10 := Lib.hid (M_9.out.below hb10)
    have CT_10 := Lib.hid (CT_9.out.below hb10)
    have PT_10 := Lib.hid (PT_9.out.below hb10)
    have TT_10 := Lib.hid (TT_9.out.below hb10)
    clear L_9 M_9 CT_9 PT_9 TT_9
    clear ho10 hb10 hrU hB9
    have i6 : (J : Int) ≤ (cap : Int) := by omega
    go_wp2_with fail
    refine (RC.out _ _ (reads_mid hTN TT_10.out (Nat.le_of_lt hIJ) hJN)).mono ?_
    rintro e w11 ⟨x11, rfl, hb11, ho11⟩
    have CC_11 := Lib.hid (readsR_own ho11)
    have hB11 := under hB10 hb11
    have L_11 := Lib.hid (L_10.out.below hb11)
    have M_11 := Lib.hid (M_10.out.below hb11)
    have CT_11 := Lib.hid (CT_10.out.below hb11)
    have PT_11 := Lib.hid (PT_10.out.below hb11)
    have TT_11 := Lib.hid (TT_10.out.below hb11)
    have UU_11 := Lib.hid (UU_10.out.below hb11)
    clear L_10 M_10 CT_10 PT_10 TT_10 UU_10
    clear ho11 hb11 hB10
    go_wp2_with fail
    refine (EQC.out _ _ _ CT_11.out CC_11.out).mono ?_
    rintro e w12 ⟨rfl, hb12⟩
    have hB12 := under hB11 hb12
    have L_12 := Lib.hid (L_11.out.below hb12)
    have M_12 := Lib.hid (M_11.out.below hb12)
    have CT_12 := Lib.hid (CT_11.out.below hb12)
    have PT_12 := Lib.hid (PT_11.out.below hb12)
    have TT_12 := Lib.hid (TT_11.out.below hb12)
    have UU_12 := Lib.hid (UU_11.out.below hb12)
    have CC_12 := Lib.hid (CC_11.out.below hb12)
    clear L_11 M_11 CT_11 PT_11 TT_11 UU_11 CC_11
    clear hb12 hB11
    go_wp2_with fail
    refine (RP.out _ _ L_12.out).mono ?_
    rintro e w13 ⟨x13, rfl, hb13, ho13⟩
    have QQ_13 := Lib.hid (readsR_own ho13)
    have hB13 := under hB12 hb13
    have L_13 := Lib.hid (L_12.out.below hb13)
    have M_13 := Lib.hid (M_12.out.below hb13)
    have CT_13 := Lib.hid (CT_12.out.below hb13)
    have PT_13 := Lib.hid (PT_12.out.below hb13)
    have TT_13 := Lib.hid (TT_12.out.below hb13)
    have UU_13 := Lib.hid (UU_12.out.below hb13)
    have CC_13 := Lib.hid (CC_12.out.below hb13)
    clear L_12 M_12 CT_12 PT_12 TT_12 UU_12 CC_12
    clear ho13 hb13 hB12
    go_wp2_with fail
    refine (EQQ.out _ _ _ PT_13.out QQ_13.out).mono ?_
    rintro e w14 ⟨rfl, hb14⟩
    have hB14 := under hB13 hb14
    have L_14 := Lib.hid (L_13.out.below hb14)
    have M_14 := Lib.hid (M_13.out.below hb14)
    have CT_14 := Lib.hid (CT_13.out.below hb14)
    have PT_14 := Lib.hid (PT_13.out.below hb14)
    have TT_14 := Lib.hid (TT_13.out.below hb14)
    have UU_14 := Lib.hid (UU_13.out.below hb14)
    have CC_14 := Lib.hid (CC_13.out.below hb14)
    have QQ_14 := Lib.hid (QQ_13.out.below hb14)
    clear L_13 M_13 CT_13 PT_13 TT_13 UU_13 CC_13 QQ_13
    clear hb14 hB13
    go_wp2_with fail
    refine (CL.out _ _ _ TT_14.out).mono ?_
    rintro e w15 ⟨gc, capc, rfl, hb15, ho15⟩
    have HC : Hid (w15.ownsRow w14.heap.size 2 1 (.slice (some ⟨gc, 0, none⟩) N capc) N (T.map (Value.int .i64))) := Lib.hid (by have h := ho15; unfold RowI at h; rwa [hTN] at h)
    have hwc := hb15.size
    have UC := Lib.hid (UU_14.out.below hb15)
    rw [hTN]
    clear ho15
    go_wp2_with (at_builtin; refine wpList_append_own _ rfl _ _ 26 rfl w14.heap.size 2 i0 (.int .i64 0) 1 8 Try.underlying26 hi hz0 hz1 hz2 rfl (by decide) _ _ _ rfl HC.out ⟨gu, 0, none⟩ M capu (U.map (Value.int .i64)) rfl ?qc1 ?qc2 ?qc3 ?qc4 ?qc5 ?qc6 ?_)
    case qc1 => rw [List.length_map, HUM.out]; simp
    case qc2 => exact reads_addI UC.out
    case qc3 => exact ints_one U
    case qc4 => unfold maxLen; omega
    case qc5 => omega
    case qc6 => omega
    intro v16 w16 hown hgrow _
    have hb16 : Below w14.heap.size w14 w16 := hb15.grown hgrow hwc (fun k' hk' => (HC.out.lt k' hk').1)
    have AA_16 : Hid (Reads .i64 w16 v16 (T ++ U)) := Lib.hid (reads_own (k := .i64) (show w16.ownsRow w14.heap.size 2 1 v16 (T ++ U).length ((T ++ U).map (Value.int .i64)) by rw [List.length_append, hTN, hUM, List.map_append]; exact hown))
    have hB16 := under hB14 hb16
    have L_16 := Lib.hid (L_14.out.below hb16)
    have M_16 := Lib.hid (M_14.out.below hb16)
    have CT_16 := Lib.hid (CT_14.out.below hb16)
    have PT_16 := Lib.hid (PT_14.out.below hb16)
    have TT_16 := Lib.hid (TT_14.out.below hb16)
    have UU_16 := Lib.hid (UU_14.out.below hb16)
    have CC_16 := Lib.hid (CC_14.out.below hb16)
    have QQ_16 := Lib.hid (QQ_14.out.below hb16)
    clear L_14 M_14 CT_14 PT_14 TT_14 UU_14 CC_14 QQ_14
    clear hown hgrow HC UC hwc hb15 hb16 hB14
    obtain ⟨AT, nT, cT, rfl⟩ : ∃ A n c, v16 = .slice A n c := by
      obtain ⟨A, c, e, _⟩ := AA_16.out
      exact ⟨A, _, c, e⟩
    go_wp2_with fail
    refine (RI.out _ _ AA_16.out).mono ?_
    rintro e w17 ⟨rfl, hb17⟩
    have hB17 := under hB16 hb17
    have L_17 := Lib.hid (L_16.out.below hb17)
    have M_17 := Lib.hid (M_16.out.below hb17)
    have CT_17 := Lib.hid (CT_16.out.below hb17)
    have PT_17 := Lib.hid (PT_16.out.below hb17)
    have TT_17 := Lib.hid (TT_16.out.below hb17)
    have UU_17 := Lib.hid (UU_16.out.below hb17)
    have CC_17 := Lib.hid (CC_16.out.below hb17)
    have QQ_17 := Lib.hid (QQ_16.out.below hb17)
    have AA_17 := Lib.hid (AA_16.out.below hb17)
    clear L_16 M_16 CT_16 PT_16 TT_16 UU_16 CC_16 QQ_16 AA_16
    clear hb17 hB16
    go_wp2_with fail
    go_ret
    exact ⟨rfl, hB17⟩
  · clear HCJ
    replace RB := Lib.hid (RB.out rfl)
    replace JO := Lib.hid (fun v u W h1 h2 => (JO.out v u W h1 h2).mono fun e w' hh => res_ok hh rfl)
    refine (JO.out _ _ _ L_5.out M_5.out).mono ?_
    rintro e w6 ⟨x6, rfl, hb6, ho6⟩
    have BT_6 := Lib.hid (readsR_own ho6)
    have hB6 := under hB5 hb6
    have L_6 := Lib.hid (L_5.out.below hb6)
    have M_6 := Lib.hid (M_5.out.below hb6)
    have CT_6 := Lib.hid (CT_5.out.below hb6)
    have PT_6 := Lib.hid (PT_5.out.below hb6)
    clear L_5 M_5 CT_5 PT_5
    clear ho6 hb6 hB5
    go_wp2_with fail
    refine (RL.out _ _ L_6.out).mono ?_
    rintro e w7 ⟨rfl, hb7⟩
    have hB7 := under hB6 hb7
    have L_7 := Lib.hid (L_6.out.below hb7)
    have M_7 := Lib.hid (M_6.out.below hb7)
    have CT_7 := Lib.hid (CT_6.out.below hb7)
    have PT_7 := Lib.hid (PT_6.out.below hb7)
    have BT_7 := Lib.hid (BT_6.out.below hb7)
    clear L_6 M_6 CT_6 PT_6 BT_6
    clear hb7 hB6
    go_wp2_with fail
    refine (RM.out _ _ M_7.out).mono ?_
    rintro e w8 ⟨rfl, hb8⟩
    have hB8 := under hB7 hb8
    have L_8 := Lib.hid (L_7.out.below hb8)
    have M_8 := Lib.hid (M_7.out.below hb8)
    have CT_8 := Lib.hid (CT_7.out.below hb8)
    have PT_8 := Lib.hid (PT_7.out.below hb8)
    have BT_8 := Lib.hid (BT_7.out.below hb8)
    clear L_7 M_7 CT_7 PT_7 BT_7
    clear hb8 hB7
    go_wp2_with fail
    refine (TL.out _ _ L_8.out).mono ?_
    rintro e w9 ⟨x9, rfl, hb9, ho9⟩
    obtain ⟨g, cap, rfl, hcap, -, -, -⟩ := rowI_some ho9 HNE.out
    have hrT := reads_own (k := .i64) ho9
    rw [hTN] at hrT hcap ⊢
    have TT_9 := Lib.hid hrT
    have hB9 := under hB8 hb9
    have L_9 := Lib.hid (L_8.out.below hb9)
    have M_9 := Lib.hid (M_8.out.below hb9)
    have CT_9 := Lib.hid (CT_8.out.below hb9)
    have PT_9 := Lib.hid (PT_8.out.below hb9)
    have BT_9 := Lib.hid (BT_8.out.below hb9)
    clear L_8 M_8 CT_8 PT_8 BT_8
    clear ho9 hb9 hrT hB8
    go_wp2_with fail
    refine (TM.out _ _ M_9.out).mono ?_
    rintro e w10 ⟨x10, rfl, hb10, ho10⟩
    obtain ⟨gu, capu, rfl, hcapu, -, -, -⟩ := rowI_some ho10 (by rintro rfl; simp at hUM; omega)
    have hrU := reads_own (k := .i64) ho10
    rw [hUM] at hrU hcapu ⊢
    have UU_10 := Lib.hid hrU
    have hB10 := under hB9 hb10
    have L_10 := Lib.hid (L_9.out.below hb10)
    have M_10 := Lib.hid (M_9.out.below hb10)
    have CT_10 := Lib.hid (CT_9.out.below hb10)
    have PT_10 := Lib.hid (PT_9.out.below hb10)
    have BT_10 := Lib.hid (BT_9.out.below hb10)
    have TT_10 := Lib.hid (TT_9.out.below hb10)
    clear L_9 M_9 CT_9 PT_9 BT_9 TT_9
    clear ho10 hb10 hrU hB9
    have i6 : (J : Int) ≤ (cap : Int) := by omega
    go_wp2_with fail
    refine (RC.out _ _ (reads_mid hTN TT_10.out (Nat.le_of_lt hIJ) hJN)).mono ?_
    rintro e w11 ⟨x11, rfl, hb11, ho11⟩
    have CC_11 := Lib.hid (readsR_own ho11)
    have hB11 := under hB10 hb11
    have L_11 := Lib.hid (L_10.out.below hb11)
    have M_11 := Lib.hid (M_10.out.below hb11)
    have CT_11 := Lib.hid (CT_10.out.below hb11)
    have PT_11 := Lib.hid (PT_10.out.below hb11)
    have BT_11 := Lib.hid (BT_10.out.below hb11)
    have TT_11 := Lib.hid (TT_10.out.below hb11)
    have UU_11 := Lib.hid (UU_10.out.below hb11)
    clear L_10 M_10 CT_10 PT_10 BT_10 TT_10 UU_10
    clear ho11 hb11 hB10
    go_wp2_with fail
    refine (EQC.out _ _ _ CT_11.out CC_11.out).mono ?_
    rintro e w12 ⟨rfl, hb12⟩
    have hB12 := under hB11 hb12
    have L_12 := Lib.hid (L_11.out.below hb12)
    have M_12 := Lib.hid (M_11.out.below hb12)
    have CT_12 := Lib.hid (CT_11.out.below hb12)
    have PT_12 := Lib.hid (PT_11.out.below hb12)
    have BT_12 := Lib.hid (BT_11.out.below hb12)
    have TT_12 := Lib.hid (TT_11.out.below hb12)
    have UU_12 := Lib.hid (UU_11.out.below hb12)
    have CC_12 := Lib.hid (CC_11.out.below hb12)
    clear L_11 M_11 CT_11 PT_11 BT_11 TT_11 UU_11 CC_11
    clear hb12 hB11
    go_wp2_with fail
    refine (RP.out _ _ L_12.out).mono ?_
    rintro e w13 ⟨x13, rfl, hb13, ho13⟩
    have QQ_13 := Lib.hid (readsR_own ho13)
    have hB13 := under hB12 hb13
    have L_13 := Lib.hid (L_12.out.below hb13)
    have M_13 := Lib.hid (M_12.out.below hb13)
    have CT_13 := Lib.hid (CT_12.out.below hb13)
    have PT_13 := Lib.hid (PT_12.out.below hb13)
    have BT_13 := Lib.hid (BT_12.out.below hb13)
    have TT_13 := Lib.hid (TT_12.out.below hb13)
    have UU_13 := Lib.hid (UU_12.out.below hb13)
    have CC_13 := Lib.hid (CC_12.out.below hb13)
    clear L_12 M_12 CT_12 PT_12 BT_12 TT_12 UU_12 CC_12
    clear ho13 hb13 hB12
    go_wp2_with fail
    refine (EQQ.out _ _ _ PT_13.out QQ_13.out).mono ?_
    rintro e w14 ⟨rfl, hb14⟩
    have hB14 := under hB13 hb14
    have L_14 := Lib.hid (L_13.out.below hb14)
    have M_14 := Lib.hid (M_13.out.below hb14)
    have CT_14 := Lib.hid (CT_13.out.below hb14)
    have PT_14 := Lib.hid (PT_13.out.below hb14)
    have BT_14 := Lib.hid (BT_13.out.below hb14)
    have TT_14 := Lib.hid (TT_13.out.below hb14)
    have UU_14 := Lib.hid (UU_13.out.below hb14)
    have CC_14 := Lib.hid (CC_13.out.below hb14)
    have QQ_14 := Lib.hid (QQ_13.out.below hb14)
    clear L_13 M_13 CT_13 PT_13 BT_13 TT_13 UU_13 CC_13 QQ_13
    clear hb14 hB13
    go_wp2_with fail
    refine (CL.out _ _ _ TT_14.out).mono ?_
    rintro e w15 ⟨gc, capc, rfl, hb15, ho15⟩
    have HC : Hid (w15.ownsRow w14.heap.size 2 1 (.slice (some ⟨gc, 0, none⟩) N capc) N (T.map (Value.int .i64))) := Lib.hid (by have h := ho15; unfold RowI at h; rwa [hTN] at h)
    have hwc := hb15.size
    have UC := Lib.hid (UU_14.out.below hb15)
    rw [hTN]
    clear ho15
    go_wp2_with (at_builtin; refine wpList_append_own _ rfl _ _ 26 rfl w14.heap.size 2 i0 (.int .i64 0) 1 8 Try.underlying26 hi hz0 hz1 hz2 rfl (by decide) _ _ _ rfl HC.out ⟨gu, 0, none⟩ M capu (U.map (Value.int .i64)) rfl ?qc1 ?qc2 ?qc3 ?qc4 ?qc5 ?qc6 ?_)
    case qc1 => rw [List.length_map, HUM.out]; simp
    case qc2 => exact reads_addI UC.out
    case qc3 => exact ints_one U
    case qc4 => unfold maxLen; omega
    case qc5 => omega
    case qc6 => omega
    intro v16 w16 hown hgrow _
    have hb16 : Below w14.heap.size w14 w16 := hb15.grown hgrow hwc (fun k' hk' => (HC.out.lt k' hk').1)
    have AA_16 : Hid (Reads .i64 w16 v16 (T ++ U)) := Lib.hid (reads_own (k := .i64) (show w16.ownsRow w14.heap.size 2 1 v16 (T ++ U).length ((T ++ U).map (Value.int .i64)) by rw [List.length_append, hTN, hUM, List.map_append]; exact hown))
    have hB16 := under hB14 hb16
    have L_16 := Lib.hid (L_14.out.below hb16)
    have M_16 := Lib.hid (M_14.out.below hb16)
    have CT_16 := Lib.hid (CT_14.out.below hb16)
    have PT_16 := Lib.hid (PT_14.out.below hb16)
    have BT_16 := Lib.hid (BT_14.out.below hb16)
    have TT_16 := Lib.hid (TT_14.out.below hb16)
    have UU_16 := Lib.hid (UU_14.out.below hb16)
    have CC_16 := Lib.hid (CC_14.out.below hb16)
    have QQ_16 := Lib.hid (QQ_14.out.below hb16)
    clear L_14 M_14 CT_14 PT_14 BT_14 TT_14 UU_14 CC_14 QQ_14
    clear hown hgrow HC UC hwc hb15 hb16 hB14
    obtain ⟨AT, nT, cT, rfl⟩ : ∃ A n c, v16 = .slice A n c := by
      obtain ⟨A, c, e, _⟩ := AA_16.out
      exact ⟨A, _, c, e⟩
    go_wp2_with fail
    refine (RI.out _ _ AA_16.out).mono ?_
    rintro e w17 ⟨rfl, hb17⟩
    have hB17 := under hB16 hb17
    have L_17 := Lib.hid (L_16.out.below hb17)
    have M_17 := Lib.hid (M_16.out.below hb17)
    have CT_17 := Lib.hid (CT_16.out.below hb17)
    have PT_17 := Lib.hid (PT_16.out.below hb17)
    have BT_17 := Lib.hid (BT_16.out.below hb17)
    have TT_17 := Lib.hid (TT_16.out.below hb17)
    have UU_17 := Lib.hid (UU_16.out.below hb17)
    have CC_17 := Lib.hid (CC_16.out.below hb17)
    have QQ_17 := Lib.hid (QQ_16.out.below hb17)
    have AA_17 := Lib.hid (AA_16.out.below hb17)
    clear L_16 M_16 CT_16 PT_16 BT_16 TT_16 UU_16 CC_16 QQ_16 AA_16
    clear hb17 hB16
    go_wp2_with fail
    refine (RB.out _ _ AA_17.out).mono ?_
    rintro e w18 ⟨x18, rfl, hb18, ho18⟩
    have BB_18 := Lib.hid (readsR_own ho18)
    have hB18 := under hB17 hb18
    have L_18 := Lib.hid (L_17.out.below hb18)
    have M_18 := Lib.hid (M_17.out.below hb18)
    have CT_18 := Lib.hid (CT_17.out.below hb18)
    have PT_18 := Lib.hid (PT_17.out.below hb18)
    have BT_18 := Lib.hid (BT_17.out.below hb18)
    have TT_18 := Lib.hid (TT_17.out.below hb18)
    have UU_18 := Lib.hid (UU_17.out.below hb18)
    have CC_18 := Lib.hid (CC_17.out.below hb18)
    have QQ_18 := Lib.hid (QQ_17.out.below hb18)
    have AA_18 := Lib.hid (AA_17.out.below hb18)
    clear L_17 M_17 CT_17 PT_17 BT_17 TT_17 UU_17 CC_17 QQ_17 AA_17
    clear ho18 hb18 hB17
    go_wp2_with fail
    refine (EQB.out _ _ _ BT_18.out BB_18.out).mono ?_
    rintro e w19 ⟨rfl, hb19⟩
    have hB19 := under hB18 hb19
    have L_19 := Lib.hid (L_18.out.below hb19)
    have M_19 := Lib.hid (M_18.out.below hb19)
    have CT_19 := Lib.hid (CT_18.out.below hb19)
    have PT_19 := Lib.hid (PT_18.out.below hb19)
    have BT_19 := Lib.hid (BT_18.out.below hb19)
    have TT_19 := Lib.hid (TT_18.out.below hb19)
    have UU_19 := Lib.hid (UU_18.out.below hb19)
    have CC_19 := Lib.hid (CC_18.out.below hb19)
    have QQ_19 := Lib.hid (QQ_18.out.below hb19)
    have AA_19 := Lib.hid (AA_18.out.below hb19)
    have BB_19 := Lib.hid (BB_18.out.below hb19)
    clear L_18 M_18 CT_18 PT_18 BT_18 TT_18 UU_18 CC_18 QQ_18 AA_18 BB_18
    clear hb19 hB18
    go_wp2_with fail
    go_ret
    exact ⟨rfl, hB19⟩
end Go.Proofs.Ytlfjmdfplmdmgaa
