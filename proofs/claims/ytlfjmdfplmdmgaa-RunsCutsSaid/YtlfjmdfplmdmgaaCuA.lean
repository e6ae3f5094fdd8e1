/-
  Layer 7: the law RunsCuts holds of every input: its walks. Conditions: those of the law's row.
-/
import Derived.Test.YtlfjmdfplmdmgaaCuM
namespace Go.Proofs.Ytlfjmdfplmdmgaa
open Go.RowKit Go.Shelf

set_option maxRecDepth 100000 in
set_option maxHeartbeats 4000000 in
theorem cuts_bad (l m : List Rn) (i j : Int) (b : Bool) (vx vy : Value) (w : World)
    (WK : Hid (Calls Try.prog 11 #[] w (Ret w (.bool true))))
    (OX : Hid (∀ W, Below w.heap.size w W → Calls Try.prog 12 #[vx] W (LaidR W l)))
    (OY : Hid (∀ W, Below w.heap.size w W → Calls Try.prog 12 #[vy] W (LaidR W m)))
    (CU : Hid (∀ v W, ReadsR W v l → Calls Try.prog 28 #[v, .int .i64 i, .int .i64 j] W (ErrR W 170)))
    (PI : Hid (∀ v W, ReadsR W v l → Calls Try.prog 29 #[v, .int .i64 i, .int .i64 j] W (ErrR W 170)))
    (JO : Hid (∀ v u W, ReadsR W v l → ReadsR W u m → Calls Try.prog 30 #[v, u] W (ErrR W 170)))
    (RL : Hid (∀ v W, ReadsR W v l → Calls Try.prog 13 #[v] W (Ret W (.bool false))))
    (RM : Hid (∀ v W, ReadsR W v m → Calls Try.prog 13 #[v] W (Ret W (.bool b)))) :
    Calls Try.prog 6 #[vx, vy, .int .i64 i, .int .i64 j] w (Ret w (.bool true)) := by
  go_enter Try.func6, Try.ntmps6
  go_wp2_with fail
  refine WK.out.mono ?_
  rintro e w1 ⟨rfl, hB1⟩
  go_wp2_with fail
  refine (OX.out _ hB1).mono ?_
  rintro e w2 ⟨x2, rfl, hb2, ho2⟩
  have hB2 := under hB1 hb2
  have L_2 := Lib.hid (readsR_own ho2)
  clear ho2 hb2 hB1
  go_wp2_with fail
  refine (OY.out _ hB2).mono ?_
  rintro e w3 ⟨x3, rfl, hb3, ho3⟩
  have hB3 := under hB2 hb3
  have M_3 := Lib.hid (readsR_own ho3)
  have L_3 := Lib.hid (L_2.out.below hb3)
  clear ho3 hb3 hB2 L_2 OX OY WK
  go_wp2_with fail
  refine (CU.out _ _ L_3.out).mono ?_
  rintro e w4 ⟨rfl, hb4⟩
  have hB4 := under hB3 hb4
  have L_4 := Lib.hid (L_3.out.below hb4)
  have M_4 := Lib.hid (M_3.out.below hb4)
  clear L_3 M_3
  clear hb4 hB3
  go_wp2_with fail
  refine (PI.out _ _ L_4.out).mono ?_
  rintro e w5 ⟨rfl, hb5⟩
  have hB5 := under hB4 hb5
  have L_5 := Lib.hid (L_4.out.below hb5)
  have M_5 := Lib.hid (M_4.out.below hb5)
  clear L_4 M_4
  clear hb5 hB4
  go_wp2_with fail
  refine (JO.out _ _ _ L_5.out M_5.out).mono ?_
  rintro e w6 ⟨rfl, hb6⟩
  have hB6 := under hB5 hb6
  have L_6 := Lib.hid (L_5.out.below hb6)
  have M_6 := Lib.hid (M_5.out.below hb6)
  clear L_5 M_5
  clear hb6 hB5
  go_wp2_with fail
  refine (RL.out _ _ L_6.out).mono ?_
  rintro e w7 ⟨rfl, hb7⟩
  have hB7 := under hB6 hb7
  have L_7 := Lib.hid (L_6.out.below hb7)
  have M_7 := Lib.hid (M_6.out.below hb7)
  clear L_6 M_6
  clear hb7 hB6
  go_wp2_with fail
  refine (RM.out _ _ M_7.out).mono ?_
  rintro e w8 ⟨rfl, hb8⟩
  have hB8 := under hB7 hb8
  have L_8 := Lib.hid (L_7.out.below hb8)
  have M_8 := Lib.hid (M_7.out.below hb8)
  clear L_7 M_7
  clear hb8 hB7
  go_wp2_with fail
  go_ret
  exact ⟨rfl, hB8⟩
end Go.Proofs.Ytlfjmdfplmdmgaa
