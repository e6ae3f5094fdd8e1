/-
  Layer 7: the law RunsChecks holds of every input. Conditions: those of the law's row.
-/
import Derived.Test.YtlfjmdfplmdmgaaRfS
import Derived.Test.YtlfjmdfplmdmgaaBackL
namespace Go.Proofs.Ytlfjmdfplmdmgaa
open Go.RowKit Go.Shelf

set_option maxRecDepth 100000 in
set_option maxHeartbeats 4000000 in
theorem checks_bad (m : List Rn) (v : Value) (w : World)
    (WK : Hid (Calls Try.prog 11 #[] w (Ret w (.bool true)))) (OW : Hid (∀ W, Below w.heap.size w W → Calls Try.prog 12 #[v] W (LaidR W m)))
    (RG : Hid (∀ v W, ReadsR W v m → Calls Try.prog 13 #[v] W (Ret W (.bool false))))
    (TI : Hid (∀ v W, ReadsR W v m → Calls Try.prog 14 #[v] W (ErrR W 170)))
    (CK : Hid (∀ v W, ReadsR W v m → Calls Try.prog 15 #[v] W (Ret W (.int .i64 170))))
    (CN : Hid (∀ v W, ReadsR W v m → Calls Try.prog 16 #[v] W (Ret W (.int .i64 0)))) :
    Calls Try.prog 3 #[v] w (Ret w (.bool true)) := by
  go_enter Try.func3, Try.ntmps3
  go_wp2_with fail
  refine WK.out.mono ?_
  rintro e w1 ⟨rfl, hb1⟩
  go_wp2_with fail
  refine (OW.out _ hb1).mono ?_
  rintro e w2 ⟨v2, rfl, hb2, ho2⟩
  have H2 := Lib.hid (readsR_own ho2)
  have hB2 := under hb1 hb2
  clear ho2 hb1 hb2
  go_wp2_with fail
  refine (RG.out _ _ H2.out).mono ?_
  rintro e w3 ⟨rfl, hb3⟩
  have hB3 := under hB2 hb3
  have H3 := Lib.hid (H2.out.below hb3)
  clear hB2 H2 hb3
  go_wp2_with fail
  refine (TI.out _ _ H3.out).mono ?_
  rintro e w4 ⟨rfl, hb4⟩
  have hB4 := under hB3 hb4
  have H4 := Lib.hid (H3.out.below hb4)
  clear hB3 H3 hb4
  go_wp2_with fail
  refine (CK.out _ _ H4.out).mono ?_
  rintro e w5 ⟨rfl, hb5⟩
  have hB5 := under hB4 hb5
  have H5 := Lib.hid (H4.out.below hb5)
  clear hB4 H4 hb5
  go_wp2_with fail
  refine (CN.out _ _ H5.out).mono ?_
  rintro e w6 ⟨rfl, hb6⟩
  go_wp2_with fail
  go_ret
  exact ⟨rfl, under hB5 hb6⟩
set_option maxRecDepth 100000 in
set_option maxHeartbeats 4000000 in
theorem checks_good (m : List Rn) (T : List Int) (N : Nat) (hTN : T.length = N) (hN : 1 ≤ N) (hN2 : N ≤ 256) (v : Value) (w : World) (RV : Hid (∀ W, Below w.heap.size w W → Calls Try.prog 12 #[v] W (LaidR W m)))
    (WK : Hid (Calls Try.prog 11 #[] w (Ret w (.bool true)))) 
    (RG : Hid (∀ v W, ReadsR W v m → Calls Try.prog 13 #[v] W (Ret W (.bool true))))
    (TI : Hid (∀ v W, ReadsR W v m → Calls Try.prog 14 #[v] W (GotI W T)))
    (TD : Hid (∀ v W, ReadsR W v m → Calls Try.prog 17 #[v] W (LaidI W T)))
    (CK : Hid (∀ v W, ReadsR W v m → Calls Try.prog 15 #[v] W (Ret W (.int .i64 0))))
    (CN : Hid (∀ v W, ReadsR W v m → Calls Try.prog 16 #[v] W (Ret W (.int .i64 (N : Int)))))
    (EI : Hid (∀ v u W, Reads .i64 W v T → Reads .i64 W u T → Calls Try.prog 18 #[v, u] W (Ret W (.bool true))))
    (EQ : Hid (∀ v u W, ReadsR W v m → ReadsR W u m → Calls Try.prog 19 #[v, u] W (Ret W (.bool true)))) :
    Calls Try.prog 3 #[v] w (Ret w (.bool true)) := by
  have hne : T ≠ [] := by rintro rfl; simp at hTN; omega
  have HNE := Lib.hid hne
  have HTN := Lib.hid hTN
  have tN : ((N : Int) != (N : Int)) = false := by simp
  clear hne
  go_enter Try.func3, Try.ntmps3
  go_wp2_with fail
  refine WK.out.mono ?_
  rintro e w1 ⟨rfl, hb1⟩
  go_wp2_with fail
  refine (RV.out _ hb1).mono ?_
  rintro e w2 ⟨v2, rfl, hb2, ho2⟩
  have H2 := Lib.hid (readsR_own ho2)
  have hB2 := under hb1 hb2
  clear ho2 hb1 hb2
  go_wp2_with fail
  refine (RG.out _ _ H2.out).mono ?_
  rintro e w3 ⟨rfl, hb3⟩
  have hB3 := under hB2 hb3
  have H3 := Lib.hid (H2.out.below hb3)
  clear hB2 H2 hb3
  go_wp2_with fail
  refine (TI.out _ _ H3.out).mono ?_
  rintro e w4 ⟨v4, rfl, hb4, ho4⟩
  obtain ⟨g, cap, rfl, hcap, hgB, hI, hcell⟩ := rowI_some ho4 HNE.out
  have hr4 := reads_own (k := .i64) ho4
  rw [hTN] at hr4 hcap hI ⊢
  have R4 := Lib.hid hr4
  have I4 := Lib.hid hI
  clear ho4 hI hcell hr4
  go_wp2_with fail
  refine (TD.out _ _ (H3.out.below hb4)).mono ?_
  rintro e w5 ⟨v5, rfl, hb5, ho5⟩
  have hr5 := reads_own (k := .i64) ho5
  obtain ⟨A5, c5, rfl, _⟩ := id hr5
  rw [hTN] at hr5 ⊢
  have R5 := Lib.hid hr5
  have R45 := Lib.hid (R4.out.below hb5)
  have I5 := Lib.hid (I4.out.below hb5)
  have hC5 := under hb4 hb5
  clear hb4 hb5 ho5 hr5 R4 I4
  go_wp2_with fail
  refine (CK.out _ _ (H3.out.below hC5)).mono ?_
  rintro e w6 ⟨rfl, hb6⟩
  have hC6 := under hC5 hb6
  have R46 := Lib.hid (R45.out.below hb6)
  have R56 := Lib.hid (R5.out.below hb6)
  have I6 := Lib.hid (I5.out.below hb6)
  clear hC5 hb6 R45 R5 I5
  go_wp2_with fail
  refine (EI.out _ _ _ R46.out R56.out).mono ?_
  rintro e w7 ⟨rfl, hb7⟩
  have hC7 := under hC6 hb7
  have I7 := Lib.hid (I6.out.below hb7)
  clear hC6 hb7 R46 R56 I6
  go_wp2_with fail
  refine (CN.out _ _ (H3.out.below hC7)).mono ?_
  rintro e w8 ⟨rfl, hb8⟩
  have hC8 := under hC7 hb8
  have I8 := Lib.hid (I7.out.below hb8)
  clear hC7 hb8 I7
  go_wp2_with fail
  go_loopw [63] (fun i wr => ∃ k : Nat, i = .int .i64 k ∧ k ≤ N ∧ Hid (Ints wr g N) ∧ Below w3.heap.size w3 wr) (fun i _ => N - (intOf i).toNat)
  case atStart => exact ⟨0, rfl, by omega, I8, hC8⟩
  case round =>
    obtain ⟨k, rfl, hkl, hI, hB⟩ := hrel
    by_cases gk : k < N
    · obtain ⟨⟨z, c1⟩, f1⟩ := hI.out.2 k gk
      have i1 : (k : Int) < (N : Int) := by omega
      have i0 : (0 : Int) ≤ (k : Int) := by omega
      have I2 : Hid (∀ x, Ints (wr.setCell ⟨g, k, none⟩ (.int .i64 x)) g N) := Lib.hid (fun x => hI.out.set)
      have B2 : Hid (∀ x, Below w3.heap.size w3 (wr.setCell ⟨g, k, none⟩ (.int .i64 x))) := Lib.hid (fun x => hB.setCell (p := ⟨g, k, none⟩) hgB _)
      clear hI hB
      go_wp2_with fail
      go_roundw
      case rel => exact ⟨k + 1, by simp, gk, Lib.hid (I2.out _), B2.out _⟩
      case measure => exact index_less7 gk
    · have i1 : ¬ (k : Int) < (N : Int) := by omega
      have hB4 := under hB3 hB
      have H4 := Lib.hid (H3.out.below hB)
      clear H3 hB3 hB hI
      go_wp2_with fail
      refine (RV.out _ hB4).mono ?_
      rintro e w10 ⟨v10, rfl, hb10, ho10⟩
      have R10 := Lib.hid (readsR_own ho10)
      have H10 := Lib.hid (H4.out.below hb10)
      have hB10 := under hB4 hb10
      clear H4 hb10 ho10 hB4
      go_wp2_with fail
      refine (EQ.out _ _ _ H10.out R10.out).mono ?_
      rintro e w11 ⟨rfl, hb11⟩
      go_wp2_with fail
      go_ret
      exact ⟨rfl, under hB10 hb11⟩
theorem checks_any (l : List Rn) (hl : l.length ≤ 9223372036854775807) (v : Value) (w : World) (h : ReadsR w v l) : Calls Try.prog 3 #[v] w (Ret w (.bool true)) := by
  have WK := Lib.hid (wakes_any w)
  have OW := Lib.hid (fun W (hb : Below w.heap.size w W) => own_any l hl v W (h.below hb))
  have hml : (l.take 300).length ≤ 1000000 := by rw [List.length_take]; omega
  generalize l.take 300 = m at *
  cases gk : okB m
  · refine checks_bad m v w WK OW (Lib.hid fun v W hr => ?_) (Lib.hid fun v W hr => ?_) (join_chk0 hml gk) (join_cnt0 hml gk)
    · have := refRight_any m hml v W hr; rwa [gk] at this
    · exact (timesA_any m hml v W hr).mono fun e w' hh => by unfold TimesRes at hh; rwa [if_neg (by rw [gk]; decide)] at hh
  · obtain ⟨f1, f2, f3, f4⟩ := okB_facts gk
    have hnn := timesR_length (l := m) (fun r hr => by have := (f2 r hr).1; omega)
    obtain ⟨n, hn⟩ : ∃ n : Nat, totalR m = (n : Int) := ⟨_, hnn.symm⟩
    have h1 : 1 ≤ n := by have := ((areB_iff _).1 (times_are gk)).1; omega
    refine checks_good m (timesR m) n (by omega) h1 (by omega) v w OW WK (Lib.hid fun v W hr => ?_) (join_times hml gk rfl) (Lib.hid fun v W hr => ?_) (join_chk hml gk) (join_cnt hml gk hn) (join_eqi (by omega)) (join_eq hml)
    · have := refRight_any m hml v W hr; rwa [gk] at this
    · have := refTimes_any m hml v W hr; rwa [timesD_ok gk] at this
end Go.Proofs.Ytlfjmdfplmdmgaa
