/-
  Layer 8: the law PmcCuts's walk. Conditions: those written at each fact.
-/
import Derived.Test.YtmkminaipeodnaaDcD
import Derived.Test.YtmkminaipeodnaaHlE
namespace Go.Proofs.Ytmkminaipeodnaa.P8
open Go.RowKit Go.Shelf

set_option maxRecDepth 100000 in
set_option maxHeartbeats 4000000 in
theorem cuts8_any (l : List Bd) (hl : l.length ≤ 9223372036854775807) (v : Value) (w : World) (h : ReadsD w v l) : Calls Try.prog 4 #[v] w (Ret w (.bool true)) := by
  have WK := Lib.hid wakes_any
  have FW := Lib.hid (fun W (hb : Below w.heap.size w W) => few_any l hl v W (h.below hb))
  obtain ⟨A, c, rfl, _, _⟩ := h
  have hml : (l.take 257).length ≤ 257 := by rw [List.length_take]; omega
  generalize l.take 257 = m0 at *
  go_enter Try.func4, Try.ntmps4
  go_wp2_with fail
  refine (WK.out _).mono ?_
  rintro e w1 ⟨rfl, hb1⟩
  go_wp2_with fail
  refine (FW.out w1 hb1).mono ?_
  rintro e w2 hh
  obtain ⟨hb2, A2, c2, rfl, hc2, hr2⟩ := hh.open
  have B2 := under hb1 hb2
  clear hh hb1 hb2 WK
  by_cases g80 : m0.length ≤ 80
  · obtain ⟨m, hm⟩ : ∃ m, m = m0 := ⟨_, rfl⟩
    have HM : Hid (m0.take m.length = m ∧ m.length ≤ m0.length) := Lib.hid ⟨by rw [hm, List.take_length], by rw [hm]; exact Nat.le_refl _⟩
    rw [← hm] at hr2 hc2 hml g80 FW HM ⊢
    have H2 := Lib.hid hr2
    have hm80 : m.length ≤ 80 := g80
    have i80 : ¬ (80 : Int) < (m.length : Int) := by omega
    have i81 : (m.length : Int) ≤ (c2 : Int) := by omega
    clear hm hr2
    have LO := Lib.hid (fun W (hb : Below w2.heap.size w2 W) => longest_any m (by omega) _ W (H2.out.below hb))
    have CU := Lib.hid (fun W (hb : Below w2.heap.size w2 W) => cut_any m (by omega) _ W (H2.out.below hb))
    have RI := Lib.hid (fun W (hb : Below w2.heap.size w2 W) => refRight_any m (by omega) _ W (H2.out.below hb))
    cases gk : okD m
    · rw [gk] at RI LO
      have e1 : cutR m = [] := by simp [cutR, gk]
      have e2 : codeK m = 180 := by simp [codeK, gk]
      have e3 : lenD m = 0 := by simp [lenD, gk]
      rw [e1, e2] at CU
      rw [e3] at LO
      simp only [Bool.false_eq_true, if_false] at LO
      clear gk e1 e2 e3 FW
      go_wp2_with fail
      refine (LO.out w2 (Below.refl _ _)).mono ?_
      rintro e w3 ⟨rfl, hb3⟩
      go_wp2_with fail
      refine (CU.out w3 hb3).mono ?_
      rintro e w4 hh
      obtain ⟨hb4, A4, c4, rfl, _⟩ := hh.open
      replace hb4 := under hb3 hb4
      clear hh
      simp only [List.length_nil]
      go_wp2_with fail
      refine (RI.out w4 hb4).mono ?_
      rintro e w5 ⟨rfl, hb5⟩
      go_wp2_with fail
      go_ret
      exact ⟨rfl, under B2 (under hb4 hb5)⟩
    obtain ⟨q1, q2, hR⟩ := okD_facts gk
    have hne := okD_ne gk
    have RL := Lib.hid (fun W (hb : Below w2.heap.size w2 W) => refLongest_any m (by omega) hR hne _ W (H2.out.below hb))
    have RC := Lib.hid (fun W (hb : Below w2.heap.size w2 W) => refCut_any m (by omega) hR _ W (H2.out.below hb))
    rw [gk] at RI LO
    rw [show cutR m = cutD m by simp [cutR, gk], show codeK m = 0 by simp [codeK, gk]] at CU
    rw [show lenD m = ((firstD m).n : Int) by simp [lenD, gk]] at LO
    simp only [if_true] at LO
    have EN := Lib.hid (fun v v2 W h h2 => equalN (cutD m) (by have := cutN_length m; rw [cutD_length]; omega) v v2 W h h2)
    have ED := Lib.hid (fun v v2 W h h2 => equalD m (by omega) v v2 W h h2)
    generalize (firstD m).n = N at *
    clear gk hR hne q1 q2
    go_wp2_with fail
    refine (LO.out w2 (Below.refl _ _)).mono ?_
    rintro e w3 ⟨rfl, hb3⟩
    go_wp2_with fail
    refine (CU.out w3 hb3).mono ?_
    rintro e w4 hh
    obtain ⟨hb4, A4, c4, rfl, hrp⟩ := hh.open
    replace hb4 := under hb3 hb4
    have HP := Lib.hid hrp
    clear hh hrp hb3
    go_wp2_with fail
    refine (RI.out w4 hb4).mono ?_
    rintro e w5 ⟨rfl, hb5⟩
    replace HP := Lib.hid (HP.out.below hb5)
    replace hb5 := under hb4 hb5
    clear hb4
    go_wp2_with fail
    refine (RL.out w5 hb5).mono ?_
    rintro e w6 ⟨rfl, hb6⟩
    replace HP := Lib.hid (HP.out.below hb6)
    replace hb6 := under hb5 hb6
    clear hb5
    go_wp2_with fail
    refine (RC.out w6 hb6).mono ?_
    rintro e w7 ⟨v7, rfl, hb7, ho7⟩
    replace HP := Lib.hid (HP.out.below hb7)
    replace hb7 := under hb6 hb7
    have H7 := Lib.hid (reads_own ho7)
    clear hb6 ho7
    go_wp2_with fail
    refine (EN.out _ _ w7 HP.out H7.out).mono ?_
    rintro e w8 ⟨rfl, hb8⟩
    replace hb8 := under hb7 hb8
    clear hb7 HP H7
    go_wp2_with fail
    refine (FW.out w8 (under B2 hb8)).mono ?_
    rintro e w9 hh
    obtain ⟨hb9, A9, c9, rfl, hc9, hr9⟩ := hh.open
    have H9 := Lib.hid (hr9.front m.length HM.out.2)
    rw [HM.out.1] at H9
    replace hb9 := under hb8 hb9
    have i91 : (m.length : Int) ≤ (c9 : Int) := by have := HM.out.2; omega
    clear hh hb8 hr9
    go_wp2_with fail
    refine (ED.out _ _ w9 (H2.out.below hb9) H9.out).mono ?_
    rintro e w10 ⟨rfl, hb10⟩
    go_wp2_with fail
    go_ret
    exact ⟨rfl, under B2 (under hb9 hb10)⟩
  · have H2 := Lib.hid (hr2.front 80 (by omega))
    have hl80 : (m0.take 80).length = 80 := by rw [List.length_take]; omega
    obtain ⟨m, hm⟩ : ∃ m, m = m0.take 80 := ⟨_, rfl⟩
    rw [← hm] at H2 hl80
    have HM : Hid (m0.take m.length = m ∧ m.length ≤ m0.length) := Lib.hid ⟨by rw [hl80, hm], by rw [hl80]; omega⟩
    have i80 : (80 : Int) < (m0.length : Int) := by omega
    have i81 : (80 : Int) ≤ (c2 : Int) := by omega
    have hm80 : m.length ≤ 80 := by omega
    clear hr2 hm
    have LO := Lib.hid (fun W (hb : Below w2.heap.size w2 W) => longest_any m (by omega) _ W (H2.out.below hb))
    have CU := Lib.hid (fun W (hb : Below w2.heap.size w2 W) => cut_any m (by omega) _ W (H2.out.below hb))
    have RI := Lib.hid (fun W (hb : Below w2.heap.size w2 W) => refRight_any m (by omega) _ W (H2.out.below hb))
    cases gk : okD m
    · rw [gk] at RI LO
      have e1 : cutR m = [] := by simp [cutR, gk]
      have e2 : codeK m = 180 := by simp [codeK, gk]
      have e3 : lenD m = 0 := by simp [lenD, gk]
      rw [e1, e2] at CU
      rw [e3] at LO
      simp only [Bool.false_eq_true, if_false] at LO
      clear gk e1 e2 e3 FW
      go_wp2_with fail
      refine (LO.out w2 (Below.refl _ _)).mono ?_
      rintro e w3 ⟨rfl, hb3⟩
      go_wp2_with fail
      refine (CU.out w3 hb3).mono ?_
      rintro e w4 hh
      obtain ⟨hb4, A4, c4, rfl, _⟩ := hh.open
      replace hb4 := under hb3 hb4
      clear hh
      simp only [List.length_nil]
      go_wp2_with fail
      refine (RI.out w4 hb4).mono ?_
      rintro e w5 ⟨rfl, hb5⟩
      go_wp2_with fail
      go_ret
      exact ⟨rfl, under B2 (under hb4 hb5)⟩
    obtain ⟨q1, q2, hR⟩ := okD_facts gk
    have hne := okD_ne gk
    have RL := Lib.hid (fun W (hb : Below w2.heap.size w2 W) => refLongest_any m (by omega) hR hne _ W (H2.out.below hb))
    have RC := Lib.hid (fun W (hb : Below w2.heap.size w2 W) => refCut_any m (by omega) hR _ W (H2.out.below hb))
    rw [gk] at RI LO
    rw [show cutR m = cutD m by simp [cutR, gk], show codeK m = 0 by simp [codeK, gk]] at CU
    rw [show lenD m = ((firstD m).n : Int) by simp [lenD, gk]] at LO
    simp only [if_true] at LO
    have EN := Lib.hid (fun v v2 W h h2 => equalN (cutD m) (by have := cutN_length m; rw [cutD_length]; omega) v v2 W h h2)
    have ED := Lib.hid (fun v v2 W h h2 => equalD m (by omega) v v2 W h h2)
    generalize (firstD m).n = N at *
    clear gk hR hne q1 q2
    go_wp2_with fail
    refine (LO.out w2 (Below.refl _ _)).mono ?_
    rintro e w3 ⟨rfl, hb3⟩
    go_wp2_with fail
    refine (CU.out w3 hb3).mono ?_
    rintro e w4 hh
    obtain ⟨hb4, A4, c4, rfl, hrp⟩ := hh.open
    replace hb4 := under hb3 hb4
    have HP := Lib.hid hrp
    clear hh hrp hb3
    go_wp2_with fail
    refine (RI.out w4 hb4).mono ?_
    rintro e w5 ⟨rfl, hb5⟩
    replace HP := Lib.hid (HP.out.below hb5)
    replace hb5 := under hb4 hb5
    clear hb4
    go_wp2_with fail
    refine (RL.out w5 hb5).mono ?_
    rintro e w6 ⟨rfl, hb6⟩
    replace HP := Lib.hid (HP.out.below hb6)
    replace hb6 := under hb5 hb6
    clear hb5
    go_wp2_with fail
    refine (RC.out w6 hb6).mono ?_
    rintro e w7 ⟨v7, rfl, hb7, ho7⟩
    replace HP := Lib.hid (HP.out.below hb7)
    replace hb7 := under hb6 hb7
    have H7 := Lib.hid (reads_own ho7)
    clear hb6 ho7
    go_wp2_with fail
    refine (EN.out _ _ w7 HP.out H7.out).mono ?_
    rintro e w8 ⟨rfl, hb8⟩
    replace hb8 := under hb7 hb8
    clear hb7 HP H7
    go_wp2_with fail
    refine (FW.out w8 (under B2 hb8)).mono ?_
    rintro e w9 hh
    obtain ⟨hb9, A9, c9, rfl, hc9, hr9⟩ := hh.open
    have H9 := Lib.hid (hr9.front m.length HM.out.2)
    rw [HM.out.1] at H9
    replace hb9 := under hb8 hb9
    have i91 : (m.length : Int) ≤ (c9 : Int) := by have := HM.out.2; omega
    have i92 : (80 : Int) ≤ (c9 : Int) := by omega
    rw [hl80] at H9
    clear hh hb8 hr9
    go_wp2_with fail
    refine (ED.out _ _ w9 (H2.out.below hb9) H9.out).mono ?_
    rintro e w10 ⟨rfl, hb10⟩
    go_wp2_with fail
    go_ret
    exact ⟨rfl, under B2 (under hb9 hb10)⟩
end Go.Proofs.Ytmkminaipeodnaa.P8
