/-
  Layer 8: the document's Fit; the law PmcFits's walk. Conditions: those written at each fact.
-/
import Derived.Test.YtmkminaipeodnaaDcC
import Derived.Test.YtmkminaipeodnaaHlE
import Derived.Test.YtmkminaipeodnaaMid8
namespace Go.Proofs.Ytmkminaipeodnaa.P8
open Go.RowKit Go.Shelf

/-- The constant that the document tells. -/
def refFitV (l : List Bd) : Int := if allD l then (refLo l + refHi l) / 2 else 0
theorem refLo_bounds {l : List Bd} (hR : ∀ b ∈ l, BdOk b) (hne : l ≠ []) : -2305844108725321728 ≤ refLo l ∧ refLo l ≤ 2305844108725321728 ∧ -2305844108725321728 ≤ refHi l ∧ refHi l ≤ 2305844108725321728 := by
  obtain ⟨h1, h2, h3⟩ := first_le hR hne
  unfold refLo refHi
  cases allD l
  · simp
  · simp only [if_true]; omega
set_option maxHeartbeats 1000000 in
theorem refFit_any (l : List Bd) (hl : l.length ≤ 1000000) (hR : ∀ b ∈ l, BdOk b) (hne : l ≠ []) (v : Value) (w : World) (h : ReadsD w v l) : Calls Try.prog 18 #[v] w (Ret w (.tuple #[.int .i64 (refFitV l), .bool (allD l)])) := by
  have CA := Lib.hid (refCommon_any l hl hR hne v w h)
  obtain ⟨b1, b2, b3, b4⟩ := refLo_bounds hR hne
  have MA := Lib.hid (fun W => refMiddle_any (refLo l) (refHi l) (by omega) (by omega) (by omega) (by omega) W)
  obtain ⟨A, c, rfl, _, _⟩ := h
  cases g : allD l
  · have E : Hid (refFitV l = 0) := Lib.hid (by simp [refFitV, g])
    rw [g] at CA
    clear MA g hR hne b1 b2 b3 b4
    generalize refLo l = X at *
    generalize refHi l = Y at *
    generalize refFitV l = Z at *
    go_enter Try.func18, Try.ntmps18
    go_wp2_with fail
    refine CA.out.mono ?_
    rintro e w1 ⟨rfl, hb1⟩
    go_wp2_with fail
    go_returns
    exact ⟨by rw [E.out]; try rfl, under hb1 (below_alloc w1 _)⟩
  · have E : Hid (refFitV l = (refLo l + refHi l) / 2) := Lib.hid (by simp [refFitV, g])
    rw [g] at CA
    rw [← E.out] at MA
    clear E g hR hne b1 b2 b3 b4
    generalize refLo l = X at *
    generalize refHi l = Y at *
    generalize refFitV l = Z at *
    go_enter Try.func18, Try.ntmps18
    go_wp2_with fail
    refine CA.out.mono ?_
    rintro e w1 ⟨rfl, hb1⟩
    go_wp2_with fail
    refine (MA.out _).mono ?_
    rintro e w2 ⟨rfl, hb2⟩
    go_wp2_with fail
    go_returns
    exact ⟨rfl, under (under hb1 (below_alloc w1 _)) hb2⟩
theorem fits_told {m : List Bd} (hk : okD m = true) : (allD m = true → codeC m = 0 ∧ comLo m = refLo m ∧ comHi m = refHi m ∧ fitD m = refFitV m) ∧ (allD m = false → codeC m = 181 ∧ comLo m = 0 ∧ comHi m = 0 ∧ fitD m = 0) := by
  refine ⟨fun h => ?_, fun h => ?_⟩
  · have hn : ¬ (firstD m).n < m.length := by unfold allD at h; simpa using h
    have hc : codeC m = 0 := by simp [codeC, hk, hn]
    refine ⟨hc, by simp [comLo, hc, refLo, h], by simp [comHi, hc, refHi, h], by simp [fitD, hc, refFitV, h, comLo, comHi, refLo, refHi]⟩
  · have hn : (firstD m).n < m.length := by unfold allD at h; simpa using h
    have hc : codeC m = 181 := by simp [codeC, hk, hn]
    exact ⟨hc, by simp [comLo, hc], by simp [comHi, hc], by simp [fitD, hc]⟩
set_option maxRecDepth 100000 in
set_option maxHeartbeats 4000000 in
theorem fits8_any (l : List Bd) (hl : l.length ≤ 9223372036854775807) (v : Value) (w : World) (h : ReadsD w v l) : Calls Try.prog 3 #[v] w (Ret w (.bool true)) := by
  have WK := Lib.hid wakes_any
  have FW := Lib.hid (fun W (hb : Below w.heap.size w W) => few_any l hl v W (h.below hb))
  obtain ⟨A, c, rfl, _, _⟩ := h
  have hml : (l.take 257).length ≤ 257 := by rw [List.length_take]; omega
  generalize l.take 257 = m at *
  go_enter Try.func3, Try.ntmps3
  go_wp2_with fail
  refine (WK.out _).mono ?_
  rintro e w1 ⟨rfl, hb1⟩
  go_wp2_with fail
  refine (FW.out w1 hb1).mono ?_
  rintro e w2 hh
  obtain ⟨hb2, A2, c2, rfl, hc2, hr2⟩ := hh.open
  have B2 := under hb1 hb2
  have H2 := Lib.hid hr2
  clear hh hb1 hb2 WK hr2
  have CO := Lib.hid (fun W (hb : Below w2.heap.size w2 W) => common_any m (by omega) _ W (H2.out.below hb))
  have FI := Lib.hid (fun W (hb : Below w2.heap.size w2 W) => fitA_any m (by omega) _ W (H2.out.below hb))
  have RI := Lib.hid (fun W (hb : Below w2.heap.size w2 W) => refRight_any m (by omega) _ W (H2.out.below hb))
  have CK := Lib.hid (fun W (hb : Below w2.heap.size w2 W) => bcheck_any m (by omega) _ W (H2.out.below hb))
  cases gk : okD m
  · obtain ⟨e1, e2, e3⟩ := codeC_bad gk
    have e4 : fitD m = 0 := by simp [fitD, e1]
    rw [e1, e2, e3] at CO
    rw [e1, e4] at FI
    rw [gk] at RI CK
    simp only [Bool.false_eq_true, if_false] at CK
    clear gk e1 e2 e3 e4 FW
    go_wp2_with fail
    refine (CO.out w2 (Below.refl _ _)).mono ?_
    rintro e w3 ⟨rfl, hb3⟩
    go_wp2_with fail
    have hH : Keeps w2 [(w3.heap.size, 0, .int .i64 0), (w3.heap.size, 1, .int .i64 0)] (w3.alloc (.cells #[.int .i64 0, .int .i64 0] 26)) := newK2 (L := []) (Keeps.alloc (L := []) ⟨hb3, trivial⟩ _)
    refine (FI.out _ hH.1).mono ?_
    rintro e w4 ⟨rfl, hb4⟩
    replace hH := hH.next hb4
    clear hb4
    go_wp2_with fail
    refine (RI.out w4 hH.1).mono ?_
    rintro e w5 ⟨rfl, hb5⟩
    replace hH := hH.next hb5
    clear hb5
    go_wp2_with fail
    refine (CK.out w5 hH.1).mono ?_
    rintro e w6 ⟨rfl, hb6⟩
    replace hH := hH.next hb6
    clear hb6
    obtain ⟨⟨kz0, kc0, kf0⟩, ⟨kz1, kc1, kf1⟩, _⟩ := hH.2
    go_wp2_with fail
    go_ret
    exact ⟨rfl, under B2 hH.1⟩
  obtain ⟨q1, q2, hR⟩ := okD_facts gk
  have hne := okD_ne gk
  obtain ⟨t1, t2⟩ := fits_told gk
  have RC := Lib.hid (fun W (hb : Below w2.heap.size w2 W) => refCommon_any m (by omega) hR hne _ W (H2.out.below hb))
  have RF := Lib.hid (fun W (hb : Below w2.heap.size w2 W) => refFit_any m (by omega) hR hne _ W (H2.out.below hb))
  have ED := Lib.hid (fun v v2 W h h2 => equalD m (by omega) v v2 W h h2)
  rw [gk] at RI CK
  simp only [if_true] at CK
  cases ga : allD m
  · obtain ⟨e1, e2, e3, e4⟩ := t2 ga
    rw [e1, e2, e3] at CO
    rw [e1, e4] at FI
    rw [ga] at RC
    clear gk hR hne q1 q2 t1 t2 e1 e2 e3 e4 ga RF
    generalize refLo m = X at *
    generalize refHi m = Y at *
    go_wp2_with fail
    refine (CO.out w2 (Below.refl _ _)).mono ?_
    rintro e w3 ⟨rfl, hb3⟩
    go_wp2_with fail
    have hH : Keeps w2 [(w3.heap.size, 0, .int .i64 0), (w3.heap.size, 1, .int .i64 0)] (w3.alloc (.cells #[.int .i64 0, .int .i64 0] 26)) := newK2 (L := []) (Keeps.alloc (L := []) ⟨hb3, trivial⟩ _)
    refine (FI.out _ hH.1).mono ?_
    rintro e w4 ⟨rfl, hb4⟩
    replace hH := hH.next hb4
    clear hb4
    go_wp2_with fail
    refine (RI.out w4 hH.1).mono ?_
    rintro e w5 ⟨rfl, hb5⟩
    replace hH := hH.next hb5
    clear hb5
    go_wp2_with fail
    refine (CK.out w5 hH.1).mono ?_
    rintro e w6 ⟨rfl, hb6⟩
    replace hH := hH.next hb6
    clear hb6
    go_wp2_with fail
    refine (FW.out w6 (under B2 hH.1)).mono ?_
    rintro e w7 hh
    obtain ⟨hb7, A7, c7, rfl, hc7, hr7⟩ := hh.open
    have H7 := Lib.hid hr7
    replace hH := hH.next hb7
    clear hh hb7 hr7
    go_wp2_with fail
    refine (ED.out _ _ w7 (H2.out.below hH.1) H7.out).mono ?_
    rintro e w8 ⟨rfl, hb8⟩
    replace hH := hH.next hb8
    clear hb8 H7
    go_wp2_with fail
    refine (RC.out w8 hH.1).mono ?_
    rintro e w9 ⟨rfl, hb9⟩
    replace hH := hH.next hb9
    clear hb9
    obtain ⟨⟨kz0, kc0, kf0⟩, ⟨kz1, kc1, kf1⟩, _⟩ := hH.2
    go_wp2_with fail
    go_ret
    exact ⟨rfl, under (under B2 hH.1) (below_alloc w9 _)⟩
  · obtain ⟨e1, e2, e3, e4⟩ := t1 ga
    rw [e1, e2, e3] at CO
    rw [e1, e4] at FI
    rw [ga] at RC RF
    clear gk hR hne q1 q2 t1 t2 e1 e2 e3 e4 ga
    generalize refLo m = X at *
    generalize refHi m = Y at *
    generalize refFitV m = Z at *
    go_wp2_with fail
    refine (CO.out w2 (Below.refl _ _)).mono ?_
    rintro e w3 ⟨rfl, hb3⟩
    go_wp2_with fail
    have hH : Keeps w2 [(w3.heap.size, 0, .int .i64 X), (w3.heap.size, 1, .int .i64 Y)] (w3.alloc (.cells #[.int .i64 X, .int .i64 Y] 26)) := newK2 (L := []) (Keeps.alloc (L := []) ⟨hb3, trivial⟩ _)
    refine (FI.out _ hH.1).mono ?_
    rintro e w4 ⟨rfl, hb4⟩
    replace hH := hH.next hb4
    clear hb4
    go_wp2_with fail
    refine (RI.out w4 hH.1).mono ?_
    rintro e w5 ⟨rfl, hb5⟩
    replace hH := hH.next hb5
    clear hb5
    go_wp2_with fail
    refine (CK.out w5 hH.1).mono ?_
    rintro e w6 ⟨rfl, hb6⟩
    replace hH := hH.next hb6
    clear hb6
    go_wp2_with fail
    refine (FW.out w6 (under B2 hH.1)).mono ?_
    rintro e w7 hh
    obtain ⟨hb7, A7, c7, rfl, hc7, hr7⟩ := hh.open
    have H7 := Lib.hid hr7
    replace hH := hH.next hb7
    clear hh hb7 hr7
    go_wp2_with fail
    refine (ED.out _ _ w7 (H2.out.below hH.1) H7.out).mono ?_
    rintro e w8 ⟨rfl, hb8⟩
    replace hH := hH.next hb8
    clear hb8 H7
    go_wp2_with fail
    refine (RC.out w8 hH.1).mono ?_
    rintro e w9 ⟨rfl, hb9⟩
    replace hH := hH.next hb9
    clear hb9
    go_wp2_with fail
    have hH2 : Keeps w2 [(w3.heap.size, 0, .int .i64 X), (w3.heap.size, 1, .int .i64 Y), (w9.heap.size, 0, .int .i64 X), (w9.heap.size, 1, .int .i64 Y)] (w9.alloc (.cells #[.int .i64 X, .int .i64 Y] 26)) := (hH.alloc _).app (newK2 (L := []) (Keeps.alloc (L := []) ⟨hH.1, trivial⟩ _))
    refine (RF.out _ hH2.1).mono ?_
    rintro e w10 ⟨rfl, hb10⟩
    replace hH2 := hH2.next hb10
    clear hb10
    obtain ⟨⟨kz0, kc0, kf0⟩, ⟨kz1, kc1, kf1⟩, ⟨kz2, kc2, kf2⟩, ⟨kz3, kc3, kf3⟩, _⟩ := hH2.2
    have x1 : (X == X) = true := by simp
    have y1 : (Y == Y) = true := by simp
    have z1 : (Z == Z) = true := by simp
    go_wp2_with fail
    go_ret
    exact ⟨rfl, under B2 hH2.1⟩
end Go.Proofs.Ytmkminaipeodnaa.P8
