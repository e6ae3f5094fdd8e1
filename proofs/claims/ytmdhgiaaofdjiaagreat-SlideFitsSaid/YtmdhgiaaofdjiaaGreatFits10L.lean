/-
  The law SlideFits. Conditions: those written at each fact.
-/
import Derived.Test.YtmdhgiaaofdjiaaGreatDcG
import Derived.Test.YtmdhgiaaofdjiaaGreatDcR
namespace Go.Proofs.YtmdhgiaaofdjiaaGreat.P10
open Go.RowKit Go.Shelf Go.Proofs.YtmdhgiaaofdjiaaGreat.P8

theorem rightF_any (l : List Bd) (hl : l.length ≤ 9223372036854775807) (v : Value) (w : World) (h : ReadsD w v l) : Calls Tryz.prog 27 #[v] w (Ret w (.bool (okD l))) := by
  have RI := Lib.hid (refBands_any l hl v w h)
  obtain ⟨A, c, rfl, _, _⟩ := h
  generalize okD l = R at *
  go_enter Tryz.func27, Tryz.ntmps27
  go_wp2_with fail
  refine RI.out.mono ?_
  rintro en w1 ⟨rfl, hb1⟩
  go_wp2_with fail
  go_ret
  exact ⟨rfl, hb1⟩
/-- Both tell the same slopes. -/
theorem slo_same {l : List Bd} (hk : okD l = true) : (shutS (allS l) = true ∧ fitE l = 181 ∧ sloR l = ⟨0, 0, 0, 0⟩ ∧ sloS l = ⟨0, 0, 0, 0⟩ ∧ fitA l = 0 ∧ fitR l = 0 ∧ fitN l = 0 ∧ fitD l = 0) ∨ (shutS (allS l) = false ∧ fitE l = 0 ∧ sloR l = sloS l) := by
  have hai := all_iff (row_ok hk)
  cases gs : shutS (allS l)
  · rw [gs] at hai
    have h1 := of_decide_eq_false hai.symm
    have h2 := (firN_le (okD_ne hk)).2
    have hn : firN l = l.length := by omega
    have e : fitE l = 0 := by simp [fitE, hk, hn]
    exact .inr ⟨rfl, e, by rw [sloR, gs, sloS, if_pos e, firS, hn, List.take_length]; rfl⟩
  · rw [gs] at hai
    have hn := of_decide_eq_true hai.symm
    have e : fitE l = 181 := by simp [fitE, hk, hn]
    exact .inl ⟨rfl, e, by simp [sloR, gs], by simp [sloS, e, none0], by simp [fitA, e], by simp [fitR, e], by simp [fitN, e], by simp [fitD, e]⟩
set_option maxRecDepth 100000 in
set_option maxHeartbeats 8000000 in
theorem lawFits_any (l : List Bd) (hl : l.length ≤ 9223372036854775807) (v : Value) (w : World) (h : ReadsD w v l) : Calls Tryz.prog 5 #[v] w (Ret w (.bool true)) := by
  have WK := Lib.hid wakes_any
  have FW := Lib.hid (fun W (hb : Below w.heap.size w W) => (show Calls Tryz.prog 24 #[v, .int .i64 60] W (LaidD W (l.take 60)) from few_any l hl 60 (by decide) v W (h.below hb)))
  obtain ⟨A, c, rfl, _, _⟩ := h
  have hml : (l.take 60).length ≤ 60 := by rw [List.length_take]; omega
  generalize l.take 60 = m at *
  go_enter Tryz.func5, Tryz.ntmps5
  go_wp2_with fail
  refine (WK.out _).mono ?_
  rintro en w1 ⟨rfl, hb1⟩
  go_wp2_with fail
  refine (FW.out w1 hb1).mono ?_
  rintro en w2 hh
  obtain ⟨hb2, A2, c2, rfl, hc2, hr2⟩ := hh.open
  have HB2 := Lib.hid (under hb1 hb2)
  have H2 := Lib.hid hr2
  have SL := Lib.hid (fun W (hb : Below w2.heap.size w2 W) => slopes_any m (by omega) _ W (H2.out.below hb))
  have FA := Lib.hid (fun W (hb : Below w2.heap.size w2 W) => fit_any m (by omega) _ W (H2.out.below hb))
  have RI := Lib.hid (fun W (hb : Below w2.heap.size w2 W) => rightF_any m (by omega) _ W (H2.out.below hb))
  have RS := Lib.hid (fun (hk : okD m = true) W (hb : Below w2.heap.size w2 W) => refSlopes_any m (by omega) (row_ok hk) _ W (H2.out.below hb))
  have RF := Lib.hid (fun (hk : okD m = true) W (hb : Below w2.heap.size w2 W) => refFit_any m hk _ W (H2.out.below hb))
  have SS := Lib.hid (fun (hk : okD m = true) => slo_same hk)
  have SN : Hid (okD m = false → fitE m = 180 ∧ sloS m = ⟨0, 0, 0, 0⟩ ∧ fitA m = 0 ∧ fitR m = 0 ∧ fitN m = 0 ∧ fitD m = 0) := Lib.hid (fun hk => by
    have e : fitE m = 180 := by simp [fitE, hk]
    exact ⟨e, by simp [sloS, e, none0], by simp [fitA, e], by simp [fitR, e], by simp [fitN, e], by simp [fitD, e]⟩)
  clear hh hb1 hb2 WK hr2
  generalize fitA m = x0 at *
  generalize fitR m = x1 at *
  generalize fitN m = x2 at *
  generalize fitD m = x3 at *
  generalize fitE m = ee at *
  generalize sloS m = s at *
  obtain ⟨p1, p2, p3, p4⟩ := s
  simp only at SL
  go_wp2_with fail
  refine (SL.out _ (Below.refl _ _)).mono ?_
  rintro en w3 ⟨rfl, hb3⟩
  have h3 := ((show Keeps w2 [] w3 from ⟨hb3, trivial⟩).alloc (.cells #[.int .i64 p1, .int .i64 p2] 45)).alloc (.cells #[.int .i64 p3, .int .i64 p4] 45)
  have HK3 := Lib.hid (show Keeps w2 [(w3.heap.size, 0, .int .i64 p1), (w3.heap.size, 1, .int .i64 p2), (w3.heap.size + 1, 0, .int .i64 p3), (w3.heap.size + 1, 1, .int .i64 p4)] _ from ⟨h3.1, by simp [Cells, go_sem]⟩)
  clear h3 hb3 SL
  go_wp2_with fail
  refine (FA.out _ HK3.out.1).mono ?_
  rintro en w4 ⟨rfl, hb4⟩
  have h4 := (HK3.out.next hb4).alloc (.cells #[.int .i64 x0, .int .i64 x1, .int .i64 x2, .int .i64 x3] 23)
  have HK4 := Lib.hid (Keeps.app (newK4 h4) h4)
  clear h4 hb4 FA HK3
  go_upto_region 6 with (fail)
  have hHs : Keeps w2 [(w4.heap.size, 0, .int .i64 x0), (w4.heap.size, 1, .int .i64 x1), (w4.heap.size, 2, .int .i64 x2), (w4.heap.size, 3, .int .i64 x3), (w3.heap.size, 0, .int .i64 p1), (w3.heap.size, 1, .int .i64 p2), (w3.heap.size + 1, 0, .int .i64 p3), (w3.heap.size + 1, 1, .int .i64 p4)] (w4.alloc (.cells #[.int .i64 x0, .int .i64 x1, .int .i64 x2, .int .i64 x3] 23)) := HK4.out
  generalize w4.alloc (.cells #[.int .i64 x0, .int .i64 x1, .int .i64 x2, .int .i64 x3] 23) = wi at hHs ⊢
  generalize w4.heap.size = gx at *
  generalize w3.heap.size = ga at *
  clear HK4
  have HKi := Lib.hid hHs
  clear hHs
  go_wp2_with fail
  refine (RI.out _ HKi.out.1).mono ?_
  rintro en w5 ⟨rfl, hb5⟩
  have HK5 := Lib.hid (HKi.out.next hb5)
  clear hb5 RI HKi
  cases gk : okD m
  · obtain ⟨e0, e1, e2, e3, e4, e5⟩ := SN.out gk
    cases e1
    subst e0 e2 e3 e4 e5
    obtain ⟨⟨kz0, kc0, kf0⟩, ⟨kz1, kc1, kf1⟩, ⟨kz2, kc2, kf2⟩, ⟨kz3, kc3, kf3⟩, ⟨kz4, kc4, kf4⟩, ⟨kz5, kc5, kf5⟩, ⟨kz6, kc6, kf6⟩, ⟨kz7, kc7, kf7⟩, _⟩ := HK5.out.2
    have HBW := Lib.hid (under HB2.out HK5.out.1)
    clear SN SS RS RF FW gk HK5
    go_wp2_with fail
    go_ret
    exact ⟨by simp, HBW.out⟩
  · have RS1 := Lib.hid (RS.out gk)
    have RF1 := Lib.hid (RF.out gk)
    have S1 := Lib.hid (SS.out gk)
    clear SN SS RS RF gk
    go_wp2_with fail
    refine (FW.out _ (under HB2.out HK5.out.1)).mono ?_
    rintro en w6 hh
    obtain ⟨hb6, A6, c6, rfl, hc6, hr6⟩ := hh.open
    have HK6 := Lib.hid (HK5.out.next hb6)
    have ED := Lib.hid (equalD m (by omega) _ _ w6 (H2.out.below HK6.out.1) hr6)
    clear hh hb6 hr6 FW HK5
    go_wp2_with fail
    refine ED.out.mono ?_
    rintro en w7 ⟨rfl, hb7⟩
    have HK7 := Lib.hid (HK6.out.next hb7)
    clear hb7 ED HK6
    rcases S1.out with ⟨s1, s2, s3, s4, s5, s6, s7, s8⟩ | ⟨s1, s2, s3⟩
    · rw [s1, s3] at RS1
      cases s4
      subst s2 s5 s6 s7 s8
      clear S1 s1 s3 RF1
      go_wp2_with fail
      refine (RS1.out _ HK7.out.1).mono ?_
      rintro en w8 ⟨rfl, hb8⟩
      have HK8 := Lib.hid (((HK7.out.next hb8).alloc (.cells #[.int .i64 0, .int .i64 0] 45)).alloc (.cells #[.int .i64 0, .int .i64 0] 45))
      have HBW := Lib.hid (under HB2.out HK8.out.1)
      obtain ⟨⟨kz0, kc0, kf0⟩, ⟨kz1, kc1, kf1⟩, ⟨kz2, kc2, kf2⟩, ⟨kz3, kc3, kf3⟩, ⟨kz4, kc4, kf4⟩, ⟨kz5, kc5, kf5⟩, ⟨kz6, kc6, kf6⟩, ⟨kz7, kc7, kf7⟩, _⟩ := HK8.out.2
      clear HK8 HK7 RS1 hb8
      go_wp2_with fail
      go_ret
      exact ⟨by simp, HBW.out⟩
    · rw [s1, s3] at RS1
      subst s2
      clear S1 s1 s3
      go_wp2_with fail
      refine (RS1.out _ HK7.out.1).mono ?_
      rintro en w8 ⟨rfl, hb8⟩
      have h8 := ((HK7.out.next hb8).alloc (.cells #[.int .i64 p1, .int .i64 p2] 45)).alloc (.cells #[.int .i64 p3, .int .i64 p4] 45)
      have HK8 := Lib.hid (Keeps.app (l := [(w8.heap.size, 0, .int .i64 p1), (w8.heap.size, 1, .int .i64 p2), (w8.heap.size + 1, 0, .int .i64 p3), (w8.heap.size + 1, 1, .int .i64 p4)]) ⟨h8.1, by simp [Cells, go_sem]⟩ h8)
      clear h8 hb8 RS1 HK7
      go_wp2_with fail
      refine (RF1.out _ HK8.out.1).mono ?_
      rintro en w9 ⟨rfl, hb9⟩
      have h9 := (HK8.out.next hb9).alloc (.cells #[.int .i64 x0, .int .i64 x1, .int .i64 x2, .int .i64 x3] 23)
      have HK9 := Lib.hid (Keeps.app (newK4 h9) h9)
      clear h9 hb9 RF1 HK8
      go_upto_region 14 with (fail)
      have HBW := Lib.hid (under HB2.out HK9.out.1)
      have hHs : Keeps w2 [(w9.heap.size, 0, .int .i64 x0), (w9.heap.size, 1, .int .i64 x1), (w9.heap.size, 2, .int .i64 x2), (w9.heap.size, 3, .int .i64 x3), (w8.heap.size, 0, .int .i64 p1), (w8.heap.size, 1, .int .i64 p2), (w8.heap.size + 1, 0, .int .i64 p3), (w8.heap.size + 1, 1, .int .i64 p4), (gx, 0, .int .i64 x0), (gx, 1, .int .i64 x1), (gx, 2, .int .i64 x2), (gx, 3, .int .i64 x3), (ga, 0, .int .i64 p1), (ga, 1, .int .i64 p2), (ga + 1, 0, .int .i64 p3), (ga + 1, 1, .int .i64 p4)] (w9.alloc (.cells #[.int .i64 x0, .int .i64 x1, .int .i64 x2, .int .i64 x3] 23)) := HK9.out
      generalize w9.alloc (.cells #[.int .i64 x0, .int .i64 x1, .int .i64 x2, .int .i64 x3] 23) = wj at *
      generalize w9.heap.size = gy at *
      generalize w8.heap.size = gc at *
      obtain ⟨⟨kz0, kc0, kf0⟩, ⟨kz1, kc1, kf1⟩, ⟨kz2, kc2, kf2⟩, ⟨kz3, kc3, kf3⟩, ⟨kz4, kc4, kf4⟩, ⟨kz5, kc5, kf5⟩, ⟨kz6, kc6, kf6⟩, ⟨kz7, kc7, kf7⟩, ⟨kz8, kc8, kf8⟩, ⟨kz9, kc9, kf9⟩, ⟨kz10, kc10, kf10⟩, ⟨kz11, kc11, kf11⟩, ⟨kz12, kc12, kf12⟩, ⟨kz13, kc13, kf13⟩, ⟨kz14, kc14, kf14⟩, ⟨kz15, kc15, kf15⟩, _⟩ := hHs.2
      clear HK9 hHs
      go_wp2_with fail
      go_ret
      exact ⟨by simp, HBW.out⟩
end Go.Proofs.YtmdhgiaaofdjiaaGreat.P10
