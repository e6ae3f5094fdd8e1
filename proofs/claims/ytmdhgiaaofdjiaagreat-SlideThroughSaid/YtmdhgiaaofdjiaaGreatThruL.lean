/-
  The law SlideThrough. Conditions: those written at each fact.
-/
import Derived.Test.YtmdhgiaaofdjiaaGreatThrR
namespace Go.Proofs.YtmdhgiaaofdjiaaGreat.P10
open Go.RowKit Go.Shelf Go.Proofs.YtmdhgiaaofdjiaaGreat.P8

theorem rows_times {l : List Bd} (h : RowOk l) : ∀ b ∈ l, BdOk b ∧ headT l ≤ b.t := by
  intro b hb
  obtain ⟨x, m, rfl⟩ := List.exists_cons_of_ne_nil (List.ne_nil_of_mem hb)
  refine ⟨h.1 b hb, ?_⟩
  show x.t ≤ b.t
  rcases List.mem_cons.1 hb with rfl | hb
  · exact Int.le_refl _
  · exact Int.le_of_lt ((List.pairwise_cons.1 h.2).1 b hb)
theorem right_any (l : List Bd) (hl : l.length ≤ 9223372036854775807) (v : Value) (w : World) (h : ReadsD w v l) : Calls Tryz.prog 27 #[v] w (Ret w (.bool (okD l))) := by
  have RI := Lib.hid (refBands_any l hl v w h)
  obtain ⟨A, c, rfl, _, _⟩ := h
  generalize okD l = R at *
  go_enter Tryz.func27, Tryz.ntmps27
  go_wp2_with fail
  refine RI.out.mono ?_
  rintro en w1 ⟨rfl, hb1⟩
  go_wp2_with fail
  go_ret
  exact ⟨rfl, hb1⟩
set_option maxRecDepth 100000 in
set_option maxHeartbeats 8000000 in
theorem lawThru_any (a r n d : Int) (l : List Bd) (hl : l.length ≤ 9223372036854775807) (v : Value) (w : World) (h : ReadsD w v l) : Calls Tryz.prog 6 #[v, lnV a r n d] w (Ret w (.bool true)) := by
  have WK := Lib.hid wakes_any
  have FW := Lib.hid (fun W (hb : Below w.heap.size w W) => (show Calls Tryz.prog 24 #[v, .int .i64 257] W (LaidD W (l.take 257)) from few_any l hl 257 (by decide) v W (h.below hb)))
  obtain ⟨A, c, rfl, _, _⟩ := h
  have hml : (l.take 257).length ≤ 257 := by rw [List.length_take]; omega
  generalize l.take 257 = m at *
  go_enter Tryz.func6, Tryz.ntmps6
  have hH0 : Hid (Keeps w [(w.heap.size, 0, .int .i64 a), (w.heap.size, 1, .int .i64 r), (w.heap.size, 2, .int .i64 n), (w.heap.size, 3, .int .i64 d)] (w.alloc (.cells #[.int .i64 a, .int .i64 r, .int .i64 n, .int .i64 d] 23))) :=
    Lib.hid ⟨below_alloc w _, by simp [Cells, go_sem]⟩
  go_wp2_with fail
  refine (WK.out _).mono ?_
  rintro en w1 ⟨rfl, hb1⟩
  have H1 := Lib.hid (hH0.out.next hb1)
  clear hH0 hb1
  go_wp2_with fail
  refine (FW.out w1 H1.out.1).mono ?_
  rintro en w2 hh
  obtain ⟨hb2, A2, c2, rfl, hc2, hr2⟩ := hh.open
  have HB2 := Lib.hid (H1.out.next hb2)
  have H2 := Lib.hid hr2
  have RI := Lib.hid (right_any m (by omega) _ w2 hr2)
  have TH := Lib.hid (fun W (hb : Below w2.heap.size w2 W) => thr_any a r n d m (by omega) _ W (H2.out.below hb))
  have LR := Lib.hid (fun W => Go.Proofs.YtmdhgiaaofdjiaaGreat.refRight_any a r n d W)
  have RT := Lib.hid (fun (hk : okD m = true) (hL : lineB a r n d = true) W (hb : Below w2.heap.size w2 W) => refThrough_any a r n d hL m (by omega) (rows_times (row_ok hk)) _ W (H2.out.below hb))
  have TR := Lib.hid (fun (hk : okD m = true) => thr_right (a := a) (r := r) (n := n) (d := d) hk)
  have TN : Hid (okD m = false → thrB a r n d m = false) := Lib.hid (fun hk => by simp [thrB, hk])
  have HK2 := Lib.hid (show Keeps w2 [(w.heap.size, 0, .int .i64 a), (w.heap.size, 1, .int .i64 r), (w.heap.size, 2, .int .i64 n), (w.heap.size, 3, .int .i64 d)] w2 from ⟨Below.refl _ _, HB2.out.2⟩)
  clear hh hb2 WK H1 hr2
  go_upto_region 4 with (fail)
  go_cut [6] (fun s6 wx => s6 = .bool (thrB a r n d m) ∧ Hid (Keeps w2 [(w.heap.size, 0, .int .i64 a), (w.heap.size, 1, .int .i64 r), (w.heap.size, 2, .int .i64 n), (w.heap.size, 3, .int .i64 d)] wx))
  case first =>
    clear TH
    go_wp2_with fail
    refine RI.out.mono ?_
    rintro en w3 ⟨rfl, hb3⟩
    have HK3 := Lib.hid (HK2.out.next hb3)
    obtain ⟨⟨kz0, kc0, kf0⟩, ⟨kz1, kc1, kf1⟩, ⟨kz2, kc2, kf2⟩, ⟨kz3, kc3, kf3⟩, _⟩ := HK3.out.2
    clear hb3 HK2 RI
    cases gk : okD m
    · have E := Lib.hid (TN.out gk)
      clear RT TR TN gk
      go_wp2_with fail
      go_meet
      case rel => exact ⟨by rw [E.out], HK3⟩
    · have RT2 := Lib.hid (RT.out gk)
      have E := Lib.hid (TR.out gk)
      clear RT TR TN gk
      cases gl : lineB a r n d
      · rw [gl] at LR E
        have E2 : Hid (thrB a r n d m = false) := Lib.hid (by rw [E.out]; rfl)
        clear RT2 gl E
        go_wp2_with fail
        refine (LR.out _).mono ?_
        rintro en w4 ⟨rfl, hb4⟩
        have HK4 := Lib.hid (HK3.out.next hb4)
        go_wp2_with fail
        go_meet
        case rel => exact ⟨by rw [E2.out], HK4⟩
      · rw [gl] at LR E
        have RT3 := Lib.hid (RT2.out gl)
        have E2 : Hid (thrB a r n d m = goesB a r n d (headT m) m) := Lib.hid (by rw [E.out, Bool.true_and])
        clear RT2 gl E
        generalize goesB a r n d (headT m) m = G at *
        go_wp2_with fail
        refine (LR.out _).mono ?_
        rintro en w4 ⟨rfl, hb4⟩
        have HK4 := Lib.hid (HK3.out.next hb4)
        clear kz0 kc0 kf0 kz1 kc1 kf1 kz2 kc2 kf2 kz3 kc3 kf3 hb4 HK3 LR
        obtain ⟨⟨kz0, kc0, kf0⟩, ⟨kz1, kc1, kf1⟩, ⟨kz2, kc2, kf2⟩, ⟨kz3, kc3, kf3⟩, _⟩ := HK4.out.2
        go_wp2_with fail
        refine (RT3.out _ HK4.out.1).mono ?_
        rintro en w5 ⟨rfl, hb5⟩
        have HK5 := Lib.hid (HK4.out.next hb5)
        go_wp2_with fail
        go_meet
        case rel => exact ⟨by rw [E2.out], HK5⟩
  case rest =>
    obtain ⟨rfl, HK5⟩ := hcut
    clear RI RT TR TN LR HK2
    obtain ⟨⟨kz0, kc0, kf0⟩, ⟨kz1, kc1, kf1⟩, ⟨kz2, kc2, kf2⟩, ⟨kz3, kc3, kf3⟩, _⟩ := HK5.out.2
    generalize thrB a r n d m = G at *
    go_wp2_with fail
    refine (TH.out _ HK5.out.1).mono ?_
    rintro en w6 ⟨rfl, hb6⟩
    have HK6 := Lib.hid (HK5.out.next hb6)
    clear kz0 kc0 kf0 kz1 kc1 kf1 kz2 kc2 kf2 kz3 kc3 kf3 hb6 HK5 TH
    go_wp2_with fail
    refine (FW.out _ (under HB2.out.1 HK6.out.1)).mono ?_
    rintro en w7 hh
    obtain ⟨hb7, A7, c7, rfl, hc7, hr7⟩ := hh.open
    have HB7 := Lib.hid (under HK6.out.1 hb7)
    have EQ := Lib.hid (equalD m (by omega) _ _ w7 (H2.out.below HB7.out) hr7)
    clear hh hb7 hr7 FW HK6
    go_wp2_with fail
    refine EQ.out.mono ?_
    rintro en w8 ⟨rfl, hb8⟩
    go_wp2_with fail
    go_ret
    exact ⟨by simp, under HB2.out.1 (under HB7.out hb8)⟩
end Go.Proofs.YtmdhgiaaofdjiaaGreat.P10
