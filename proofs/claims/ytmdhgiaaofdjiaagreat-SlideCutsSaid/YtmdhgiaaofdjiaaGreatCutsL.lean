/-
  The law SlideCuts. Conditions: those written at each fact.
-/
import Derived.Test.YtmdhgiaaofdjiaaGreatDcV
import Derived.Test.YtmdhgiaaofdjiaaGreatDcR
namespace Go.Proofs.YtmdhgiaaofdjiaaGreat.P10
open Go.RowKit Go.Shelf Go.Proofs.YtmdhgiaaofdjiaaGreat.P8

theorem rights_any (l : List Bd) (hl : l.length ≤ 9223372036854775807) (v : Value) (w : World) (h : ReadsD w v l) : Calls Tryz.prog 27 #[v] w (Ret w (.bool (okD l))) := by
  have RI := Lib.hid (refBands_any l hl v w h)
  obtain ⟨A, c, rfl, _, _⟩ := h
  generalize okD l = R at *
  go_enter Tryz.func27, Tryz.ntmps27
  go_wp2_with fail
  refine RI.out.mono ?_
  rintro en w1 ⟨rfl, hb1⟩
  go_wp2_with fail
  go_ret
  exact ⟨rfl, hb1⟩
theorem rowC_reads {B : Nat} {l : List Nat} {v : Value} {W : World} (ho : RowC B l v W) : Reads .i64 W v (l.map (fun n : Nat => (n : Int))) :=
  reads_own (l := l.map (fun n : Nat => (n : Int))) (k := .i64) (by unfold RowC cntV at ho; rw [List.length_map, List.map_map]; exact ho)
set_option maxRecDepth 100000 in
set_option maxHeartbeats 8000000 in
theorem lawCuts_any (l : List Bd) (hl : l.length ≤ 9223372036854775807) (v : Value) (w : World) (h : ReadsD w v l) : Calls Tryz.prog 7 #[v] w (Ret w (.bool true)) := by
  have WK := Lib.hid wakes_any
  have FW := Lib.hid (fun W (hb : Below w.heap.size w W) => (show Calls Tryz.prog 24 #[v, .int .i64 60] W (LaidD W (l.take 60)) from few_any l hl 60 (by decide) v W (h.below hb)))
  obtain ⟨A, c, rfl, _, _⟩ := h
  have hml : (l.take 60).length ≤ 60 := by rw [List.length_take]; omega
  generalize l.take 60 = m at *
  go_enter Tryz.func7, Tryz.ntmps7
  go_wp2_with fail
  refine (WK.out _).mono ?_
  rintro en w1 ⟨rfl, hb1⟩
  go_wp2_with fail
  refine (FW.out w1 hb1).mono ?_
  rintro en w2 hh
  obtain ⟨hb2, A2, c2, rfl, hc2, hr2⟩ := hh.open
  have HB2 := Lib.hid (under hb1 hb2)
  have H2 := Lib.hid hr2
  have LO := Lib.hid (longest_any m (by omega) _ w2 hr2)
  have CU := Lib.hid (fun W (hb : Below w2.heap.size w2 W) => cut_any m (by omega) _ W (H2.out.below hb))
  have RI := Lib.hid (fun W (hb : Below w2.heap.size w2 W) => rights_any m (by omega) _ W (H2.out.below hb))
  clear hh hb1 hb2 WK hr2
  go_wp2_with fail
  refine LO.out.mono ?_
  rintro en w3 ⟨rfl, hb3⟩
  have HB3 := Lib.hid hb3
  clear hb3 LO
  go_wp2_with fail
  refine (CU.out _ HB3.out).mono ?_
  rintro en w4 ⟨hb4, A4, n4, c4, rfl, ho4⟩
  have HO4 := Lib.hid ho4
  have HB4 := Lib.hid (under HB3.out hb4)
  clear ho4 hb4 CU HB3
  go_wp2_with fail
  refine (RI.out _ HB4.out).mono ?_
  rintro en w5 ⟨rfl, hb5⟩
  have HO5 := Lib.hid (owns_below HO4.out hb5)
  have HB5 := Lib.hid (under HB4.out hb5)
  clear hb5 RI HB4 HO4
  cases gk : okD m
  · have e1 : codeS m = 180 ∧ lonN m = 0 ∧ rowS m = [] := by simp [codeS, lonN, rowS, gk]
    rw [e1.2.2] at HO5
    have e4 : n4 = 0 := by
      rcases HO5.out.2 with ⟨h, _⟩ | ⟨g', cap, cur, h, _⟩
      · simp at h; exact h.2.1
      · simp at h; exact h.2.1
    rw [e1.1, e1.2.1]
    clear e1 gk HO5
    subst e4
    go_wp2_with fail
    go_ret
    exact ⟨by simp, under HB2.out HB5.out⟩
  · have e1 : codeS m = 0 ∧ lonN m = (firN m : Int) ∧ rowS m = cutN m := by simp [codeS, lonN, rowS, gk]
    rw [e1.2.2] at HO5
    rw [e1.1, e1.2.1]
    have HR := Lib.hid (row_ok gk)
    have RL := Lib.hid (refLongest_any m (by omega) HR.out _ w5 (H2.out.below HB5.out))
    have RC := Lib.hid (fun W (hb : Below w2.heap.size w2 W) => refCut_any m (by omega) HR.out _ W (H2.out.below hb))
    have HP := Lib.hid (rowC_reads HO5.out)
    have hcl : (cutN m).length ≤ 60 := Nat.le_trans (cut_le _ m (Nat.le_refl _)) hml
    have HEQ := Lib.hid (fun (v v2 : Value) (W : World) h1 h2 => equalN ((cutN m).map (fun n : Nat => (n : Int))) (by rw [List.length_map]; omega) v v2 W h1 h2)
    generalize firN m = N at *
    clear e1 gk HO5 HR
    go_wp2_with fail
    refine RL.out.mono ?_
    rintro en w6 ⟨rfl, hb6⟩
    have HB6 := Lib.hid (under HB5.out hb6)
    have HP6 := Lib.hid (HP.out.below hb6)
    clear hb6 RL HP HB5
    go_wp2_with fail
    refine (RC.out _ HB6.out).mono ?_
    rintro en w7 ⟨hb7, A7, n7, c7, rfl, ho7⟩
    have HB7 := Lib.hid (under HB6.out hb7)
    have EQ := Lib.hid (HEQ.out _ _ w7 (HP6.out.below hb7) (rowC_reads ho7))
    clear hb7 ho7 RC HB6 HP6 HEQ
    go_wp2_with fail
    refine EQ.out.mono ?_
    rintro en w8 ⟨rfl, hb8⟩
    have HB8 := Lib.hid (under HB7.out hb8)
    clear hb8 EQ HB7
    go_wp2_with fail
    refine (FW.out _ (under HB2.out HB8.out)).mono ?_
    rintro en w9 hh
    obtain ⟨hb9, A9, c9, rfl, hc9, hr9⟩ := hh.open
    have HB9 := Lib.hid (under HB8.out hb9)
    have ED := Lib.hid (equalD m (by omega) _ _ w9 (H2.out.below HB9.out) hr9)
    clear hh hb9 hr9 FW HB8
    go_wp2_with fail
    refine ED.out.mono ?_
    rintro en w10 ⟨rfl, hb10⟩
    go_wp2_with fail
    go_ret
    exact ⟨by simp, under HB2.out (under HB9.out hb10)⟩
end Go.Proofs.YtmdhgiaaofdjiaaGreat.P10
