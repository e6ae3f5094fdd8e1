/-
  Layer 8: pmc: what is asked of bands, if they may be; Check, Common, Fit and Longest. Conditions: those written at each fact.
-/
import Derived.Test.YtmkminaipeodnaaBdH
namespace Go.Proofs.Ytmkminaipeodnaa.P8
open Go.RowKit Go.Shelf

set_option maxHeartbeats 1000000 in
theorem ofS_any (l : List Bd) (hl : l.length ≤ 9223372036854775807) (K : Nat) (caps : Array Value) (eK : ∀ args w, (callFunc K args).run Try.prog w = .ok (.enter K args) w) (lo hi code : Int) (v : Value) (w : World) (h : ReadsD w v l)
    (hF : okD l = true → ∀ W, Below w.heap.size w W → Calls Try.prog K caps W (Ret W (.tuple #[spV lo hi, .int .i64 code]))) :
    Calls Try.prog 27 #[v, .func (.func K) #[] caps] w (Ret w (if okD l then .tuple #[spV lo hi, .int .i64 code] else .tuple #[spV 0 0, .int .i64 180])) := by
  have hr := h
  obtain ⟨A, c, rfl, _, _⟩ := h
  have BC := Lib.hid (fun W (hb : Below w.heap.size w W) => bcheck_any l hl _ W (hr.below hb))
  clear hr
  cases gk : okD l
  · rw [gk] at BC
    clear hF
    simp only [Bool.false_eq_true, if_false] at BC ⊢
    clear gk
    go_enter Try.func27, Try.ntmps27
    go_wp2_with fail
    refine (BC.out _ (below_alloc w _)).mono ?_
    rintro en w1 ⟨rfl, hb1⟩
    have hHeld : Keeps w [(w.heap.size, 0, .int .i64 0), (w.heap.size, 1, .int .i64 0)] w1 := Keeps.next (by refine ⟨below_alloc w _, ?_⟩; simp [Cells, go_sem]) hb1
    clear hb1
    obtain ⟨⟨kz0, kc0, kf0⟩, ⟨kz1, kc1, kf1⟩, _⟩ := hHeld.2
    go_wp2_with fail
    obtain ⟨d0, d1⟩ := set2 (W := w1) (B := w.heap.size) (u0 := .int .i64 0) (u1 := .int .i64 0) kc0 kc1
    refine bodyPost_ret (v := .tuple #[spV 0 0, .int .i64 180]) (by simp [results, Try.results27, go_sem, d0, d1, kz0]) rfl ?_
    exact ⟨rfl, under ((hHeld.1.setCell (p := ⟨w.heap.size, 0, none⟩) (Nat.le_refl _) _).setCell (p := ⟨w.heap.size, 1, none⟩) (Nat.le_refl _) _) (below_alloc _ _)⟩
  · have HF := Lib.hid (hF gk)
    rw [gk] at BC
    simp only [if_true] at BC ⊢
    clear hF gk
    go_enter Try.func27, Try.ntmps27
    go_wp2_with fail
    refine (BC.out _ (below_alloc w _)).mono ?_
    rintro en w1 ⟨rfl, hb1⟩
    have hHeld : Keeps w [(w.heap.size, 0, .int .i64 0), (w.heap.size, 1, .int .i64 0)] w1 := Keeps.next (by refine ⟨below_alloc w _, ?_⟩; simp [Cells, go_sem]) hb1
    have HF1 := Lib.hid (HF.out w1 hHeld.1)
    clear hb1 HF
    go_wp2_with fail
    refine HF1.out.mono ?_
    rintro en w2 ⟨rfl, hb2⟩
    replace hHeld := hHeld.next hb2
    clear hb2
    obtain ⟨⟨kz0, kc0, kf0⟩, ⟨kz1, kc1, kf1⟩, _⟩ := hHeld.2
    go_wp2_with fail
    obtain ⟨d0, d1⟩ := set2 (W := w2) (B := w.heap.size) (u0 := .int .i64 lo) (u1 := .int .i64 hi) kc0 kc1
    refine bodyPost_ret (v := .tuple #[spV lo hi, .int .i64 code]) (by simp [results, Try.results27, go_sem, d0, d1]) rfl ?_
    exact ⟨rfl, (hHeld.1.setCell (p := ⟨w.heap.size, 0, none⟩) (Nat.le_refl _) _).setCell (p := ⟨w.heap.size, 1, none⟩) (Nat.le_refl _) _⟩
theorem codeC_bad {l : List Bd} (h : okD l = false) : codeC l = 180 ∧ comLo l = 0 ∧ comHi l = 0 := by simp [codeC, comLo, comHi, h]
set_option maxHeartbeats 1000000 in
theorem common_any (l : List Bd) (hl : l.length ≤ 9223372036854775807) (v : Value) (w : World) (h : ReadsD w v l) :
    Calls Try.prog 12 #[v] w (Ret w (.tuple #[spV (comLo l) (comHi l), .int .i64 (codeC l)])) := by
  have hr := h
  obtain ⟨A, c, rfl, _, _⟩ := h
  have hmf := makes_func
  have HF := Lib.hid (fun W (hb : Below w.heap.size w W) (hbx : Boxed W w.heap.size 22 (.slice A l.length c)) => ofS_any l hl 28 #[.pointer (some ⟨w.heap.size, 0, none⟩)] (enters_of Try.func28 (by kernel_rfl) rfl) (comLo l) (comHi l) (codeC l) (.slice A l.length c) W (hr.below hb)
    (fun gk W' hb' => common1_any l gk (.slice A l.length c) W' w.heap.size ((hb'.block _ hbx.lt).trans hbx) ((hr.below hb).below hb')))
  have HE : Hid ((if okD l then Value.tuple #[spV (comLo l) (comHi l), .int .i64 (codeC l)] else .tuple #[spV 0 0, .int .i64 180]) = .tuple #[spV (comLo l) (comHi l), .int .i64 (codeC l)]) := Lib.hid (by
    cases gk : okD l
    · obtain ⟨h1, h2, h3⟩ := codeC_bad gk
      rw [h1, h2, h3]; rfl
    · rfl)
  clear hr
  generalize comLo l = x at *
  generalize comHi l = y at *
  generalize codeC l = e at *
  go_enter Try.func12, Try.ntmps12
  go_wp2_with fail
  have hb : Below w.heap.size w ((w.alloc (.cells #[.slice A l.length c] 22)).alloc (.cells #[.int .i64 0, .int .i64 0] 26)) := ((Below.refl _ w).alloc (Nat.le_refl _) _).alloc (by simp) _
  have HF1 := HF.out _ hb ((Boxed.new w _ _).alloc _)
  rw [HE.out] at HF1
  refine HF1.mono ?_
  rintro en w1 ⟨rfl, hb1⟩
  have hHeld : Keeps w [(w.heap.size + 1, 0, .int .i64 0), (w.heap.size + 1, 1, .int .i64 0)] w1 := Keeps.next (by refine ⟨hb, ?_⟩; simp [Cells, go_sem]) hb1
  clear hb1 HF1
  obtain ⟨⟨kz0, kc0, kf0⟩, ⟨kz1, kc1, kf1⟩, _⟩ := hHeld.2
  go_wp2_with fail
  obtain ⟨d0, d1⟩ := set2 (W := w1) (B := w.heap.size + 1) (u0 := .int .i64 x) (u1 := .int .i64 y) kc0 kc1
  refine bodyPost_ret (v := .tuple #[spV x y, .int .i64 e]) (by simp [results, Try.results12, go_sem, d0, d1]) rfl ?_
  exact ⟨rfl, (hHeld.1.setCell (p := ⟨w.heap.size + 1, 0, none⟩) (by simp) _).setCell (p := ⟨w.heap.size + 1, 1, none⟩) (by simp) _⟩
/-- The constant that is told. -/
def fitD (l : List Bd) : Int := if codeC l = 0 then (comLo l + comHi l) / 2 else 0
set_option maxHeartbeats 1000000 in
theorem fit_any (l : List Bd) (hl : l.length ≤ 9223372036854775807) (hlo : comLo l ≤ comHi l) (h1 : -9223372036854775808 ≤ comLo l) (h2 : comHi l ≤ 9223372036854775807) (v : Value) (w : World) (h : ReadsD w v l) :
    Calls Try.prog 13 #[v] w (Ret w (.tuple #[.int .i64 (fitD l), .int .i64 (codeC l)])) := by
  have CA := Lib.hid (common_any l hl v w h)
  have MA := Lib.hid (fun W => middle_any (comLo l) (comHi l) h1 h2 W)
  rw [if_neg (by omega), if_neg (by omega)] at MA
  obtain ⟨A, c, rfl, _, _⟩ := h
  by_cases g : codeC l = 0
  · have HE : Hid (fitD l = (comLo l + comHi l) / 2) := Lib.hid (by simp [fitD, g])
    rw [g] at CA ⊢
    rw [← HE.out] at MA
    clear HE g h1 h2 hlo
    generalize comLo l = x at *
    generalize comHi l = y at *
    generalize fitD l = z at *
    go_enter Try.func13, Try.ntmps13
    go_wp2_with fail
    refine CA.out.mono ?_
    rintro en w1 ⟨rfl, hb1⟩
    go_wp2_with fail
    refine (MA.out _).mono ?_
    rintro en w2 ⟨rfl, hb2⟩
    go_wp2_with fail
    go_returns
    exact ⟨rfl, under (under hb1 (below_alloc w1 _)) hb2⟩
  · have HE : Hid (fitD l = 0) := Lib.hid (by simp [fitD, g])
    clear MA h1 h2 hlo
    generalize comLo l = x at *
    generalize comHi l = y at *
    generalize codeC l = e at *
    have g1 : (e == 0) = false := beq_eq_false_iff_ne.2 g
    go_enter Try.func13, Try.ntmps13
    go_wp2_with fail
    refine CA.out.mono ?_
    rintro en w1 ⟨rfl, hb1⟩
    go_wp2_with fail
    go_returns
    exact ⟨by rw [HE.out]; try rfl, under hb1 (below_alloc w1 _)⟩
set_option maxHeartbeats 1000000 in
theorem longest1_any (l : List Bd) (hk : okD l = true) (v : Value) (W : World) (B : Nat) (hb : Boxed W B 22 v) (h : ReadsD W v l) :
    Calls Try.prog 35 #[.pointer (some ⟨B, 0, none⟩)] W (Ret W (.tuple #[.int .i64 (lenD l), .int .i64 0])) := by
  obtain ⟨h1, h2, hR⟩ := okD_facts hk
  have hne := okD_ne hk
  have hr := h
  obtain ⟨A, c, rfl, _, _⟩ := h
  obtain ⟨bb, off, rfl⟩ := readsD_some hr hne
  have FA := Lib.hid (first_any l (by omega) hR hne bb off c W hr)
  have hc := hb.cell
  have HE : Hid (lenD l = (firstD l).n) := Lib.hid (by simp [lenD, hk])
  clear hr hR h1 h2 hne hk hb
  generalize lenD l = x at *
  generalize firstD l = q at *
  obtain ⟨f, n, lo, hi⟩ := q
  simp only at FA HE
  go_enter Try.func35, Try.ntmps35
  go_wp2_with fail
  refine FA.out.mono ?_
  rintro en w1 ⟨rfl, hb1⟩
  go_wp2_with fail
  go_returns
  exact ⟨by rw [HE.out]; try rfl, under hb1 (below_alloc w1 _)⟩
set_option maxHeartbeats 1000000 in
theorem ofI_any (l : List Bd) (hl : l.length ≤ 9223372036854775807) (K : Nat) (caps : Array Value) (eK : ∀ args w, (callFunc K args).run Try.prog w = .ok (.enter K args) w) (x code : Int) (v : Value) (w : World) (h : ReadsD w v l)
    (hF : okD l = true → ∀ W, Below w.heap.size w W → Calls Try.prog K caps W (Ret W (.tuple #[.int .i64 x, .int .i64 code]))) :
    Calls Try.prog 34 #[v, .func (.func K) #[] caps] w (Ret w (if okD l then .tuple #[.int .i64 x, .int .i64 code] else .tuple #[.int .i64 0, .int .i64 180])) := by
  have hr := h
  obtain ⟨A, c, rfl, _, _⟩ := h
  have BC := Lib.hid (bcheck_any l hl _ w hr)
  clear hr
  cases gk : okD l
  · rw [gk] at BC
    clear hF
    simp only [Bool.false_eq_true, if_false] at BC ⊢
    clear gk
    go_enter Try.func34, Try.ntmps34
    go_wp2_with fail
    refine BC.out.mono ?_
    rintro en w1 ⟨rfl, hb1⟩
    go_wp2_with fail
    go_returns
    exact ⟨rfl, hb1⟩
  · have HF := Lib.hid (hF gk)
    rw [gk] at BC
    simp only [if_true] at BC ⊢
    clear hF gk
    go_enter Try.func34, Try.ntmps34
    go_wp2_with fail
    refine BC.out.mono ?_
    rintro en w1 ⟨rfl, hb1⟩
    have HF1 := Lib.hid (HF.out w1 hb1)
    go_wp2_with fail
    refine HF1.out.mono ?_
    rintro en w2 ⟨rfl, hb2⟩
    go_wp2_with fail
    go_returns
    exact ⟨rfl, under hb1 hb2⟩
set_option maxHeartbeats 1000000 in
theorem longest_any (l : List Bd) (hl : l.length ≤ 9223372036854775807) (v : Value) (w : World) (h : ReadsD w v l) :
    Calls Try.prog 19 #[v] w (Ret w (.tuple #[.int .i64 (lenD l), .int .i64 (if okD l then 0 else 180)])) := by
  have hr := h
  obtain ⟨A, c, rfl, _, _⟩ := h
  have hmf := makes_func
  have HF := Lib.hid (fun W (hb : Below w.heap.size w W) (hbx : Boxed W w.heap.size 22 (.slice A l.length c)) => ofI_any l hl 35 #[.pointer (some ⟨w.heap.size, 0, none⟩)] (enters_of Try.func35 (by kernel_rfl) rfl) (lenD l) 0 (.slice A l.length c) W (hr.below hb)
    (fun gk W' hb' => longest1_any l gk (.slice A l.length c) W' w.heap.size ((hb'.block _ hbx.lt).trans hbx) ((hr.below hb).below hb')))
  have HE : Hid ((if okD l then Value.tuple #[.int .i64 (lenD l), .int .i64 0] else .tuple #[.int .i64 0, .int .i64 180]) = .tuple #[.int .i64 (lenD l), .int .i64 (if okD l then 0 else 180)]) := Lib.hid (by
    cases gk : okD l <;> simp [lenD, gk])
  clear hr
  generalize lenD l = x at *
  obtain ⟨e, he⟩ : ∃ e : Int, (if okD l then 0 else 180) = e := ⟨_, rfl⟩
  rw [he] at HE ⊢
  clear he
  go_enter Try.func19, Try.ntmps19
  go_wp2_with fail
  have hb := below_alloc w (.cells #[.slice A l.length c] 22)
  have HF1 := HF.out _ hb (Boxed.new w _ _)
  rw [HE.out] at HF1
  refine HF1.mono ?_
  rintro en w1 ⟨rfl, hb1⟩
  clear HF1
  go_wp2_with fail
  go_returns
  exact ⟨rfl, under hb hb1⟩
end Go.Proofs.Ytmkminaipeodnaa.P8
