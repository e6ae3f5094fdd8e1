/-
  Layer 10: slide: Fit, Slopes and Longest. Conditions: those written at each fact.
-/
import Derived.Maps.RangeWalk
import Derived.Test.YtoephkglpbophaaGreatSlI
namespace Go.Proofs.YtoephkglpbophaaGreat.P10
open Go.RowKit Go.Shelf Go.Proofs.YtoephkglpbophaaGreat.P8

/-- What Fit, and what Slopes tells. -/
def fitE (l : List Bd) : Int := if okD l then (if firN l < l.length then 181 else 0) else 180
def fitA (l : List Bd) : Int := if fitE l = 0 then lineC l (firS l) / flatE (firS l) else 0
def fitR (l : List Bd) : Int := if fitE l = 0 then lineC l (firS l) % flatE (firS l) else 0
def fitN (l : List Bd) : Int := if fitE l = 0 then flatN (firS l) else 0
def fitD (l : List Bd) : Int := if fitE l = 0 then flatE (firS l) else 0
def sloS (l : List Bd) : Sl := if fitE l = 0 then lowS (firS l) else none0
theorem fit_cases (l : List Bd) : okD l = false ∧ fitE l = 180 ∨ okD l = true ∧ (firN l < l.length ∧ fitE l = 181 ∨ firN l = l.length ∧ fitE l = 0) := by
  cases hk : okD l
  · exact .inl ⟨rfl, by simp [fitE, hk]⟩
  · refine .inr ⟨rfl, ?_⟩
    have h := (firN_le (okD_ne hk)).2
    by_cases g : firN l < l.length
    · exact .inl ⟨g, by simp [fitE, hk, g]⟩
    · exact .inr ⟨by omega, by simp [fitE, hk, g]⟩
theorem flat_all {l : List Bd} (hk : okD l = true) (hn : firN l = l.length) : FlatOk l (firS l) := by
  have hR := row_ok hk
  have hs := firS_ok hR
  have hd := ((slopeB_iff _ _).1 (flat_ok hs).1).2.2.1
  have e : firS l = allS l := by rw [firS, hn, List.take_length]
  refine ⟨okD_ne hk, by have := (okD_facts hk).2.1; omega, hR, hs, firS_open l, ?_⟩
  have := flat_in hs (firS_open l)
  exact ((all_in hR hd).1 (e ▸ this)).2
theorem ReadsD.own {W : World} {A : Option Addr} {c : Nat} {l : List Bd} (h : ReadsD W (.slice A l.length c) l) : ReadsD W (.slice A l.length l.length) l := by
  obtain ⟨_, _, e, _, hk⟩ := h
  cases e
  exact ⟨A, l.length, rfl, Nat.le_refl _, hk⟩
theorem fitall_any (l : List Bd) (hl : l.length ≤ 9223372036854775807) (A : Option Addr) (c : Nat) (w : World) (h : ReadsD w (.slice A l.length c) l) :
    Calls Tryz.prog 28 #[.slice A l.length c, .func (.func 29) #[] #[]] w (Ret w (.tuple #[lnV (fitA l) (fitR l) (fitN l) (fitD l), .int .i64 (fitE l)])) := by
  refine oaX_any l hl (fitA l) (fitR l) (fitN l) (fitD l) (fitE l) A c w h ?_ (fun hk hn W hb => ?_)
  · rcases fit_cases l with ⟨h1, h2⟩ | ⟨h1, h2 | h2⟩
    · exact .inl ⟨h1, by simp [fitA, h2], by simp [fitR, h2], by simp [fitN, h2], by simp [fitD, h2], h2⟩
    · exact .inr ⟨h1, .inl ⟨h2.1, by simp [fitA, h2.2], by simp [fitR, h2.2], by simp [fitN, h2.2], by simp [fitD, h2.2], h2.2⟩⟩
    · exact .inr ⟨h1, .inr h2⟩
  · have hF := flat_all hk hn
    obtain ⟨bb, off, rfl⟩ := readsD_some h hF.ne
    have e : fitE l = 0 := by simp [fitE, hk, hn]
    have := flattest_any l (firS l) hF bb off l.length W (ReadsD.own (h.below hb))
    rw [hn]
    rw [fitA, fitR, fitN, fitD, if_pos e, if_pos e, if_pos e, if_pos e]
    exact this
theorem sloall_any (l : List Bd) (hl : l.length ≤ 9223372036854775807) (A : Option Addr) (c : Nat) (w : World) (h : ReadsD w (.slice A l.length c) l) :
    Calls Tryz.prog 26 #[.slice A l.length c, .func (.methodOf 52 "yearbook/slide.lowest") #[] #[]] w (Ret w (.tuple #[arV (sloS l), .int .i64 (fitE l)])) := by
  refine oaS_any l hl (sloS l).a (sloS l).b (sloS l).c (sloS l).d (fitE l) A c w h ?_ (fun hk hn W hb => ?_)
  · rcases fit_cases l with ⟨h1, h2⟩ | ⟨h1, h2 | h2⟩
    · exact .inl ⟨h1, by simp [sloS, h2, none0], by simp [sloS, h2, none0], by simp [sloS, h2, none0], by simp [sloS, h2, none0], h2⟩
    · exact .inr ⟨h1, .inl ⟨h2.1, by simp [sloS, h2.2, none0], by simp [sloS, h2.2, none0], by simp [sloS, h2.2, none0], by simp [sloS, h2.2, none0], h2.2⟩⟩
    · exact .inr ⟨h1, .inr h2⟩
  · have e : fitE l = 0 := by simp [fitE, hk, hn]
    have := lowest_any (firS l) (firS_ok (row_ok hk)) W
    rw [sloS, if_pos e]
    exact this
set_option maxHeartbeats 1000000 in
theorem fit_any (l : List Bd) (hl : l.length ≤ 9223372036854775807) (v : Value) (w : World) (h : ReadsD w v l) :
    Calls Tryz.prog 12 #[v] w (Ret w (.tuple #[lnV (fitA l) (fitR l) (fitN l) (fitD l), .int .i64 (fitE l)])) := by
  have hr := h
  obtain ⟨A, c, rfl, _, _⟩ := h
  have FA := Lib.hid (fun W (hb : Below w.heap.size w W) => fitall_any l hl A c W (hr.below hb))
  clear hr
  generalize fitA l = x0 at *
  generalize fitR l = x1 at *
  generalize fitN l = x2 at *
  generalize fitD l = x3 at *
  generalize fitE l = e at *
  go_enter Tryz.func12, Tryz.ntmps12
  go_wp2_with fail
  refine (FA.out _ (below_alloc w _)).mono ?_
  rintro en w1 ⟨rfl, hb1⟩
  have hHeld : Keeps w [(w.heap.size, 0, .int .i64 0), (w.heap.size, 1, .int .i64 0), (w.heap.size, 2, .int .i64 0), (w.heap.size, 3, .int .i64 0)] w1 := Keeps.next (by refine ⟨below_alloc w _, ?_⟩; simp [Cells, go_sem]) hb1
  obtain ⟨⟨kz0, kc0, kf0⟩, ⟨kz1, kc1, kf1⟩, ⟨kz2, kc2, kf2⟩, ⟨kz3, kc3, kf3⟩, _⟩ := hHeld.2
  have HK := Lib.hid (hHeld.upd4 (Nat.le_refl _) (by simp) (.int .i64 x0) (.int .i64 x1) (.int .i64 x2) (.int .i64 x3))
  clear hHeld hb1 FA
  go_wp2_with fail
  obtain ⟨hb, ⟨_, d0, _⟩, ⟨_, d1, _⟩, ⟨_, d2, _⟩, ⟨_, d3, _⟩, _⟩ := HK.out
  refine bodyPost_ret (v := .tuple #[lnV x0 x1 x2 x3, .int .i64 e]) (by simp [results, Tryz.results12, go_sem, d0, d1, d2, d3]) rfl ⟨rfl, hb⟩
set_option maxRecDepth 100000 in
set_option maxHeartbeats 2000000 in
theorem slopes_any (l : List Bd) (hl : l.length ≤ 9223372036854775807) (v : Value) (w : World) (h : ReadsD w v l) :
    Calls Tryz.prog 10 #[v] w (Ret w (.tuple #[slV (sloS l).a (sloS l).b, slV (sloS l).c (sloS l).d, .int .i64 (fitE l)])) := by
  have hr := h
  obtain ⟨A, c, rfl, _, _⟩ := h
  have FA := Lib.hid (fun W (hb : Below w.heap.size w W) => sloall_any l hl A c W (hr.below hb))
  have hmf := makes_func
  clear hr
  generalize sloS l = s at *
  obtain ⟨x0, x1, x2, x3⟩ := s
  generalize fitE l = e at *
  simp only
  go_enter Tryz.func10, Tryz.ntmps10
  go_wp2_with fail
  have hb : Below w.heap.size w ((w.alloc (.cells #[.int .i64 0, .int .i64 0] 32)).alloc (.cells #[.int .i64 0, .int .i64 0] 32)) := ((Below.refl _ w).alloc (Nat.le_refl _) _).alloc (by simp) _
  refine (FA.out _ hb).mono ?_
  rintro en w1 ⟨rfl, hb1⟩
  have hK1 : Keeps w [(w.heap.size, 0, .int .i64 0), (w.heap.size, 1, .int .i64 0), (w.heap.size + 1, 0, .int .i64 0), (w.heap.size + 1, 1, .int .i64 0)] w1 := Keeps.next (by refine ⟨hb, ?_⟩; simp [Cells, go_sem]) hb1
  have hHs := (hK1.alloc (.cells #[.int .i64 x0, .int .i64 x1, .int .i64 x2, .int .i64 x3] 50)).app (newK4 (hK1.alloc (.cells #[.int .i64 x0, .int .i64 x1, .int .i64 x2, .int .i64 x3] 50)))
  have HH := Lib.hid hHs
  have hz1 : w.heap.size + 2 ≤ w1.heap.size := by have := hb1.size; simp at this; omega
  clear hHs hK1 hb1 hb FA
  go_upto_region 2 with (fail)
  have hHs : Keeps w [(w.heap.size, 0, .int .i64 0), (w.heap.size, 1, .int .i64 0), (w.heap.size + 1, 0, .int .i64 0), (w.heap.size + 1, 1, .int .i64 0), (w1.heap.size, 0, .int .i64 x0), (w1.heap.size, 1, .int .i64 x1), (w1.heap.size, 2, .int .i64 x2), (w1.heap.size, 3, .int .i64 x3)] (w1.alloc (.cells #[.int .i64 x0, .int .i64 x1, .int .i64 x2, .int .i64 x3] 50)) := HH.out
  clear HH
  generalize w1.alloc (.cells #[.int .i64 x0, .int .i64 x1, .int .i64 x2, .int .i64 x3] 50) = wi at hHs ⊢
  refine region_keepsB (w0 := w) (L := [(w1.heap.size, 0, .int .i64 x0), (w1.heap.size, 1, .int .i64 x1), (w1.heap.size, 2, .int .i64 x2), (w1.heap.size, 3, .int .i64 x3)]) (M := [(w.heap.size, 0, .int .i64 0), (w.heap.size, 1, .int .i64 0), (w.heap.size + 1, 0, .int .i64 0), (w.heap.size + 1, 1, .int .i64 0)]) (by kernel_rfl) ⟨hHs.1, hHs.2.2.2.2.2⟩ ⟨hHs.1, hHs.2.1, hHs.2.2.1, hHs.2.2.2.1, hHs.2.2.2.2.1, trivial⟩ (fun hHeld0 hT0 => ?_)
  refine wpAnyH_take (i := 0) (oi := ⟨some 13, _, _, _, _, _⟩) (v := ?_) rfl (by kernel_rfl) (by kernel_rfl) (by kernel_rfl) (fun _ _ _ h => h) (Or.inl ⟨by rfl, ?_⟩) (by assumption) ?_
  rotate_left
  · intro wq hSw; go_simp; (try with_reducible rfl)
  try go_frame
  refine wpAnyH_take (i := 1) (oi := ⟨some 14, _, _, _, _, _⟩) (v := ?_) rfl (by kernel_rfl) (by kernel_rfl) (by kernel_rfl) (fun _ _ _ h => h) (Or.inl ⟨by rfl, ?_⟩) (by assumption) ?_
  rotate_left
  · intro wq hSw; obtain ⟨⟨qz0, qc0, qf0⟩, ⟨qz1, qc1, qf1⟩, ⟨qz2, qc2, qf2⟩, ⟨qz3, qc3, qf3⟩, _⟩ := hSw.2; go_simp; (try with_reducible rfl)
  try go_frame
  refine wpAnyH_take (i := 2) (oi := ⟨some 15, _, _, _, _, _⟩) (v := ?_) rfl (by kernel_rfl) (by kernel_rfl) (by kernel_rfl) (fun _ _ _ h => h) (Or.inl ⟨by rfl, ?_⟩) (by assumption) ?_
  rotate_left
  · intro wq hSw; go_simp; (try with_reducible rfl)
  try go_frame
  refine wpAnyH_take (i := 3) (oi := ⟨some 16, _, _, _, _, _⟩) (v := ?_) rfl (by kernel_rfl) (by kernel_rfl) (by kernel_rfl) (fun _ _ _ h => h) (Or.inl ⟨by rfl, ?_⟩) (by assumption) ?_
  rotate_left
  · intro wq hSw; obtain ⟨⟨qz0, qc0, qf0⟩, ⟨qz1, qc1, qf1⟩, ⟨qz2, qc2, qf2⟩, ⟨qz3, qc3, qf3⟩, _⟩ := hSw.2; go_simp; (try with_reducible rfl)
  try go_frame
  refine wpAnyH_take (i := 4) (oi := ⟨some 17, _, _, _, _, _⟩) (v := ?_) rfl (by kernel_rfl) (by kernel_rfl) (by kernel_rfl) (fun _ _ _ h => h) (Or.inl ⟨by rfl, ?_⟩) (by assumption) ?_
  rotate_left
  · intro wq hSw; go_simp; (try with_reducible rfl)
  try go_frame
  refine wpAnyH_ready (rs := [5]) (by kernel_rfl) (by simp) ?_
  refine AllReadyH.cons (o := ⟨none, _, _, _, _, _⟩) rfl (fun K hK => ?_) AllReadyH.nil
  obtain ⟨⟨t0z0, t0c0, t0f0⟩, ⟨t0z1, t0c1, t0f1⟩, ⟨t0z2, t0c2, t0f2⟩, ⟨t0z3, t0c3, t0f3⟩, _⟩ := hT0.2; (try simp at t0z0); (try simp at t0c0); (try simp at t0f0); (try simp at t0z1); (try simp at t0c1); (try simp at t0f1); (try simp at t0z2); (try simp at t0c2); (try simp at t0f2); (try simp at t0z3); (try simp at t0c3); (try simp at t0f3)
  go_simp
  refine hK.out _ _ (by first | exact hHeld0.alloc _ | (repeat (first | (with_reducible exact hHeld0) | (with_reducible exact (Keeps.undrewR hHeld0)) | (refine Keeps.set ?_ (by simp <;> omega) (by simp <;> omega) _) | (with_reducible refine Keeps.drew ?_)))) (fun hHeld1 => ?_)
  clear hK K
  try clear hb
  try go_frame
  refine wpAnyH_ready (rs := [6]) (by kernel_rfl) (by simp) ?_
  refine AllReadyH.cons (o := ⟨none, _, _, _, _, _⟩) rfl (fun K hK => ?_) AllReadyH.nil
  go_simp
  refine hK.out _ _ (by first | exact hHeld1.alloc _ | (repeat (first | (with_reducible exact hHeld1) | (with_reducible exact (Keeps.undrewR hHeld1)) | (refine Keeps.set ?_ (by simp <;> omega) (by simp <;> omega) _) | (with_reducible refine Keeps.drew ?_)))) (fun hHeld2 => ?_)
  clear hK K
  try clear hb
  try go_frame
  refine wpAnyH_take (i := 7) (oi := ⟨some 4, _, _, _, _, _⟩) (v := ?_) rfl (by kernel_rfl) (by kernel_rfl) (by kernel_rfl) (fun _ _ _ h => h) (Or.inl ⟨by rfl, ?_⟩) (by assumption) ?_
  rotate_left
  · intro wq hSw; go_simp; (try with_reducible rfl)
  try go_frame
  refine wpAnyH_done (by kernel_rfl) ?_ _
  have hHeld := hHeld2
  obtain ⟨⟨kz0, kc0, kf0⟩, ⟨kz1, kc1, kf1⟩, ⟨kz2, kc2, kf2⟩, ⟨kz3, kc3, kf3⟩, _⟩ := hHeld.2
  all_goals
    go_wp2_with fail
    refine bodyPost_ret (v := .tuple #[slV x0 x1, slV x2 x3, .int .i64 e]) (by simp [results, Tryz.results10, go_sem, *]) rfl ⟨rfl, hHeld.1⟩
theorem field_part (s : Sl) (v : Value) (W : World) : (Instr.field 52 (fitV s v) 1).run Tryz.prog W = .ok v W := by kernel_rfl
set_option maxHeartbeats 1000000 in
theorem len1_any (l : List Bd) (hk : okD l = true) (v : Value) (W : World) (h : ReadsD W v l) : Calls Tryz.prog 31 #[v] W (Ret W (.tuple #[.int .i64 (firN l), .int .i64 0])) := by
  have hne := okD_ne hk
  have hl := (okD_facts hk).2.1
  have hr := h
  obtain ⟨A, c, rfl, _, _⟩ := h
  obtain ⟨bb, off, rfl⟩ := readsD_some hr hne
  have FA := Lib.hid (first_any l hne (by omega) (row_ok hk) bb off c W hr)
  have hf := field_part
  clear hr hk hne hl
  generalize firS l = s at *
  generalize firN l = n at *
  generalize l.length = m at *
  go_enter Tryz.func31, Tryz.ntmps31
  go_wp2_with fail
  refine FA.out.mono ?_
  rintro en w1 ⟨rfl, hb1⟩
  go_wp2_with fail
  go_returns
  exact ⟨rfl, hb1⟩
set_option maxHeartbeats 1000000 in
theorem ofN_any (l : List Bd) (hl : l.length ≤ 9223372036854775807) (q : Int) (v : Value) (w : World) (h : ReadsD w v l)
    (hF : okD l = true → ∀ W, Below w.heap.size w W → Calls Tryz.prog 31 #[v] W (Ret W (.tuple #[.int .i64 q, .int .i64 0]))) :
    Calls Tryz.prog 30 #[v, .func (.func 31) #[] #[]] w (Ret w (if okD l then .tuple #[.int .i64 q, .int .i64 0] else .tuple #[.int .i64 0, .int .i64 180])) := by
  have hr := h
  obtain ⟨A, c, rfl, _, _⟩ := h
  have BC := Lib.hid (bcheck_any l hl _ w hr)
  clear hr
  cases gk : okD l
  · rw [gk] at BC
    clear hF gk
    simp only [Bool.false_eq_true, if_false] at BC ⊢
    go_enter Tryz.func30, Tryz.ntmps30
    go_wp2_with fail
    refine BC.out.mono ?_
    rintro en w1 ⟨rfl, hb1⟩
    go_wp2_with fail
    go_returns
    exact ⟨rfl, hb1⟩
  · have HF := Lib.hid (hF gk)
    rw [gk] at BC
    simp only [if_true] at BC ⊢
    clear hF gk
    go_enter Tryz.func30, Tryz.ntmps30
    go_wp2_with fail
    refine BC.out.mono ?_
    rintro en w1 ⟨rfl, hb1⟩
    have HF1 := Lib.hid (HF.out w1 hb1)
    go_wp2_with fail
    refine HF1.out.mono ?_
    rintro en w2 ⟨rfl, hb2⟩
    go_wp2_with fail
    go_returns
    exact ⟨rfl, under hb1 hb2⟩
/-- What Longest tells. -/
def lonN (l : List Bd) : Int := if okD l then (firN l : Int) else 0
def codeS (l : List Bd) : Int := if okD l then 0 else 180
set_option maxHeartbeats 1000000 in
theorem longest_any (l : List Bd) (hl : l.length ≤ 9223372036854775807) (v : Value) (w : World) (h : ReadsD w v l) :
    Calls Tryz.prog 13 #[v] w (Ret w (.tuple #[.int .i64 (lonN l), .int .i64 (codeS l)])) := by
  have OF := ofN_any l hl (firN l) v w h (fun gk W hb => len1_any l gk v W (h.below hb))
  have e : (if okD l then Value.tuple #[.int .i64 (firN l), .int .i64 0] else .tuple #[.int .i64 0, .int .i64 180]) = .tuple #[.int .i64 (lonN l), .int .i64 (codeS l)] := by
    unfold lonN codeS
    cases okD l <;> simp
  rw [e] at OF
  replace OF := Lib.hid OF
  obtain ⟨A, c, rfl, _, _⟩ := h
  clear e
  generalize lonN l = q at *
  generalize codeS l = d at *
  go_enter Tryz.func13, Tryz.ntmps13
  go_wp2_with fail
  refine OF.out.mono ?_
  rintro en w1 ⟨rfl, hb1⟩
  go_wp2_with fail
  go_returns
  exact ⟨rfl, hb1⟩
end Go.Proofs.YtoephkglpbophaaGreat.P10
