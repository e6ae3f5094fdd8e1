/-
  Layer 10: the law's few, and its wakes. Conditions: those written at each fact.
-/
import Derived.Maps.RangeWalk
import Derived.Test.YtoephkglpbophaaGreatSlL
namespace Go.Proofs.YtoephkglpbophaaGreat.P10
open Go.RowKit Go.Shelf Go.Proofs.YtoephkglpbophaaGreat.P8

theorem past1 {w w1 : World} {o : Obj} (hb : Below (w.alloc o).heap.size (w.alloc o) w1) : Below w.heap.size w w1 := under (below_alloc w o) hb
theorem few_any (l : List Bd) (hl : l.length ≤ 9223372036854775807) (N : Nat) (hN : N ≤ 1000000) (v : Value) (w : World) (h : ReadsD w v l) : Calls Tryz.prog 5 #[v, .int .i64 N] w (LaidD w (l.take N)) := by
  have hr := h
  obtain ⟨A, c, rfl, hc, _⟩ := h
  by_cases g : l.length ≤ N
  · have CL := Lib.hid (cloneD l (by omega) _ w hr)
    have hm : min (l.length : Int) (N : Int) = (l.length : Int) := by omega
    have hm2 : (if (N : Int) < (l.length : Int) then (N : Int) else (l.length : Int)) = (l.length : Int) := by rw [if_neg (by omega)]
    have i1 : (l.length : Int) ≤ (c : Int) := by omega
    rw [List.take_of_length_le g]
    clear hr g hl
    go_enter Tryz.func5, Tryz.ntmps5
    go_wp2_with fail
    refine CL.out.mono ?_
    rintro e w1 ⟨x, rfl, hb, ho⟩
    have HO := Lib.hid ho
    clear ho
    go_wp2_with fail
    go_ret
    exact ⟨_, rfl, hb, HO.out⟩
  · have hl2 : (l.take N).length = N := by rw [List.length_take]; omega
    have CL := Lib.hid (cloneD (l.take N) (by omega) (.slice A N c) w (readsD_take hr N (by omega)))
    have hm : min (l.length : Int) (N : Int) = (N : Int) := by omega
    have hm2 : (if (N : Int) < (l.length : Int) then (N : Int) else (l.length : Int)) = (N : Int) := by rw [if_pos (by omega)]
    have i1 : (N : Int) ≤ (c : Int) := by omega
    have i2 : N ≤ c := by omega
    have i3 : (0 : Int) ≤ (N : Int) := by omega
    clear hr hl2 g
    generalize l.take N = m at *
    go_enter Tryz.func5, Tryz.ntmps5
    go_wp2_with fail
    refine CL.out.mono ?_
    rintro e w1 ⟨x, rfl, hb, ho⟩
    have HO := Lib.hid ho
    clear ho
    go_wp2_with fail
    go_ret
    exact ⟨_, rfl, hb, HO.out⟩
abbrev wa : List Bd := [⟨0, 0, 2⟩, ⟨1, 5, 6⟩]
abbrev wb : List Bd := [⟨0, 0, 0⟩, ⟨1, 1, 1⟩, ⟨2, 3, 3⟩]
abbrev wc' : List Bd := [⟨0, 0, 1⟩, ⟨1, 5, 6⟩]
theorem wa_told : (sloS wa).a = 3 ∧ (sloS wa).b = 1 ∧ (sloS wa).c = 6 ∧ (sloS wa).d = 1 ∧ fitE wa = 0 ∧ fitA wa = 2 ∧ fitR wa = 0 ∧ fitN wa = 3 ∧ fitD wa = 1 := ⟨by kernel_rfl, by kernel_rfl, by kernel_rfl, by kernel_rfl, by kernel_rfl, by kernel_rfl, by kernel_rfl, by kernel_rfl, by kernel_rfl⟩
theorem wb_told : fitE wb = 181 ∧ codeS wb = 0 ∧ lonN wb = 2 := ⟨by kernel_rfl, by kernel_rfl, by kernel_rfl⟩
theorem wb_cut : rowS wb = [2, 1] := by
  have h : okD wb = true := by kernel_rfl
  have f1 : firN wb = 2 := by kernel_rfl
  have f2 : firN [⟨2, 3, 3⟩] = 1 := by kernel_rfl
  rw [rowS, h, if_pos rfl, cutN_next (by simp), f1]
  simp only [List.drop_succ_cons, List.drop_zero]
  rw [cutN_next (by simp), f2]
  simp only [List.drop_succ_cons, List.drop_zero]
  rw [cutN_nil]
theorem thr_wa : thrB 2 0 3 1 wa = true := by kernel_rfl
theorem thr_wc : thrB 2 0 3 1 wc' = false := by kernel_rfl
set_option maxRecDepth 100000 in
set_option maxHeartbeats 4000000 in
theorem wakes_any (w : World) : Calls Tryz.prog 4 #[] w (Ret w (.bool true)) := by
  have AT : Hid (∀ (W : World) (B : Nat) (l : List Int) (n : Nat), B = W.heap.size → l.length = n → l.length ≤ 1000 → Calls Tryz.prog 11 #[.slice (some ⟨B, 0, none⟩) n n] (W.alloc (.cells (l.map (Value.int .i64)).toArray 2)) (LaidD (W.alloc (.cells (l.map (Value.int .i64)).toArray 2)) (atF 0 l))) := Lib.hid (fun W B l n hB hn hl => by
    subst hB
    exact Go.Proofs.YtoephkglpbophaaGreat.P8.at_any l hl (.slice (some ⟨W.heap.size, 0, none⟩) n n) _ (reads_new (k := .i64) (w := W) (t := 2) (l := l) n hn))
  obtain ⟨q1, q2, q3, q4, q5, q6, q7, q8, q9⟩ := wa_told
  obtain ⟨p1, p2, p3⟩ := wb_told
  have SL : Hid (∀ (v : Value) (W : World), ReadsD W v wa → Calls Tryz.prog 10 #[v] W (Ret W (.tuple #[slV 3 1, slV 6 1, .int .i64 0]))) := Lib.hid (fun v W h => by
    have := slopes_any _ (by decide) v W h
    rwa [q1, q2, q3, q4, q5] at this)
  have FA : Hid (∀ (v : Value) (W : World), ReadsD W v wa → Calls Tryz.prog 12 #[v] W (Ret W (.tuple #[lnV 2 0 3 1, .int .i64 0]))) := Lib.hid (fun v W h => by
    have := fit_any _ (by decide) v W h
    rwa [q6, q7, q8, q9, q5] at this)
  have FB : Hid (∀ (v : Value) (W : World), ReadsD W v wb → Calls Tryz.prog 12 #[v] W (Ret W (.tuple #[lnV 0 0 0 0, .int .i64 181]))) := Lib.hid (fun v W h => by
    have := fit_any _ (by decide) v W h
    have z : fitA wb = 0 ∧ fitR wb = 0 ∧ fitN wb = 0 ∧ fitD wb = 0 := by simp [fitA, fitR, fitN, fitD, p1]
    rwa [z.1, z.2.1, z.2.2.1, z.2.2.2, p1] at this)
  have CD : Hid (∀ (v : Value) (W : World), ReadsD W v wb → Calls Tryz.prog 7 #[v] W (EndC W [2, 1] 0)) := Lib.hid (fun v W h => by
    have := cut_any _ (by decide) v W h
    rwa [wb_cut, p2] at this)
  have LE : Hid (∀ (v : Value) (W : World), ReadsD W v wb → Calls Tryz.prog 13 #[v] W (Ret W (.tuple #[.int .i64 2, .int .i64 0]))) := Lib.hid (fun v W h => by
    have := longest_any _ (by decide) v W h
    rwa [p3, p2] at this)
  have TH : Hid (∀ (v : Value) (W : World), ReadsD W v wa → Calls Tryz.prog 15 #[v, lnV 2 0 3 1] W (Ret W (.bool true))) := Lib.hid (fun v W h => by
    have := thr_any 2 0 3 1 _ (by decide) v W h
    rwa [thr_wa] at this)
  have TN : Hid (∀ (v : Value) (W : World), ReadsD W v wc' → Calls Tryz.prog 15 #[v, lnV 2 0 3 1] W (Ret W (.bool false))) := Lib.hid (fun v W h => by
    have := thr_any 2 0 3 1 _ (by decide) v W h
    rwa [thr_wc] at this)
  have EQ : Hid (∀ (v v' : Value) (W : World), Reads .i64 W v [2, 1] → Reads .i64 W v' [2, 1] → Calls Tryz.prog 14 #[v, v'] W (Ret W (.bool true))) := Lib.hid (fun v v' W h h' => equalN _ (by decide) _ _ _ h h')
  clear q1 q2 q3 q4 q5 q6 q7 q8 q9 p1 p2 p3
  go_enter Tryz.func4, Tryz.ntmps4
  go_wp2_with fail
  have hHeld : Keeps w [] w := ⟨Below.refl _ _, trivial⟩
  refine (AT.out _ _ [0, 2, 5, 6] 4 (by simp) rfl (by decide)).mono ?_
  rintro e a1 ⟨v1, rfl, hb, ho⟩
  have H1 := Lib.hid (readsD_own ho)
  replace hHeld := hHeld.next (past1 hb)
  obtain ⟨A1v, n1v, c1v, hv⟩ : ∃ A n c, v1 = .slice A n c := by obtain ⟨A, c, e, _⟩ := H1.out; exact ⟨_, _, _, e⟩
  subst hv
  clear ho hb
  go_wp2_with fail
  refine (SL.out _ _ H1.out).mono ?_
  rintro e w1 ⟨rfl, hb⟩
  replace hHeld := hHeld.next hb
  clear hb
  go_wp2_with fail
  replace hHeld := (newK2 (L := []) (hHeld.alloc (.cells #[.int .i64 3, .int .i64 1] 32)))
  replace hHeld := (hHeld.alloc (.cells #[.int .i64 6, .int .i64 1] 32)).app (newK2 (hHeld.alloc (.cells #[.int .i64 6, .int .i64 1] 32)))
  refine (AT.out _ _ [0, 2, 5, 6] 4 (by simp) rfl (by decide)).mono ?_
  rintro e a2 ⟨v2, rfl, hb, ho⟩
  have H2 := Lib.hid (readsD_own ho)
  replace hHeld := hHeld.next (past1 hb)
  obtain ⟨A2v, n2v, c2v, hv⟩ : ∃ A n c, v2 = .slice A n c := by obtain ⟨A, c, e, _⟩ := H2.out; exact ⟨_, _, _, e⟩
  subst hv
  clear ho hb
  go_wp2_with fail
  refine (FA.out _ _ H2.out).mono ?_
  rintro e w2 ⟨rfl, hb⟩
  replace hHeld := hHeld.next hb
  clear hb
  go_wp2_with fail
  replace hHeld := (hHeld.alloc (.cells #[.int .i64 2, .int .i64 0, .int .i64 3, .int .i64 1] 37)).app (newK4 (hHeld.alloc (.cells #[.int .i64 2, .int .i64 0, .int .i64 3, .int .i64 1] 37)))
  refine (AT.out _ _ [0, 0, 1, 1, 3, 3] 6 (by simp) rfl (by decide)).mono ?_
  rintro e a3 ⟨v3, rfl, hb, ho⟩
  have H3 := Lib.hid (readsD_own ho)
  replace hHeld := hHeld.next (past1 hb)
  obtain ⟨A3v, n3v, c3v, hv⟩ : ∃ A n c, v3 = .slice A n c := by obtain ⟨A, c, e, _⟩ := H3.out; exact ⟨_, _, _, e⟩
  subst hv
  clear ho hb
  go_wp2_with fail
  refine (FB.out _ _ H3.out).mono ?_
  rintro e w3 ⟨rfl, hb⟩
  replace hHeld := hHeld.next hb
  clear hb
  go_wp2_with fail
  replace hHeld := hHeld.alloc (.cells #[.int .i64 0, .int .i64 0, .int .i64 0, .int .i64 0] 37)
  refine (AT.out _ _ [0, 0, 1, 1, 3, 3] 6 (by simp) rfl (by decide)).mono ?_
  rintro e a4 ⟨v4, rfl, hb, ho⟩
  have H4 := Lib.hid (readsD_own ho)
  replace hHeld := hHeld.next (past1 hb)
  obtain ⟨A4v, n4v, c4v, hv⟩ : ∃ A n c, v4 = .slice A n c := by obtain ⟨A, c, e, _⟩ := H4.out; exact ⟨_, _, _, e⟩
  subst hv
  clear ho hb
  go_wp2_with fail
  refine (CD.out _ _ H4.out).mono ?_
  rintro e w4 ⟨hb, A5, n5, c5, rfl, ho⟩
  replace hHeld := hHeld.next hb
  have HC : Hid (Reads .i64 w4 (.slice A5 n5 c5) [2, 1]) := Lib.hid (reads_own ho)
  obtain ⟨e5, _, _⟩ := HC.out.at
  simp only [List.length_cons, List.length_nil, Nat.reduceAdd] at e5
  subst e5
  clear hb ho
  go_wp2_with fail
  refine (AT.out _ _ [0, 0, 1, 1, 3, 3] 6 (by simp) rfl (by decide)).mono ?_
  rintro e a5 ⟨v5, rfl, hb, ho⟩
  have H5 := Lib.hid (readsD_own ho)
  replace hHeld := hHeld.next (past1 hb)
  replace HC := Lib.hid (HC.out.below (past1 hb))
  obtain ⟨A5v, n5v, c5v, hv⟩ : ∃ A n c, v5 = .slice A n c := by obtain ⟨A, c, e, _⟩ := H5.out; exact ⟨_, _, _, e⟩
  subst hv
  clear ho hb
  go_wp2_with fail
  refine (LE.out _ _ H5.out).mono ?_
  rintro e w5 ⟨rfl, hb⟩
  replace hHeld := hHeld.next hb
  replace HC := Lib.hid (HC.out.below hb)
  clear hb
  go_upto_region 6 with (fail)
  have hHs : Keeps w5 [(w1.heap.size, 0, .int .i64 3), (w1.heap.size, 1, .int .i64 1), (w1.heap.size + 1, 0, .int .i64 6), (w1.heap.size + 1, 1, .int .i64 1), (w2.heap.size, 0, .int .i64 2), (w2.heap.size, 1, .int .i64 0), (w2.heap.size, 2, .int .i64 3), (w2.heap.size, 3, .int .i64 1)] w5 := ⟨Below.refl _ _, by simpa using hHeld.2⟩
  have HB := Lib.hid hHeld.1
  clear hHeld
  refine region_keeps (w0 := w5) (L := [(w1.heap.size, 0, .int .i64 3), (w1.heap.size, 1, .int .i64 1), (w1.heap.size + 1, 0, .int .i64 6), (w1.heap.size + 1, 1, .int .i64 1), (w2.heap.size, 0, .int .i64 2), (w2.heap.size, 1, .int .i64 0), (w2.heap.size, 2, .int .i64 3), (w2.heap.size, 3, .int .i64 1)]) (by kernel_rfl) hHs (fun hHeld0 => ?_)
  refine wpAnyH_take (i := 0) (oi := ⟨some 43, _, _, _, _, _⟩) (v := ?_) rfl (by kernel_rfl) (by kernel_rfl) (by kernel_rfl) (fun _ _ _ h => h) (Or.inl ⟨by rfl, ?_⟩) (by assumption) ?_
  rotate_left
  · intro wq hSw; go_simp; (try with_reducible rfl)
  try go_frame
  refine wpAnyH_take (i := 1) (oi := ⟨some 44, _, _, _, _, _⟩) (v := ?_) rfl (by kernel_rfl) (by kernel_rfl) (by kernel_rfl) (fun _ _ _ h => h) (Or.inl ⟨by rfl, ?_⟩) (by assumption) ?_
  rotate_left
  · intro wq hSw; go_simp; (try with_reducible rfl)
  try go_frame
  refine wpAnyH_take (i := 2) (oi := ⟨some 45, _, _, _, _, _⟩) (v := ?_) rfl (by kernel_rfl) (by kernel_rfl) (by kernel_rfl) (fun _ _ _ h => h) (Or.inl ⟨by rfl, ?_⟩) (by assumption) ?_
  rotate_left
  · intro wq hSw; go_simp; (try with_reducible rfl)
  try go_frame
  refine wpAnyH_take (i := 3) (oi := ⟨some 46, _, _, _, _, _⟩) (v := ?_) rfl (by kernel_rfl) (by kernel_rfl) (by kernel_rfl) (fun _ _ _ h => h) (Or.inl ⟨by rfl, ?_⟩) (by assumption) ?_
  rotate_left
  · intro wq hSw; go_simp; (try with_reducible rfl)
  try go_frame
  refine wpAnyH_take (i := 4) (oi := ⟨some 47, _, _, _, _, _⟩) (v := ?_) rfl (by kernel_rfl) (by kernel_rfl) (by kernel_rfl) (fun _ _ _ h => h) (Or.inl ⟨by rfl, ?_⟩) (by assumption) ?_
  rotate_left
  · intro wq hSw; go_simp; (try with_reducible rfl)
  try go_frame
  refine wpAnyH_take (i := 5) (oi := ⟨some 48, _, _, _, _, _⟩) (v := ?_) rfl (by kernel_rfl) (by kernel_rfl) (by kernel_rfl) (fun _ _ _ h => h) (Or.inl ⟨by rfl, ?_⟩) (by assumption) ?_
  rotate_left
  · intro wq hSw; go_simp; (try with_reducible rfl)
  try go_frame
  refine wpAnyH_take (i := 6) (oi := ⟨some 49, _, _, _, _, _⟩) (v := ?_) rfl (by kernel_rfl) (by kernel_rfl) (by kernel_rfl) (fun _ _ _ h => h) (Or.inl ⟨by rfl, ?_⟩) (by assumption) ?_
  rotate_left
  · intro wq hSw; go_simp; (try with_reducible rfl)
  try go_frame
  refine wpAnyH_take (i := 7) (oi := ⟨some 50, _, _, _, _, _⟩) (v := ?_) rfl (by kernel_rfl) (by kernel_rfl) (by kernel_rfl) (fun _ _ _ h => h) (Or.inl ⟨by rfl, ?_⟩) (by assumption) ?_
  rotate_left
  · intro wq hSw; go_simp; (try with_reducible rfl)
  try go_frame
  refine wpAnyH_take (i := 8) (oi := ⟨some 51, _, _, _, _, _⟩) (v := ?_) rfl (by kernel_rfl) (by kernel_rfl) (by kernel_rfl) (fun _ _ _ h => h) (Or.inl ⟨by rfl, ?_⟩) (by assumption) ?_
  rotate_left
  · intro wq hSw; go_simp; (try with_reducible rfl)
  try go_frame
  refine wpAnyH_take (i := 9) (oi := ⟨some 52, _, _, _, _, _⟩) (v := ?_) rfl (by kernel_rfl) (by kernel_rfl) (by kernel_rfl) (fun _ _ _ h => h) (Or.inl ⟨by rfl, ?_⟩) (by assumption) ?_
  rotate_left
  · intro wq hSw; go_simp; (try with_reducible rfl)
  try go_frame
  refine wpAnyH_take (i := 10) (oi := ⟨some 53, _, _, _, _, _⟩) (v := ?_) rfl (by kernel_rfl) (by kernel_rfl) (by kernel_rfl) (fun _ _ _ h => h) (Or.inl ⟨by rfl, ?_⟩) (by assumption) ?_
  rotate_left
  · intro wq hSw; go_simp; (try with_reducible rfl)
  try go_frame
  refine wpAnyH_take (i := 11) (oi := ⟨some 54, _, _, _, _, _⟩) (v := ?_) rfl (by kernel_rfl) (by kernel_rfl) (by kernel_rfl) (fun _ _ _ h => h) (Or.inl ⟨by rfl, ?_⟩) (by assumption) ?_
  rotate_left
  · intro wq hSw; go_simp; (try with_reducible rfl)
  try go_frame
  refine wpAnyH_take (i := 12) (oi := ⟨some 55, _, _, _, _, _⟩) (v := ?_) rfl (by kernel_rfl) (by kernel_rfl) (by kernel_rfl) (fun _ _ _ h => h) (Or.inl ⟨by rfl, ?_⟩) (by assumption) ?_
  rotate_left
  · intro wq hSw; go_simp; (try with_reducible rfl)
  try go_frame
  refine wpAnyH_take (i := 13) (oi := ⟨some 56, _, _, _, _, _⟩) (v := ?_) rfl (by kernel_rfl) (by kernel_rfl) (by kernel_rfl) (fun _ _ _ h => h) (Or.inl ⟨by rfl, ?_⟩) (by assumption) ?_
  rotate_left
  · intro wq hSw; go_simp; (try with_reducible rfl)
  try go_frame
  refine wpAnyH_take (i := 14) (oi := ⟨some 57, _, _, _, _, _⟩) (v := ?_) rfl (by kernel_rfl) (by kernel_rfl) (by kernel_rfl) (fun _ _ _ h => h) (Or.inl ⟨by rfl, ?_⟩) (by assumption) ?_
  rotate_left
  · intro wq hSw; go_simp; (try with_reducible rfl)
  try go_frame
  refine wpAnyH_take (i := 15) (oi := ⟨some 58, _, _, _, _, _⟩) (v := ?_) rfl (by kernel_rfl) (by kernel_rfl) (by kernel_rfl) (fun _ _ _ h => h) (Or.inl ⟨by rfl, ?_⟩) (by assumption) ?_
  rotate_left
  · intro wq hSw; go_simp; (try with_reducible rfl)
  try go_frame
  refine wpAnyH_take (i := 16) (oi := ⟨some 59, _, _, _, _, _⟩) (v := ?_) rfl (by kernel_rfl) (by kernel_rfl) (by kernel_rfl) (fun _ _ _ h => h) (Or.inl ⟨by rfl, ?_⟩) (by assumption) ?_
  rotate_left
  · intro wq hSw; go_simp; (try with_reducible rfl)
  try go_frame
  refine wpAnyH_take (i := 17) (oi := ⟨some 60, _, _, _, _, _⟩) (v := ?_) rfl (by kernel_rfl) (by kernel_rfl) (by kernel_rfl) (fun _ _ _ h => h) (Or.inl ⟨by rfl, ?_⟩) (by assumption) ?_
  rotate_left
  · intro wq hSw; go_simp; (try with_reducible rfl)
  try go_frame
  refine wpAnyH_take (i := 18) (oi := ⟨some 61, _, _, _, _, _⟩) (v := ?_) rfl (by kernel_rfl) (by kernel_rfl) (by kernel_rfl) (fun _ _ _ h => h) (Or.inl ⟨by rfl, ?_⟩) (by assumption) ?_
  rotate_left
  · intro wq hSw; go_simp; (try with_reducible rfl)
  try go_frame
  refine wpAnyH_take (i := 19) (oi := ⟨some 62, _, _, _, _, _⟩) (v := ?_) rfl (by kernel_rfl) (by kernel_rfl) (by kernel_rfl) (fun _ _ _ h => h) (Or.inl ⟨by rfl, ?_⟩) (by assumption) ?_
  rotate_left
  · intro wq hSw; obtain ⟨⟨qz0, qc0, qf0⟩, ⟨qz1, qc1, qf1⟩, ⟨qz2, qc2, qf2⟩, ⟨qz3, qc3, qf3⟩, ⟨qz4, qc4, qf4⟩, ⟨qz5, qc5, qf5⟩, ⟨qz6, qc6, qf6⟩, ⟨qz7, qc7, qf7⟩, _⟩ := hSw.2; go_simp; (try with_reducible rfl)
  try go_frame
  refine wpAnyH_take (i := 20) (oi := ⟨some 63, _, _, _, _, _⟩) (v := ?_) rfl (by kernel_rfl) (by kernel_rfl) (by kernel_rfl) (fun _ _ _ h => h) (Or.inl ⟨by rfl, ?_⟩) (by assumption) ?_
  rotate_left
  · intro wq hSw; go_simp; (try with_reducible rfl)
  try go_frame
  refine wpAnyH_take (i := 21) (oi := ⟨some 64, _, _, _, _, _⟩) (v := ?_) rfl (by kernel_rfl) (by kernel_rfl) (by kernel_rfl) (fun _ _ _ h => h) (Or.inl ⟨by rfl, ?_⟩) (by assumption) ?_
  rotate_left
  · intro wq hSw; go_simp; (try with_reducible rfl)
  try go_frame
  refine wpAnyH_take (i := 22) (oi := ⟨some 65, _, _, _, _, _⟩) (v := ?_) rfl (by kernel_rfl) (by kernel_rfl) (by kernel_rfl) (fun _ _ _ h => h) (Or.inl ⟨by rfl, ?_⟩) (by assumption) ?_
  rotate_left
  · intro wq hSw; go_simp; (try with_reducible rfl)
  try go_frame
  refine wpAnyH_take (i := 23) (oi := ⟨some 66, _, _, _, _, _⟩) (v := ?_) rfl (by kernel_rfl) (by kernel_rfl) (by kernel_rfl) (fun _ _ _ h => h) (Or.inl ⟨by rfl, ?_⟩) (by assumption) ?_
  rotate_left
  · intro wq hSw; go_simp; (try with_reducible rfl)
  try go_frame
  refine wpAnyH_take (i := 24) (oi := ⟨some 67, _, _, _, _, _⟩) (v := ?_) rfl (by kernel_rfl) (by kernel_rfl) (by kernel_rfl) (fun _ _ _ h => h) (Or.inl ⟨by rfl, ?_⟩) (by assumption) ?_
  rotate_left
  · intro wq hSw; obtain ⟨⟨qz0, qc0, qf0⟩, ⟨qz1, qc1, qf1⟩, ⟨qz2, qc2, qf2⟩, ⟨qz3, qc3, qf3⟩, ⟨qz4, qc4, qf4⟩, ⟨qz5, qc5, qf5⟩, ⟨qz6, qc6, qf6⟩, ⟨qz7, qc7, qf7⟩, _⟩ := hSw.2; go_simp; (try with_reducible rfl)
  try go_frame
  refine wpAnyH_take (i := 25) (oi := ⟨some 68, _, _, _, _, _⟩) (v := ?_) rfl (by kernel_rfl) (by kernel_rfl) (by kernel_rfl) (fun _ _ _ h => h) (Or.inl ⟨by rfl, ?_⟩) (by assumption) ?_
  rotate_left
  · intro wq hSw; go_simp; (try with_reducible rfl)
  try go_frame
  refine wpAnyH_take (i := 26) (oi := ⟨some 69, _, _, _, _, _⟩) (v := ?_) rfl (by kernel_rfl) (by kernel_rfl) (by kernel_rfl) (fun _ _ _ h => h) (Or.inl ⟨by rfl, ?_⟩) (by assumption) ?_
  rotate_left
  · intro wq hSw; go_simp; (try with_reducible rfl)
  try go_frame
  refine wpAnyH_take (i := 27) (oi := ⟨some 70, _, _, _, _, _⟩) (v := ?_) rfl (by kernel_rfl) (by kernel_rfl) (by kernel_rfl) (fun _ _ _ h => h) (Or.inl ⟨by rfl, ?_⟩) (by assumption) ?_
  rotate_left
  · intro wq hSw; go_simp; (try with_reducible rfl)
  try go_frame
  refine wpAnyH_take (i := 28) (oi := ⟨some 71, _, _, _, _, _⟩) (v := ?_) rfl (by kernel_rfl) (by kernel_rfl) (by kernel_rfl) (fun _ _ _ h => h) (Or.inl ⟨by rfl, ?_⟩) (by assumption) ?_
  rotate_left
  · intro wq hSw; go_simp; (try with_reducible rfl)
  try go_frame
  refine wpAnyH_take (i := 29) (oi := ⟨some 72, _, _, _, _, _⟩) (v := ?_) rfl (by kernel_rfl) (by kernel_rfl) (by kernel_rfl) (fun _ _ _ h => h) (Or.inl ⟨by rfl, ?_⟩) (by assumption) ?_
  rotate_left
  · intro wq hSw; obtain ⟨⟨qz0, qc0, qf0⟩, ⟨qz1, qc1, qf1⟩, ⟨qz2, qc2, qf2⟩, ⟨qz3, qc3, qf3⟩, ⟨qz4, qc4, qf4⟩, ⟨qz5, qc5, qf5⟩, ⟨qz6, qc6, qf6⟩, ⟨qz7, qc7, qf7⟩, _⟩ := hSw.2; go_simp; (try with_reducible rfl)
  try go_frame
  refine wpAnyH_take (i := 30) (oi := ⟨some 73, _, _, _, _, _⟩) (v := ?_) rfl (by kernel_rfl) (by kernel_rfl) (by kernel_rfl) (fun _ _ _ h => h) (Or.inl ⟨by rfl, ?_⟩) (by assumption) ?_
  rotate_left
  · intro wq hSw; go_simp; (try with_reducible rfl)
  try go_frame
  refine wpAnyH_take (i := 31) (oi := ⟨some 74, _, _, _, _, _⟩) (v := ?_) rfl (by kernel_rfl) (by kernel_rfl) (by kernel_rfl) (fun _ _ _ h => h) (Or.inl ⟨by rfl, ?_⟩) (by assumption) ?_
  rotate_left
  · intro wq hSw; go_simp; (try with_reducible rfl)
  try go_frame
  refine wpAnyH_take (i := 32) (oi := ⟨some 75, _, _, _, _, _⟩) (v := ?_) rfl (by kernel_rfl) (by kernel_rfl) (by kernel_rfl) (fun _ _ _ h => h) (Or.inl ⟨by rfl, ?_⟩) (by assumption) ?_
  rotate_left
  · intro wq hSw; go_simp; (try with_reducible rfl)
  try go_frame
  refine wpAnyH_take (i := 33) (oi := ⟨some 76, _, _, _, _, _⟩) (v := ?_) rfl (by kernel_rfl) (by kernel_rfl) (by kernel_rfl) (fun _ _ _ h => h) (Or.inl ⟨by rfl, ?_⟩) (by assumption) ?_
  rotate_left
  · intro wq hSw; go_simp; (try with_reducible rfl)
  try go_frame
  refine wpAnyH_take (i := 34) (oi := ⟨some 77, _, _, _, _, _⟩) (v := ?_) rfl (by kernel_rfl) (by kernel_rfl) (by kernel_rfl) (fun _ _ _ h => h) (Or.inl ⟨by rfl, ?_⟩) (by assumption) ?_
  rotate_left
  · intro wq hSw; go_simp; (try with_reducible rfl)
  try go_frame
  refine wpAnyH_ready (rs := [35]) (by kernel_rfl) (by simp) ?_
  refine AllReadyH.cons (o := ⟨some 78, _, _, _, _, _⟩) rfl (fun K hK => ?_) AllReadyH.nil
  go_simp
  refine hK.out _ _ (by first | exact hHeld0.alloc _ | exact (hHeld0.alloc _).drew) (fun hHeld1 => ?_)
  clear hK K
  try clear hb
  try go_frame
  refine wpAnyH_ready (rs := [36]) (by kernel_rfl) (by simp) ?_
  refine AllReadyH.cons (o := ⟨some 79, _, _, _, _, _⟩) rfl (fun K hK => ?_) AllReadyH.nil
  go_simp
  refine (EQ.out _ _ _ (HC.out.below (below_alloc w5 (.cells #[.int .i64 2, .int .i64 1] 3)).drew) (Reads.below reads_two (Below.refl _ _).drew)).mono ?_; rintro e w6 ⟨rfl, hb⟩
  refine hK.out _ _ (hHeld1.next hb) (fun hHeld2 => ?_)
  clear hK K
  try clear hb
  try go_frame
  refine wpAnyH_take (i := 37) (oi := ⟨some 80, _, _, _, _, _⟩) (v := ?_) rfl (by kernel_rfl) (by kernel_rfl) (by kernel_rfl) (fun _ _ _ h => h) (Or.inl ⟨by rfl, ?_⟩) (by assumption) ?_
  rotate_left
  · intro wq hSw; go_simp; (try with_reducible rfl)
  try go_frame
  refine wpAnyH_take (i := 38) (oi := ⟨some 81, _, _, _, _, _⟩) (v := ?_) rfl (by kernel_rfl) (by kernel_rfl) (by kernel_rfl) (fun _ _ _ h => h) (Or.inl ⟨by rfl, ?_⟩) (by assumption) ?_
  rotate_left
  · intro wq hSw; go_simp; (try with_reducible rfl)
  try go_frame
  refine wpAnyH_take (i := 39) (oi := ⟨some 82, _, _, _, _, _⟩) (v := ?_) rfl (by kernel_rfl) (by kernel_rfl) (by kernel_rfl) (fun _ _ _ h => h) (Or.inl ⟨by rfl, ?_⟩) (by assumption) ?_
  rotate_left
  · intro wq hSw; go_simp; (try with_reducible rfl)
  try go_frame
  refine wpAnyH_take (i := 40) (oi := ⟨some 83, _, _, _, _, _⟩) (v := ?_) rfl (by kernel_rfl) (by kernel_rfl) (by kernel_rfl) (fun _ _ _ h => h) (Or.inl ⟨by rfl, ?_⟩) (by assumption) ?_
  rotate_left
  · intro wq hSw; go_simp; (try with_reducible rfl)
  try go_frame
  refine wpAnyH_take (i := 41) (oi := ⟨some 84, _, _, _, _, _⟩) (v := ?_) rfl (by kernel_rfl) (by kernel_rfl) (by kernel_rfl) (fun _ _ _ h => h) (Or.inl ⟨by rfl, ?_⟩) (by assumption) ?_
  rotate_left
  · intro wq hSw; go_simp; (try with_reducible rfl)
  try go_frame
  refine wpAnyH_take (i := 42) (oi := ⟨some 85, _, _, _, _, _⟩) (v := ?_) rfl (by kernel_rfl) (by kernel_rfl) (by kernel_rfl) (fun _ _ _ h => h) (Or.inl ⟨by rfl, ?_⟩) (by assumption) ?_
  rotate_left
  · intro wq hSw; go_simp; (try with_reducible rfl)
  try go_frame
  refine wpAnyH_take (i := 45) (oi := ⟨some 88, _, _, _, _, _⟩) (v := ?_) rfl (by kernel_rfl) (by kernel_rfl) (by kernel_rfl) (fun _ _ _ h => h) (Or.inl ⟨by rfl, ?_⟩) (by assumption) ?_
  rotate_left
  · intro wq hSw; obtain ⟨⟨qz0, qc0, qf0⟩, ⟨qz1, qc1, qf1⟩, ⟨qz2, qc2, qf2⟩, ⟨qz3, qc3, qf3⟩, ⟨qz4, qc4, qf4⟩, ⟨qz5, qc5, qf5⟩, ⟨qz6, qc6, qf6⟩, ⟨qz7, qc7, qf7⟩, _⟩ := hSw.2; go_simp; (try with_reducible rfl)
  try go_frame
  refine wpAnyH_ready (rs := [43]) (by kernel_rfl) (by simp) ?_
  refine AllReadyH.cons (o := ⟨some 86, _, _, _, _, _⟩) rfl (fun K hK => ?_) AllReadyH.nil
  go_simp
  refine hK.out _ _ (by first | exact hHeld2.alloc _ | exact (hHeld2.alloc _).drew) (fun hHeld3 => ?_)
  clear hK K
  try clear hb
  try go_frame
  refine wpAnyH_ready (rs := [44]) (by kernel_rfl) (by simp) ?_
  refine AllReadyH.cons (o := ⟨some 87, _, _, _, _, _⟩) rfl (fun K hK => ?_) AllReadyH.nil
  go_simp
  refine (AT.out _ _ [0, 2, 5, 6] 4 (by simp) rfl (by decide)).mono ?_; rintro e a6 ⟨v6, rfl, hb, ho⟩; have H6 := Lib.hid (readsD_own ho); obtain ⟨A6v, n6v, c6v, hv⟩ : ∃ A n c, v6 = .slice A n c := (by obtain ⟨A, c, e, _⟩ := H6.out; exact ⟨_, _, _, e⟩); subst hv; clear ho
  refine hK.out _ _ (hHeld3.next hb) (fun hHeld4 => ?_)
  clear hK K
  try clear hb
  try go_frame
  refine wpAnyH_ready (rs := [46]) (by kernel_rfl) (by simp) ?_
  refine AllReadyH.cons (o := ⟨some 89, _, _, _, _, _⟩) rfl (fun K hK => ?_) AllReadyH.nil
  go_simp
  refine (TH.out _ _ H6.out).mono ?_; rintro e w7 ⟨rfl, hb⟩
  refine hK.out _ _ (hHeld4.next hb) (fun hHeld5 => ?_)
  clear hK K
  try clear hb
  try go_frame
  refine wpAnyH_take (i := 47) (oi := ⟨some 90, _, _, _, _, _⟩) (v := ?_) rfl (by kernel_rfl) (by kernel_rfl) (by kernel_rfl) (fun _ _ _ h => h) (Or.inl ⟨by rfl, ?_⟩) (by assumption) ?_
  rotate_left
  · intro wq hSw; go_simp; (try with_reducible rfl)
  try go_frame
  refine wpAnyH_take (i := 48) (oi := ⟨some 91, _, _, _, _, _⟩) (v := ?_) rfl (by kernel_rfl) (by kernel_rfl) (by kernel_rfl) (fun _ _ _ h => h) (Or.inl ⟨by rfl, ?_⟩) (by assumption) ?_
  rotate_left
  · intro wq hSw; go_simp; (try with_reducible rfl)
  try go_frame
  refine wpAnyH_take (i := 51) (oi := ⟨some 94, _, _, _, _, _⟩) (v := ?_) rfl (by kernel_rfl) (by kernel_rfl) (by kernel_rfl) (fun _ _ _ h => h) (Or.inl ⟨by rfl, ?_⟩) (by assumption) ?_
  rotate_left
  · intro wq hSw; obtain ⟨⟨qz0, qc0, qf0⟩, ⟨qz1, qc1, qf1⟩, ⟨qz2, qc2, qf2⟩, ⟨qz3, qc3, qf3⟩, ⟨qz4, qc4, qf4⟩, ⟨qz5, qc5, qf5⟩, ⟨qz6, qc6, qf6⟩, ⟨qz7, qc7, qf7⟩, _⟩ := hSw.2; go_simp; (try with_reducible rfl)
  try go_frame
  refine wpAnyH_ready (rs := [49]) (by kernel_rfl) (by simp) ?_
  refine AllReadyH.cons (o := ⟨some 92, _, _, _, _, _⟩) rfl (fun K hK => ?_) AllReadyH.nil
  go_simp
  refine hK.out _ _ (by first | exact hHeld5.alloc _ | exact (hHeld5.alloc _).drew) (fun hHeld6 => ?_)
  clear hK K
  try clear hb
  try go_frame
  refine wpAnyH_ready (rs := [50]) (by kernel_rfl) (by simp) ?_
  refine AllReadyH.cons (o := ⟨some 93, _, _, _, _, _⟩) rfl (fun K hK => ?_) AllReadyH.nil
  go_simp
  refine (AT.out _ _ [0, 1, 5, 6] 4 (by simp) rfl (by decide)).mono ?_; rintro e a7 ⟨v7, rfl, hb, ho⟩; have H7 := Lib.hid (readsD_own ho); obtain ⟨A7v, n7v, c7v, hv⟩ : ∃ A n c, v7 = .slice A n c := (by obtain ⟨A, c, e, _⟩ := H7.out; exact ⟨_, _, _, e⟩); subst hv; clear ho
  refine hK.out _ _ (hHeld6.next hb) (fun hHeld7 => ?_)
  clear hK K
  try clear hb
  try go_frame
  refine wpAnyH_ready (rs := [52]) (by kernel_rfl) (by simp) ?_
  refine AllReadyH.cons (o := ⟨some 95, _, _, _, _, _⟩) rfl (fun K hK => ?_) AllReadyH.nil
  go_simp
  refine (TN.out _ _ H7.out).mono ?_; rintro e w8 ⟨rfl, hb⟩
  refine hK.out _ _ (hHeld7.next hb) (fun hHeld8 => ?_)
  clear hK K
  try clear hb
  try go_frame
  refine wpAnyH_take (i := 53) (oi := ⟨some 96, _, _, _, _, _⟩) (v := ?_) rfl (by kernel_rfl) (by kernel_rfl) (by kernel_rfl) (fun _ _ _ h => h) (Or.inl ⟨by rfl, ?_⟩) (by assumption) ?_
  rotate_left
  · intro wq hSw; go_simp; (try with_reducible rfl)
  try go_frame
  refine wpAnyH_take (i := 54) (oi := ⟨some 97, _, _, _, _, _⟩) (v := ?_) rfl (by kernel_rfl) (by kernel_rfl) (by kernel_rfl) (fun _ _ _ h => h) (Or.inl ⟨by rfl, ?_⟩) (by assumption) ?_
  rotate_left
  · intro wq hSw; go_simp; (try with_reducible rfl)
  try go_frame
  refine wpAnyH_take (i := 55) (oi := ⟨some 0, _, _, _, _, _⟩) (v := ?_) rfl (by kernel_rfl) (by kernel_rfl) (by kernel_rfl) (fun _ _ _ h => h) (Or.inl ⟨by rfl, ?_⟩) (by assumption) ?_
  rotate_left
  · intro wq hSw; go_simp; (try with_reducible rfl)
  try go_frame
  refine wpAnyH_done (by kernel_rfl) ?_ _
  have hHeld := hHeld8
  obtain ⟨⟨kz0, kc0, kf0⟩, ⟨kz1, kc1, kf1⟩, ⟨kz2, kc2, kf2⟩, ⟨kz3, kc3, kf3⟩, ⟨kz4, kc4, kf4⟩, ⟨kz5, kc5, kf5⟩, ⟨kz6, kc6, kf6⟩, ⟨kz7, kc7, kf7⟩, _⟩ := hHeld.2
  all_goals
    go_wp2_with fail
    go_ret
    exact ⟨rfl, under HB.out hHeld.1⟩
end Go.Proofs.YtoephkglpbophaaGreat.P10
