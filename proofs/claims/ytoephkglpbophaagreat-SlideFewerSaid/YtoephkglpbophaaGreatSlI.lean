/-
  Layer 10: slide: ofAll and ofBands over lines, and over slopes. Conditions: those written at each fact.
-/
import Derived.Test.YtoephkglpbophaaGreatSlH
namespace Go.Proofs.YtoephkglpbophaaGreat.P10
open Go.RowKit Go.Shelf Go.Proofs.YtoephkglpbophaaGreat.P8

theorem lowest_of (sa sb sc sd : Int) (v : Value) (W : World) : (callMethod (.iface 52 (.agg #[.int .i64 sa, .int .i64 sb, .int .i64 sc, .int .i64 sd, v])) "yearbook/slide.lowest" #[]).run Tryz.prog W = .ok (.enter 27 #[.agg #[.int .i64 sa, .int .i64 sb, .int .i64 sc, .int .i64 sd]]) W := by kernel_rfl
theorem makes_func (fn : Fn) (first cap : Array Value) (w : World) : (Instr.makeFunc fn first cap).run Tryz.prog w = .ok (.func fn first cap) w := rfl
set_option maxRecDepth 100000 in
set_option maxHeartbeats 4000000 in
theorem allX1_any (l : List Bd) (hk : okD l = true) (x0 x1 x2 x3 code : Int) (A : Option Addr) (c Bt : Nat) (W : World) (H : firN l < l.length ∧ x0 = 0 ∧ x1 = 0 ∧ x2 = 0 ∧ x3 = 0 ∧ code = 181 ∨ firN l = l.length ∧ code = 0)
    (TE : firN l = l.length → ∀ W', Below W.heap.size W W' → Calls Tryz.prog 29 #[fitV (firS l) (.slice A (firN l) (firN l))] W' (Ret W' (.agg #[.int .i64 x0, .int .i64 x1, .int .i64 x2, .int .i64 x3]))) (hbt : Boxed W Bt 71 (.func (.func 29) #[] #[])) (h : ReadsD W (.slice A l.length c) l) :
    Calls Tryz.prog 52 #[.slice A l.length c, .pointer (some ⟨Bt, 0, none⟩)] W (Ret W (.tuple #[.agg #[.int .i64 x0, .int .i64 x1, .int .i64 x2, .int .i64 x3], .int .i64 code])) := by
  have hne := okD_ne hk
  have hl := (okD_facts hk).2.1
  obtain ⟨bb, off, rfl⟩ := readsD_some h hne
  have FA := Lib.hid (fun W' (hb' : Below W.heap.size W W') => first_any l hne (by omega) (row_ok hk) bb off c W' (h.below hb'))
  have hct := hbt.cell
  have hbtl := hbt.lt
  rcases H with ⟨g, rfl, rfl, rfl, rfl, rfl⟩ | ⟨g, rfl⟩
  · have i1 : (firN l : Int) < (l.length : Int) := by omega
    clear TE h hk hne hbt g hl
    generalize firS l = s at *
    generalize firN l = n at *
    generalize l.length = m at *
    obtain ⟨sa, sb, sc, sd⟩ := s
    go_enter Tryz.func52, Tryz.ntmps52
    go_wp2_with fail
    refine (FA.out _ (below_alloc W _)).mono ?_
    rintro en w1 ⟨rfl, hb1⟩
    have hHeld : Keeps W [(W.heap.size, 0, .int .i64 0), (W.heap.size, 1, .int .i64 0), (W.heap.size, 2, .int .i64 0), (W.heap.size, 3, .int .i64 0)] w1 := Keeps.next (by refine ⟨below_alloc W _, ?_⟩; simp [Cells, go_sem]) hb1
    obtain ⟨⟨kz0, kc0, kf0⟩, ⟨kz1, kc1, kf1⟩, ⟨kz2, kc2, kf2⟩, ⟨kz3, kc3, kf3⟩, _⟩ := hHeld.2
    have HB := Lib.hid hHeld.1
    have hct1 := (hHeld.1.cell (p := ⟨Bt, 0, none⟩) hbtl).trans hct
    have hbt1 := Nat.lt_of_lt_of_le hbtl hHeld.1.size
    have hK := ((hHeld.upd4 (Nat.le_refl _) (by simp) (.int .i64 0) (.int .i64 0) (.int .i64 0) (.int .i64 0)).alloc (.cells #[.int .i64 sa, .int .i64 sb, .int .i64 sc, .int .i64 sd, .slice (some ⟨bb, off, none⟩) n n] 52)).alloc (.cells #[.int .i64 0, .int .i64 0, .int .i64 0, .int .i64 0] 37)
    have HK := Lib.hid hK
    clear hb1 hHeld FA hK
    go_wp2_with fail
    obtain ⟨hb, ⟨_, d0, _⟩, ⟨_, d1, _⟩, ⟨_, d2, _⟩, ⟨_, d3, _⟩, _⟩ := HK.out
    refine bodyPost_ret (v := .tuple #[.agg #[.int .i64 0, .int .i64 0, .int .i64 0, .int .i64 0], .int .i64 181]) (by simp [results, Tryz.results52, go_sem, d0, d1, d2, d3]) rfl ⟨rfl, hb⟩
  · have TL := Lib.hid (TE g)
    rw [g] at FA
    try rw [g] at TL
    have i1 : ¬ (l.length : Int) < (l.length : Int) := by omega
    clear TE h hk hne hbt hl g
    generalize firS l = s at *
    generalize l.length = n at *
    obtain ⟨sa, sb, sc, sd⟩ := s
    go_enter Tryz.func52, Tryz.ntmps52
    go_wp2_with fail
    refine (FA.out _ (below_alloc W _)).mono ?_
    rintro en w1 ⟨rfl, hb1⟩
    have hHeld : Keeps W [(W.heap.size, 0, .int .i64 0), (W.heap.size, 1, .int .i64 0), (W.heap.size, 2, .int .i64 0), (W.heap.size, 3, .int .i64 0)] w1 := Keeps.next (by refine ⟨below_alloc W _, ?_⟩; simp [Cells, go_sem]) hb1
    obtain ⟨⟨kz0, kc0, kf0⟩, ⟨kz1, kc1, kf1⟩, ⟨kz2, kc2, kf2⟩, ⟨kz3, kc3, kf3⟩, _⟩ := hHeld.2
    have HB := Lib.hid hHeld.1
    have hct1 := (hHeld.1.cell (p := ⟨Bt, 0, none⟩) hbtl).trans hct
    have hbt1 := Nat.lt_of_lt_of_le hbtl hHeld.1.size
    have hH2 := hHeld.alloc (.cells #[.int .i64 sa, .int .i64 sb, .int .i64 sc, .int .i64 sd, .slice (some ⟨bb, off, none⟩) n n] 52)
    clear hb1 hHeld FA
    go_wp2_with fail
    refine (TL.out _ hH2.1).mono ?_
    rintro en w2 ⟨rfl, hb2⟩
    replace hH2 := hH2.next hb2
    clear hb2 kz0 kc0 kf0 kz1 kc1 kf1 kz2 kc2 kf2 kz3 kc3 kf3
    obtain ⟨⟨kz0, kc0, kf0⟩, ⟨kz1, kc1, kf1⟩, ⟨kz2, kc2, kf2⟩, ⟨kz3, kc3, kf3⟩, _⟩ := hH2.2
    have hK := hH2.upd4 (Nat.le_refl _) (by simp) (.int .i64 x0) (.int .i64 x1) (.int .i64 x2) (.int .i64 x3)
    have HK := Lib.hid hK
    clear hK hH2
    go_wp2_with fail
    obtain ⟨hb, ⟨_, d0, _⟩, ⟨_, d1, _⟩, ⟨_, d2, _⟩, ⟨_, d3, _⟩, _⟩ := HK.out
    refine bodyPost_ret (v := .tuple #[.agg #[.int .i64 x0, .int .i64 x1, .int .i64 x2, .int .i64 x3], .int .i64 0]) (by simp [results, Tryz.results52, go_sem, d0, d1, d2, d3]) rfl ⟨rfl, hb⟩
set_option maxHeartbeats 4000000 in
theorem ofX_any (l : List Bd) (hl : l.length ≤ 9223372036854775807) (K : Nat) (caps : Array Value) (eK : ∀ args w, (callFunc K args).run Tryz.prog w = .ok (.enter K args) w) (x0 x1 x2 x3 code : Int) (v : Value) (w : World) (h : ReadsD w v l)
    (hF : okD l = true → ∀ W, Below w.heap.size w W → Calls Tryz.prog K (#[v] ++ caps) W (Ret W (.tuple #[.agg #[.int .i64 x0, .int .i64 x1, .int .i64 x2, .int .i64 x3], .int .i64 code]))) :
    Calls Tryz.prog 51 #[v, .func (.func K) #[] caps] w (Ret w (if okD l then .tuple #[.agg #[.int .i64 x0, .int .i64 x1, .int .i64 x2, .int .i64 x3], .int .i64 code] else .tuple #[.agg #[.int .i64 0, .int .i64 0, .int .i64 0, .int .i64 0], .int .i64 180])) := by
  have hr := h
  obtain ⟨A, c, rfl, _, _⟩ := h
  have BC := Lib.hid (fun W (hb : Below w.heap.size w W) => bcheck_any l hl _ W (hr.below hb))
  clear hr
  cases gk : okD l
  · rw [gk] at BC
    clear hF gk
    simp only [Bool.false_eq_true, if_false] at BC ⊢
    go_enter Tryz.func51, Tryz.ntmps51
    go_wp2_with fail
    refine (BC.out _ (below_alloc w _)).mono ?_
    rintro en w1 ⟨rfl, hb1⟩
    have hHeld : Keeps w [(w.heap.size, 0, .int .i64 0), (w.heap.size, 1, .int .i64 0), (w.heap.size, 2, .int .i64 0), (w.heap.size, 3, .int .i64 0)] w1 := Keeps.next (by refine ⟨below_alloc w _, ?_⟩; simp [Cells, go_sem]) hb1
    obtain ⟨⟨kz0, kc0, kf0⟩, ⟨kz1, kc1, kf1⟩, ⟨kz2, kc2, kf2⟩, ⟨kz3, kc3, kf3⟩, _⟩ := hHeld.2
    have hK := (hHeld.upd4 (Nat.le_refl _) (by simp) (.int .i64 0) (.int .i64 0) (.int .i64 0) (.int .i64 0)).alloc (.cells #[.int .i64 0, .int .i64 0, .int .i64 0, .int .i64 0] 37)
    have HK := Lib.hid hK
    clear hb1 hHeld hK
    go_wp2_with fail
    obtain ⟨hb, ⟨_, d0, _⟩, ⟨_, d1, _⟩, ⟨_, d2, _⟩, ⟨_, d3, _⟩, _⟩ := HK.out
    refine bodyPost_ret (v := .tuple #[.agg #[.int .i64 0, .int .i64 0, .int .i64 0, .int .i64 0], .int .i64 180]) (by simp [results, Tryz.results51, go_sem, d0, d1, d2, d3]) rfl ⟨rfl, hb⟩
  · have HF := Lib.hid (hF gk)
    rw [gk] at BC
    simp only [if_true] at BC ⊢
    clear hF gk
    go_enter Tryz.func51, Tryz.ntmps51
    go_wp2_with fail
    refine (BC.out _ (below_alloc w _)).mono ?_
    rintro en w1 ⟨rfl, hb1⟩
    have hHeld : Keeps w [(w.heap.size, 0, .int .i64 0), (w.heap.size, 1, .int .i64 0), (w.heap.size, 2, .int .i64 0), (w.heap.size, 3, .int .i64 0)] w1 := Keeps.next (by refine ⟨below_alloc w _, ?_⟩; simp [Cells, go_sem]) hb1
    have HF1 := Lib.hid (HF.out w1 hHeld.1)
    clear hb1 HF
    go_wp2_with fail
    refine HF1.out.mono ?_
    rintro en w2 ⟨rfl, hb2⟩
    replace hHeld := hHeld.next hb2
    clear hb2
    obtain ⟨⟨kz0, kc0, kf0⟩, ⟨kz1, kc1, kf1⟩, ⟨kz2, kc2, kf2⟩, ⟨kz3, kc3, kf3⟩, _⟩ := hHeld.2
    have HK := Lib.hid (hHeld.upd4 (Nat.le_refl _) (by simp) (.int .i64 x0) (.int .i64 x1) (.int .i64 x2) (.int .i64 x3))
    clear hHeld
    go_wp2_with fail
    obtain ⟨hb, ⟨_, d0, _⟩, ⟨_, d1, _⟩, ⟨_, d2, _⟩, ⟨_, d3, _⟩, _⟩ := HK.out
    refine bodyPost_ret (v := .tuple #[.agg #[.int .i64 x0, .int .i64 x1, .int .i64 x2, .int .i64 x3], .int .i64 code]) (by simp [results, Tryz.results51, go_sem, d0, d1, d2, d3]) rfl ⟨rfl, hb⟩
set_option maxHeartbeats 4000000 in
theorem oaX_any (l : List Bd) (hl : l.length ≤ 9223372036854775807) (x0 x1 x2 x3 code : Int) (A : Option Addr) (c : Nat) (w : World) (h : ReadsD w (.slice A l.length c) l)
    (H : okD l = false ∧ x0 = 0 ∧ x1 = 0 ∧ x2 = 0 ∧ x3 = 0 ∧ code = 180 ∨ okD l = true ∧ (firN l < l.length ∧ x0 = 0 ∧ x1 = 0 ∧ x2 = 0 ∧ x3 = 0 ∧ code = 181 ∨ firN l = l.length ∧ code = 0))
    (TE : okD l = true → firN l = l.length → ∀ W', Below w.heap.size w W' → Calls Tryz.prog 29 #[fitV (firS l) (.slice A (firN l) (firN l))] W' (Ret W' (.agg #[.int .i64 x0, .int .i64 x1, .int .i64 x2, .int .i64 x3]))) :
    Calls Tryz.prog 28 #[.slice A l.length c, (.func (.func 29) #[] #[])] w (Ret w (.tuple #[.agg #[.int .i64 x0, .int .i64 x1, .int .i64 x2, .int .i64 x3], .int .i64 code])) := by
  have hmf := makes_func
  have HF := Lib.hid (fun W (hb : Below w.heap.size w W) (hbx : Boxed W w.heap.size 71 (.func (.func 29) #[] #[])) => ofX_any l hl 52 #[.pointer (some ⟨w.heap.size, 0, none⟩)] (enters_of Tryz.func52 (by kernel_rfl) rfl) x0 x1 x2 x3 code (.slice A l.length c) W (h.below hb)
    (fun gk W' hb' => allX1_any l gk x0 x1 x2 x3 code A c w.heap.size W' (by
      rcases H with ⟨g, _⟩ | ⟨_, g⟩
      · rw [g] at gk; cases gk
      · exact g) (fun hn W2 hb2 => TE gk hn W2 (under (under hb hb') hb2)) ((hb'.block _ hbx.lt).trans hbx) ((h.below hb).below hb')))
  have HE : Hid ((if okD l then Value.tuple #[.agg #[.int .i64 x0, .int .i64 x1, .int .i64 x2, .int .i64 x3], .int .i64 code] else .tuple #[.agg #[.int .i64 0, .int .i64 0, .int .i64 0, .int .i64 0], .int .i64 180]) = .tuple #[.agg #[.int .i64 x0, .int .i64 x1, .int .i64 x2, .int .i64 x3], .int .i64 code]) := Lib.hid (by
    rcases H with ⟨g, rfl, rfl, rfl, rfl, rfl⟩ | ⟨g, _⟩
    · simp [g]
    · simp [g])
  clear H TE h
  go_enter Tryz.func28, Tryz.ntmps28
  go_wp2_with fail
  have hb : Below w.heap.size w ((w.alloc (.cells #[(.func (.func 29) #[] #[])] 71)).alloc (.cells #[.int .i64 0, .int .i64 0, .int .i64 0, .int .i64 0] 37)) := ((Below.refl _ w).alloc (Nat.le_refl _) _).alloc (by simp) _
  have HF1 := HF.out _ hb ((Boxed.new w _ _).alloc _)
  rw [HE.out] at HF1
  refine HF1.mono ?_
  rintro en w1 ⟨rfl, hb1⟩
  have hHeld : Keeps w [(w.heap.size + 1, 0, .int .i64 0), (w.heap.size + 1, 1, .int .i64 0), (w.heap.size + 1, 2, .int .i64 0), (w.heap.size + 1, 3, .int .i64 0)] w1 := Keeps.next (by refine ⟨hb, ?_⟩; simp [Cells, go_sem]) hb1
  obtain ⟨⟨kz0, kc0, kf0⟩, ⟨kz1, kc1, kf1⟩, ⟨kz2, kc2, kf2⟩, ⟨kz3, kc3, kf3⟩, _⟩ := hHeld.2
  have HK := Lib.hid (hHeld.upd4 (by omega) (by simp) (.int .i64 x0) (.int .i64 x1) (.int .i64 x2) (.int .i64 x3))
  clear hHeld hb1 HF1 HF HE hb
  go_wp2_with fail
  obtain ⟨hb, ⟨_, d0, _⟩, ⟨_, d1, _⟩, ⟨_, d2, _⟩, ⟨_, d3, _⟩, _⟩ := HK.out
  refine bodyPost_ret (v := .tuple #[.agg #[.int .i64 x0, .int .i64 x1, .int .i64 x2, .int .i64 x3], .int .i64 code]) (by simp [results, Tryz.results28, go_sem, d0, d1, d2, d3]) rfl ⟨rfl, hb⟩
set_option maxRecDepth 100000 in
set_option maxHeartbeats 4000000 in
theorem allS1_any (l : List Bd) (hk : okD l = true) (x0 x1 x2 x3 code : Int) (A : Option Addr) (c Bt : Nat) (W : World) (H : firN l < l.length ∧ x0 = 0 ∧ x1 = 0 ∧ x2 = 0 ∧ x3 = 0 ∧ code = 181 ∨ firN l = l.length ∧ code = 0)
    (TE : firN l = l.length → ∀ W', Below W.heap.size W W' → Calls Tryz.prog 27 #[arV (firS l)] W' (Ret W' (.agg #[.int .i64 x0, .int .i64 x1, .int .i64 x2, .int .i64 x3]))) (hbt : Boxed W Bt 67 (.func (.methodOf 52 "yearbook/slide.lowest") #[] #[])) (h : ReadsD W (.slice A l.length c) l) :
    Calls Tryz.prog 49 #[.slice A l.length c, .pointer (some ⟨Bt, 0, none⟩)] W (Ret W (.tuple #[.agg #[.int .i64 x0, .int .i64 x1, .int .i64 x2, .int .i64 x3], .int .i64 code])) := by
  have hne := okD_ne hk
  have hl := (okD_facts hk).2.1
  obtain ⟨bb, off, rfl⟩ := readsD_some h hne
  have FA := Lib.hid (fun W' (hb' : Below W.heap.size W W') => first_any l hne (by omega) (row_ok hk) bb off c W' (h.below hb'))
  have hct := hbt.cell
  have hbtl := hbt.lt
  rcases H with ⟨g, rfl, rfl, rfl, rfl, rfl⟩ | ⟨g, rfl⟩
  · have i1 : (firN l : Int) < (l.length : Int) := by omega
    clear TE h hk hne hbt g hl
    generalize firS l = s at *
    generalize firN l = n at *
    generalize l.length = m at *
    obtain ⟨sa, sb, sc, sd⟩ := s
    go_enter Tryz.func49, Tryz.ntmps49
    go_wp2_with fail
    refine (FA.out _ (below_alloc W _)).mono ?_
    rintro en w1 ⟨rfl, hb1⟩
    have hHeld : Keeps W [(W.heap.size, 0, .int .i64 0), (W.heap.size, 1, .int .i64 0), (W.heap.size, 2, .int .i64 0), (W.heap.size, 3, .int .i64 0)] w1 := Keeps.next (by refine ⟨below_alloc W _, ?_⟩; simp [Cells, go_sem]) hb1
    obtain ⟨⟨kz0, kc0, kf0⟩, ⟨kz1, kc1, kf1⟩, ⟨kz2, kc2, kf2⟩, ⟨kz3, kc3, kf3⟩, _⟩ := hHeld.2
    have HB := Lib.hid hHeld.1
    have hct1 := (hHeld.1.cell (p := ⟨Bt, 0, none⟩) hbtl).trans hct
    have hbt1 := Nat.lt_of_lt_of_le hbtl hHeld.1.size
    have hK := ((hHeld.upd4 (Nat.le_refl _) (by simp) (.int .i64 0) (.int .i64 0) (.int .i64 0) (.int .i64 0)).alloc (.cells #[.int .i64 sa, .int .i64 sb, .int .i64 sc, .int .i64 sd, .slice (some ⟨bb, off, none⟩) n n] 52)).alloc (.cells #[.int .i64 0, .int .i64 0, .int .i64 0, .int .i64 0] 50)
    have HK := Lib.hid hK
    clear hb1 hHeld FA hK
    go_wp2_with fail
    obtain ⟨hb, ⟨_, d0, _⟩, ⟨_, d1, _⟩, ⟨_, d2, _⟩, ⟨_, d3, _⟩, _⟩ := HK.out
    refine bodyPost_ret (v := .tuple #[.agg #[.int .i64 0, .int .i64 0, .int .i64 0, .int .i64 0], .int .i64 181]) (by simp [results, Tryz.results49, go_sem, d0, d1, d2, d3]) rfl ⟨rfl, hb⟩
  · have TL := Lib.hid (TE g)
    rw [g] at FA
    try rw [g] at TL
    have i1 : ¬ (l.length : Int) < (l.length : Int) := by omega
    clear TE h hk hne hbt hl g
    generalize firS l = s at *
    generalize l.length = n at *
    obtain ⟨sa, sb, sc, sd⟩ := s
    have hinv := lowest_of
    go_enter Tryz.func49, Tryz.ntmps49
    go_wp2_with fail
    refine (FA.out _ (below_alloc W _)).mono ?_
    rintro en w1 ⟨rfl, hb1⟩
    have hHeld : Keeps W [(W.heap.size, 0, .int .i64 0), (W.heap.size, 1, .int .i64 0), (W.heap.size, 2, .int .i64 0), (W.heap.size, 3, .int .i64 0)] w1 := Keeps.next (by refine ⟨below_alloc W _, ?_⟩; simp [Cells, go_sem]) hb1
    obtain ⟨⟨kz0, kc0, kf0⟩, ⟨kz1, kc1, kf1⟩, ⟨kz2, kc2, kf2⟩, ⟨kz3, kc3, kf3⟩, _⟩ := hHeld.2
    have HB := Lib.hid hHeld.1
    have hct1 := (hHeld.1.cell (p := ⟨Bt, 0, none⟩) hbtl).trans hct
    have hbt1 := Nat.lt_of_lt_of_le hbtl hHeld.1.size
    have hH2 := hHeld.alloc (.cells #[.int .i64 sa, .int .i64 sb, .int .i64 sc, .int .i64 sd, .slice (some ⟨bb, off, none⟩) n n] 52)
    clear hb1 hHeld FA
    go_wp2_with fail
    refine (TL.out _ hH2.1).mono ?_
    rintro en w2 ⟨rfl, hb2⟩
    replace hH2 := hH2.next hb2
    clear hb2 kz0 kc0 kf0 kz1 kc1 kf1 kz2 kc2 kf2 kz3 kc3 kf3
    obtain ⟨⟨kz0, kc0, kf0⟩, ⟨kz1, kc1, kf1⟩, ⟨kz2, kc2, kf2⟩, ⟨kz3, kc3, kf3⟩, _⟩ := hH2.2
    have hK := hH2.upd4 (Nat.le_refl _) (by simp) (.int .i64 x0) (.int .i64 x1) (.int .i64 x2) (.int .i64 x3)
    have HK := Lib.hid hK
    clear hK hH2
    go_wp2_with fail
    obtain ⟨hb, ⟨_, d0, _⟩, ⟨_, d1, _⟩, ⟨_, d2, _⟩, ⟨_, d3, _⟩, _⟩ := HK.out
    refine bodyPost_ret (v := .tuple #[.agg #[.int .i64 x0, .int .i64 x1, .int .i64 x2, .int .i64 x3], .int .i64 0]) (by simp [results, Tryz.results49, go_sem, d0, d1, d2, d3]) rfl ⟨rfl, hb⟩
set_option maxHeartbeats 4000000 in
theorem ofS_any (l : List Bd) (hl : l.length ≤ 9223372036854775807) (K : Nat) (caps : Array Value) (eK : ∀ args w, (callFunc K args).run Tryz.prog w = .ok (.enter K args) w) (x0 x1 x2 x3 code : Int) (v : Value) (w : World) (h : ReadsD w v l)
    (hF : okD l = true → ∀ W, Below w.heap.size w W → Calls Tryz.prog K (#[v] ++ caps) W (Ret W (.tuple #[.agg #[.int .i64 x0, .int .i64 x1, .int .i64 x2, .int .i64 x3], .int .i64 code]))) :
    Calls Tryz.prog 48 #[v, .func (.func K) #[] caps] w (Ret w (if okD l then .tuple #[.agg #[.int .i64 x0, .int .i64 x1, .int .i64 x2, .int .i64 x3], .int .i64 code] else .tuple #[.agg #[.int .i64 0, .int .i64 0, .int .i64 0, .int .i64 0], .int .i64 180])) := by
  have hr := h
  obtain ⟨A, c, rfl, _, _⟩ := h
  have BC := Lib.hid (fun W (hb : Below w.heap.size w W) => bcheck_any l hl _ W (hr.below hb))
  clear hr
  cases gk : okD l
  · rw [gk] at BC
    clear hF gk
    simp only [Bool.false_eq_true, if_false] at BC ⊢
    go_enter Tryz.func48, Tryz.ntmps48
    go_wp2_with fail
    refine (BC.out _ (below_alloc w _)).mono ?_
    rintro en w1 ⟨rfl, hb1⟩
    have hHeld : Keeps w [(w.heap.size, 0, .int .i64 0), (w.heap.size, 1, .int .i64 0), (w.heap.size, 2, .int .i64 0), (w.heap.size, 3, .int .i64 0)] w1 := Keeps.next (by refine ⟨below_alloc w _, ?_⟩; simp [Cells, go_sem]) hb1
    obtain ⟨⟨kz0, kc0, kf0⟩, ⟨kz1, kc1, kf1⟩, ⟨kz2, kc2, kf2⟩, ⟨kz3, kc3, kf3⟩, _⟩ := hHeld.2
    have hK := (hHeld.upd4 (Nat.le_refl _) (by simp) (.int .i64 0) (.int .i64 0) (.int .i64 0) (.int .i64 0)).alloc (.cells #[.int .i64 0, .int .i64 0, .int .i64 0, .int .i64 0] 50)
    have HK := Lib.hid hK
    clear hb1 hHeld hK
    go_wp2_with fail
    obtain ⟨hb, ⟨_, d0, _⟩, ⟨_, d1, _⟩, ⟨_, d2, _⟩, ⟨_, d3, _⟩, _⟩ := HK.out
    refine bodyPost_ret (v := .tuple #[.agg #[.int .i64 0, .int .i64 0, .int .i64 0, .int .i64 0], .int .i64 180]) (by simp [results, Tryz.results48, go_sem, d0, d1, d2, d3]) rfl ⟨rfl, hb⟩
  · have HF := Lib.hid (hF gk)
    rw [gk] at BC
    simp only [if_true] at BC ⊢
    clear hF gk
    go_enter Tryz.func48, Tryz.ntmps48
    go_wp2_with fail
    refine (BC.out _ (below_alloc w _)).mono ?_
    rintro en w1 ⟨rfl, hb1⟩
    have hHeld : Keeps w [(w.heap.size, 0, .int .i64 0), (w.heap.size, 1, .int .i64 0), (w.heap.size, 2, .int .i64 0), (w.heap.size, 3, .int .i64 0)] w1 := Keeps.next (by refine ⟨below_alloc w _, ?_⟩; simp [Cells, go_sem]) hb1
    have HF1 := Lib.hid (HF.out w1 hHeld.1)
    clear hb1 HF
    go_wp2_with fail
    refine HF1.out.mono ?_
    rintro en w2 ⟨rfl, hb2⟩
    replace hHeld := hHeld.next hb2
    clear hb2
    obtain ⟨⟨kz0, kc0, kf0⟩, ⟨kz1, kc1, kf1⟩, ⟨kz2, kc2, kf2⟩, ⟨kz3, kc3, kf3⟩, _⟩ := hHeld.2
    have HK := Lib.hid (hHeld.upd4 (Nat.le_refl _) (by simp) (.int .i64 x0) (.int .i64 x1) (.int .i64 x2) (.int .i64 x3))
    clear hHeld
    go_wp2_with fail
    obtain ⟨hb, ⟨_, d0, _⟩, ⟨_, d1, _⟩, ⟨_, d2, _⟩, ⟨_, d3, _⟩, _⟩ := HK.out
    refine bodyPost_ret (v := .tuple #[.agg #[.int .i64 x0, .int .i64 x1, .int .i64 x2, .int .i64 x3], .int .i64 code]) (by simp [results, Tryz.results48, go_sem, d0, d1, d2, d3]) rfl ⟨rfl, hb⟩
set_option maxHeartbeats 4000000 in
theorem oaS_any (l : List Bd) (hl : l.length ≤ 9223372036854775807) (x0 x1 x2 x3 code : Int) (A : Option Addr) (c : Nat) (w : World) (h : ReadsD w (.slice A l.length c) l)
    (H : okD l = false ∧ x0 = 0 ∧ x1 = 0 ∧ x2 = 0 ∧ x3 = 0 ∧ code = 180 ∨ okD l = true ∧ (firN l < l.length ∧ x0 = 0 ∧ x1 = 0 ∧ x2 = 0 ∧ x3 = 0 ∧ code = 181 ∨ firN l = l.length ∧ code = 0))
    (TE : okD l = true → firN l = l.length → ∀ W', Below w.heap.size w W' → Calls Tryz.prog 27 #[arV (firS l)] W' (Ret W' (.agg #[.int .i64 x0, .int .i64 x1, .int .i64 x2, .int .i64 x3]))) :
    Calls Tryz.prog 26 #[.slice A l.length c, (.func (.methodOf 52 "yearbook/slide.lowest") #[] #[])] w (Ret w (.tuple #[.agg #[.int .i64 x0, .int .i64 x1, .int .i64 x2, .int .i64 x3], .int .i64 code])) := by
  have hmf := makes_func
  have HF := Lib.hid (fun W (hb : Below w.heap.size w W) (hbx : Boxed W w.heap.size 67 (.func (.methodOf 52 "yearbook/slide.lowest") #[] #[])) => ofS_any l hl 49 #[.pointer (some ⟨w.heap.size, 0, none⟩)] (enters_of Tryz.func49 (by kernel_rfl) rfl) x0 x1 x2 x3 code (.slice A l.length c) W (h.below hb)
    (fun gk W' hb' => allS1_any l gk x0 x1 x2 x3 code A c w.heap.size W' (by
      rcases H with ⟨g, _⟩ | ⟨_, g⟩
      · rw [g] at gk; cases gk
      · exact g) (fun hn W2 hb2 => TE gk hn W2 (under (under hb hb') hb2)) ((hb'.block _ hbx.lt).trans hbx) ((h.below hb).below hb')))
  have HE : Hid ((if okD l then Value.tuple #[.agg #[.int .i64 x0, .int .i64 x1, .int .i64 x2, .int .i64 x3], .int .i64 code] else .tuple #[.agg #[.int .i64 0, .int .i64 0, .int .i64 0, .int .i64 0], .int .i64 180]) = .tuple #[.agg #[.int .i64 x0, .int .i64 x1, .int .i64 x2, .int .i64 x3], .int .i64 code]) := Lib.hid (by
    rcases H with ⟨g, rfl, rfl, rfl, rfl, rfl⟩ | ⟨g, _⟩
    · simp [g]
    · simp [g])
  clear H TE h
  go_enter Tryz.func26, Tryz.ntmps26
  go_wp2_with fail
  have hb : Below w.heap.size w ((w.alloc (.cells #[(.func (.methodOf 52 "yearbook/slide.lowest") #[] #[])] 67)).alloc (.cells #[.int .i64 0, .int .i64 0, .int .i64 0, .int .i64 0] 50)) := ((Below.refl _ w).alloc (Nat.le_refl _) _).alloc (by simp) _
  have HF1 := HF.out _ hb ((Boxed.new w _ _).alloc _)
  rw [HE.out] at HF1
  refine HF1.mono ?_
  rintro en w1 ⟨rfl, hb1⟩
  have hHeld : Keeps w [(w.heap.size + 1, 0, .int .i64 0), (w.heap.size + 1, 1, .int .i64 0), (w.heap.size + 1, 2, .int .i64 0), (w.heap.size + 1, 3, .int .i64 0)] w1 := Keeps.next (by refine ⟨hb, ?_⟩; simp [Cells, go_sem]) hb1
  obtain ⟨⟨kz0, kc0, kf0⟩, ⟨kz1, kc1, kf1⟩, ⟨kz2, kc2, kf2⟩, ⟨kz3, kc3, kf3⟩, _⟩ := hHeld.2
  have HK := Lib.hid (hHeld.upd4 (by omega) (by simp) (.int .i64 x0) (.int .i64 x1) (.int .i64 x2) (.int .i64 x3))
  clear hHeld hb1 HF1 HF HE hb
  go_wp2_with fail
  obtain ⟨hb, ⟨_, d0, _⟩, ⟨_, d1, _⟩, ⟨_, d2, _⟩, ⟨_, d3, _⟩, _⟩ := HK.out
  refine bodyPost_ret (v := .tuple #[.agg #[.int .i64 x0, .int .i64 x1, .int .i64 x2, .int .i64 x3], .int .i64 code]) (by simp [results, Tryz.results26, go_sem, d0, d1, d2, d3]) rfl ⟨rfl, hb⟩
end Go.Proofs.YtoephkglpbophaaGreat.P10
