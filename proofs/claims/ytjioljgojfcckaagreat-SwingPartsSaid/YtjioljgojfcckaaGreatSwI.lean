/-
  Layer 9: swing: Hinge and Fit. Conditions: those written at each fact.
-/
import Derived.Test.YtjioljgojfcckaaGreatSwH
namespace Go.Proofs.YtjioljgojfcckaaGreat.P9
open Go.RowKit Go.Shelf Go.Proofs.YtjioljgojfcckaaGreat.P8

/-- What Fit tells. -/
def fitE (l : List Bd) : Int := if okD l then (if firN l < l.length then 4 else 0) else 180
def fitA (l : List Bd) : Int := if fitE l = 0 then (firX l).v else 0
def fitN (l : List Bd) : Int := if fitE l = 0 then flatN (firX l) else 0
def fitD9 (l : List Bd) : Int := if fitE l = 0 then flatE (firX l) else 0
theorem field1 (t v : Int) (W : World) : (Instr.field 47 (hgV t v) 1).run Tryz.prog W = .ok (.int .i64 v) W :=
  run_field W _ _ _ 1 _ _ Tryz.underlying47 rfl (Tryz.isAgg2 W) rfl
theorem tv_step (x : Dr) (b : Bd) : (stepD x b).t = x.t ∧ (stepD x b).v = x.v := by
  unfold stepD
  split <;> exact ⟨rfl, rfl⟩
theorem tv_fold : ∀ (l : List Bd) (x : Dr), (fD x l).t = x.t ∧ (fD x l).v = x.v
  | [], _ => ⟨rfl, rfl⟩
  | b :: l, x => by
    have h := tv_fold l (stepD x b)
    obtain ⟨h1, h2⟩ := tv_step x b
    exact ⟨h.1.trans h1, h.2.trans h2⟩
theorem firX_ok {l : List Bd} (hne : l ≠ []) (hR : ∀ r ∈ l, BdOk r) : DrOk (firX l) := by
  cases l with
  | nil => exact absurd rfl hne
  | cons b l => exact fD_ok _ (open_ok (hR b (List.mem_cons_self ..))) (fun c hc => hR c (List.mem_of_mem_take hc))
theorem goS_open : ∀ (l : List Bd) (x : Dr), shutD x = false → shutD (fD x (l.take (goS x l))) = false
  | [], _, h => h
  | b :: l, x, h => by
    rw [goS]
    split
    · exact h
    · rename_i g
      exact goS_open l (stepD x b) (by simpa using g)
theorem firX_open {l : List Bd} (hne : l ≠ []) : shutD (firX l) = false := by
  cases l with
  | nil => exact absurd rfl hne
  | cons b l => exact goS_open (b :: l) (open0 b) (open_unshut b)
section
attribute [local go_sem] field1
end
theorem set4a {W : World} {B : Nat} {u0 u1 u2 u3 a0 a1 a2 a3 : Value} (hz : B < W.heap.size) (h0 : W.cell? ⟨B, 0, none⟩ = some a0) (h1 : W.cell? ⟨B, 1, none⟩ = some a1) (h2 : W.cell? ⟨B, 2, none⟩ = some a2) (h3 : W.cell? ⟨B, 3, none⟩ = some a3) (o : Obj) :
    (((((W.setCell ⟨B, 0, none⟩ u0).setCell ⟨B, 1, none⟩ u1).setCell ⟨B, 2, none⟩ u2).setCell ⟨B, 3, none⟩ u3).alloc o).cell? ⟨B, 0, none⟩ = some u0 ∧ (((((W.setCell ⟨B, 0, none⟩ u0).setCell ⟨B, 1, none⟩ u1).setCell ⟨B, 2, none⟩ u2).setCell ⟨B, 3, none⟩ u3).alloc o).cell? ⟨B, 1, none⟩ = some u1 ∧
      (((((W.setCell ⟨B, 0, none⟩ u0).setCell ⟨B, 1, none⟩ u1).setCell ⟨B, 2, none⟩ u2).setCell ⟨B, 3, none⟩ u3).alloc o).cell? ⟨B, 2, none⟩ = some u2 ∧ (((((W.setCell ⟨B, 0, none⟩ u0).setCell ⟨B, 1, none⟩ u1).setCell ⟨B, 2, none⟩ u2).setCell ⟨B, 3, none⟩ u3).alloc o).cell? ⟨B, 3, none⟩ = some u3 := by
  obtain ⟨d0, d1, d2, d3⟩ := set4 (u0 := u0) (u1 := u1) (u2 := u2) (u3 := u3) h0 h1 h2 h3
  have hin := below_alloc ((((W.setCell ⟨B, 0, none⟩ u0).setCell ⟨B, 1, none⟩ u1).setCell ⟨B, 2, none⟩ u2).setCell ⟨B, 3, none⟩ u3) o
  exact ⟨(hin.cell (by simpa using hz)).trans d0, (hin.cell (by simpa using hz)).trans d1, (hin.cell (by simpa using hz)).trans d2, (hin.cell (by simpa using hz)).trans d3⟩
theorem below_set4 {n : Nat} {w W : World} {B : Nat} (h : Below n w W) (hB : n ≤ B) (u0 u1 u2 u3 : Value) : Below n w ((((W.setCell ⟨B, 0, none⟩ u0).setCell ⟨B, 1, none⟩ u1).setCell ⟨B, 2, none⟩ u2).setCell ⟨B, 3, none⟩ u3) :=
  (((h.setCell (p := ⟨B, 0, none⟩) hB _).setCell (p := ⟨B, 1, none⟩) hB _).setCell (p := ⟨B, 2, none⟩) hB _).setCell (p := ⟨B, 3, none⟩) hB _
set_option maxHeartbeats 2000000 in
theorem fit1_any (l : List Bd) (hk : okD l = true) (v : Value) (W : World) (B : Nat) (hb : Boxed W B 24 v) (h : ReadsD W v l) :
    Calls Tryz.prog 20 #[.pointer (some ⟨B, 0, none⟩)] W (Ret W (.tuple #[lnV (fitA l) 0 (fitN l) (fitD9 l), .int .i64 (fitE l)])) := by
  obtain ⟨h1, h2, hR⟩ := okD_facts hk
  have hne := okD_ne hk
  have hr := h
  obtain ⟨A, c, rfl, _, _⟩ := h
  obtain ⟨bb, off, rfl⟩ := readsD_some hr hne
  have FA := Lib.hid (fun W' (hb' : Below W.heap.size W W') => first_any l hne (by omega) hR bb off c W' (hr.below hb'))
  have FI := Lib.hid (fun W' => fitted_any (firX l) (firX_ok hne hR) (firX_open hne) W')
  have hc := hb.cell
  have hbl := hb.lt
  by_cases g : firN l < l.length
  · have e : fitE l = 4 := by simp [fitE, hk, g]
    have E : fitA l = 0 ∧ fitN l = 0 ∧ fitD9 l = 0 := by simp [fitA, fitN, fitD9, e]
    rw [E.1, E.2.1, E.2.2, e]
    have i1 : (firN l : Int) < (l.length : Int) := by omega
    clear hr hR h1 h2 hne hk hb E e FI g
    generalize firX l = x at *
    generalize firN l = n at *
    go_enter Tryz.func20, Tryz.ntmps20
    go_wp2_with fail
    refine (FA.out _ (below_alloc W _)).mono ?_
    rintro en w1 ⟨rfl, hb1⟩
    have hHeld : Keeps W [(W.heap.size, 0, .int .i64 0), (W.heap.size, 1, .int .i64 0), (W.heap.size, 2, .int .i64 0), (W.heap.size, 3, .int .i64 0)] w1 := Keeps.next (by refine ⟨below_alloc W _, ?_⟩; simp [Cells, go_sem]) hb1
    have hc1 := (hHeld.1.cell (p := ⟨B, 0, none⟩) hbl).trans hc
    have hbl1 := Nat.lt_of_lt_of_le hbl hHeld.1.size
    clear hb1
    obtain ⟨⟨kz0, kc0, kf0⟩, ⟨kz1, kc1, kf1⟩, ⟨kz2, kc2, kf2⟩, ⟨kz3, kc3, kf3⟩, _⟩ := hHeld.2
    go_wp2_with fail
    obtain ⟨d0, d1, d2, d3⟩ := set4a (W := w1) (B := W.heap.size) (u0 := .int .i64 0) (u1 := .int .i64 0) (u2 := .int .i64 0) (u3 := .int .i64 0) kz0 kc0 kc1 kc2 kc3 (.cells #[.int .i64 x.t, .int .i64 x.v, .int .i64 x.a, .int .i64 x.b, .int .i64 x.c, .int .i64 x.d] 52)
    refine bodyPost_ret (v := .tuple #[lnV 0 0 0 0, .int .i64 4]) (by simp [results, Tryz.results20, go_sem, d0, d1, d2, d3]) rfl ?_
    exact ⟨rfl, (below_set4 hHeld.1 (Nat.le_refl _) _ _ _ _).alloc (by simp; omega) _⟩
  · have e : fitE l = 0 := by simp [fitE, hk, g]
    have E : fitA l = (firX l).v ∧ fitN l = flatN (firX l) ∧ fitD9 l = flatE (firX l) := by simp [fitA, fitN, fitD9, e]
    rw [E.1, E.2.1, E.2.2, e]
    have i1 : ¬ (firN l : Int) < (l.length : Int) := by omega
    clear hr hR h1 h2 hne hk hb E e g
    generalize flatN (firX l) = p at *
    generalize flatE (firX l) = q at *
    generalize firX l = x at *
    generalize firN l = n at *
    go_enter Tryz.func20, Tryz.ntmps20
    go_wp2_with fail
    refine (FA.out _ (below_alloc W _)).mono ?_
    rintro en w1 ⟨rfl, hb1⟩
    have hHeld : Keeps W [(W.heap.size, 0, .int .i64 0), (W.heap.size, 1, .int .i64 0), (W.heap.size, 2, .int .i64 0), (W.heap.size, 3, .int .i64 0)] w1 := Keeps.next (by refine ⟨below_alloc W _, ?_⟩; simp [Cells, go_sem]) hb1
    have hc1 := (hHeld.1.cell (p := ⟨B, 0, none⟩) hbl).trans hc
    have hbl1 := Nat.lt_of_lt_of_le hbl hHeld.1.size
    clear hb1
    obtain ⟨⟨kz0, kc0, kf0⟩, ⟨kz1, kc1, kf1⟩, ⟨kz2, kc2, kf2⟩, ⟨kz3, kc3, kf3⟩, _⟩ := hHeld.2
    go_wp2_with fail
    refine (FI.out _).mono ?_
    rintro en w2 ⟨rfl, hb2⟩
    have hH2 := (hHeld.alloc (.cells #[.int .i64 x.t, .int .i64 x.v, .int .i64 x.a, .int .i64 x.b, .int .i64 x.c, .int .i64 x.d] 52)).next hb2
    clear hb2 kz0 kc0 kf0 kz1 kc1 kf1 kz2 kc2 kf2 kz3 kc3 kf3
    obtain ⟨⟨kz0, kc0, kf0⟩, ⟨kz1, kc1, kf1⟩, ⟨kz2, kc2, kf2⟩, ⟨kz3, kc3, kf3⟩, _⟩ := hH2.2
    go_wp2_with fail
    obtain ⟨d0, d1, d2, d3⟩ := set4 (W := w2) (B := W.heap.size) (u0 := .int .i64 x.v) (u1 := .int .i64 0) (u2 := .int .i64 p) (u3 := .int .i64 q) kc0 kc1 kc2 kc3
    refine bodyPost_ret (v := .tuple #[lnV x.v 0 p q, .int .i64 0]) (by simp [results, Tryz.results20, go_sem, d0, d1, d2, d3]) rfl ?_
    exact ⟨rfl, below_set4 hH2.1 (Nat.le_refl _) _ _ _ _⟩
set_option maxHeartbeats 1000000 in
theorem ofF_any (l : List Bd) (hl : l.length ≤ 9223372036854775807) (K : Nat) (caps : Array Value) (eK : ∀ args w, (callFunc K args).run Tryz.prog w = .ok (.enter K args) w) (x0 x1 x2 x3 code : Int) (v : Value) (w : World) (h : ReadsD w v l)
    (hF : okD l = true → ∀ W, Below w.heap.size w W → Calls Tryz.prog K caps W (Ret W (.tuple #[lnV x0 x1 x2 x3, .int .i64 code]))) :
    Calls Tryz.prog 19 #[v, .func (.func K) #[] caps] w (Ret w (if okD l then .tuple #[lnV x0 x1 x2 x3, .int .i64 code] else .tuple #[lnV 0 0 0 0, .int .i64 180])) := by
  have hr := h
  obtain ⟨A, c, rfl, _, _⟩ := h
  have BC := Lib.hid (fun W (hb : Below w.heap.size w W) => bcheck_any l hl _ W (hr.below hb))
  clear hr
  cases gk : okD l
  · rw [gk] at BC
    clear hF gk
    simp only [Bool.false_eq_true, if_false] at BC ⊢
    go_enter Tryz.func19, Tryz.ntmps19
    go_wp2_with fail
    refine (BC.out _ (below_alloc w _)).mono ?_
    rintro en w1 ⟨rfl, hb1⟩
    have hHeld : Keeps w [(w.heap.size, 0, .int .i64 0), (w.heap.size, 1, .int .i64 0), (w.heap.size, 2, .int .i64 0), (w.heap.size, 3, .int .i64 0)] w1 := Keeps.next (by refine ⟨below_alloc w _, ?_⟩; simp [Cells, go_sem]) hb1
    clear hb1
    obtain ⟨⟨kz0, kc0, kf0⟩, ⟨kz1, kc1, kf1⟩, ⟨kz2, kc2, kf2⟩, ⟨kz3, kc3, kf3⟩, _⟩ := hHeld.2
    go_wp2_with fail
    obtain ⟨d0, d1, d2, d3⟩ := set4a (W := w1) (B := w.heap.size) (u0 := .int .i64 0) (u1 := .int .i64 0) (u2 := .int .i64 0) (u3 := .int .i64 0) kz0 kc0 kc1 kc2 kc3 (.cells #[.int .i64 0, .int .i64 0, .int .i64 0, .int .i64 0] 23)
    obtain ⟨e0, e1, e2, e3⟩ := set4 (W := w1) (B := w.heap.size) (u0 := .int .i64 0) (u1 := .int .i64 0) (u2 := .int .i64 0) (u3 := .int .i64 0) kc0 kc1 kc2 kc3
    refine bodyPost_ret (v := .tuple #[lnV 0 0 0 0, .int .i64 180]) (by simp [results, Tryz.results19, go_sem, d0, d1, d2, d3]) rfl ?_
    exact ⟨rfl, (below_set4 hHeld.1 (Nat.le_refl _) _ _ _ _).alloc (by simp; omega) _⟩
  · have HF := Lib.hid (hF gk)
    rw [gk] at BC
    simp only [if_true] at BC ⊢
    clear hF gk
    go_enter Tryz.func19, Tryz.ntmps19
    go_wp2_with fail
    refine (BC.out _ (below_alloc w _)).mono ?_
    rintro en w1 ⟨rfl, hb1⟩
    have hHeld : Keeps w [(w.heap.size, 0, .int .i64 0), (w.heap.size, 1, .int .i64 0), (w.heap.size, 2, .int .i64 0), (w.heap.size, 3, .int .i64 0)] w1 := Keeps.next (by refine ⟨below_alloc w _, ?_⟩; simp [Cells, go_sem]) hb1
    have HF1 := Lib.hid (HF.out w1 hHeld.1)
    clear hb1 HF
    go_wp2_with fail
    refine HF1.out.mono ?_
    rintro en w2 ⟨rfl, hb2⟩
    replace hHeld := hHeld.next hb2
    clear hb2
    obtain ⟨⟨kz0, kc0, kf0⟩, ⟨kz1, kc1, kf1⟩, ⟨kz2, kc2, kf2⟩, ⟨kz3, kc3, kf3⟩, _⟩ := hHeld.2
    go_wp2_with fail
    obtain ⟨d0, d1, d2, d3⟩ := set4 (W := w2) (B := w.heap.size) (u0 := .int .i64 x0) (u1 := .int .i64 x1) (u2 := .int .i64 x2) (u3 := .int .i64 x3) kc0 kc1 kc2 kc3
    refine bodyPost_ret (v := .tuple #[lnV x0 x1 x2 x3, .int .i64 code]) (by simp [results, Tryz.results19, go_sem, d0, d1, d2, d3]) rfl ?_
    exact ⟨rfl, below_set4 hHeld.1 (Nat.le_refl _) _ _ _ _⟩
set_option maxHeartbeats 1000000 in
theorem fit9_any (l : List Bd) (hl : l.length ≤ 9223372036854775807) (v : Value) (w : World) (h : ReadsD w v l) :
    Calls Tryz.prog 7 #[v] w (Ret w (.tuple #[lnV (fitA l) 0 (fitN l) (fitD9 l), .int .i64 (fitE l)])) := by
  have hr := h
  obtain ⟨A, c, rfl, _, _⟩ := h
  have hmf := makes_func
  have HF := Lib.hid (fun W (hb : Below w.heap.size w W) (hbx : Boxed W w.heap.size 24 (.slice A l.length c)) => ofF_any l hl 20 #[.pointer (some ⟨w.heap.size, 0, none⟩)] (enters_of Tryz.func20 (by kernel_rfl) rfl) (fitA l) 0 (fitN l) (fitD9 l) (fitE l) (.slice A l.length c) W (hr.below hb)
    (fun gk W' hb' => fit1_any l gk (.slice A l.length c) W' w.heap.size ((hb'.block _ hbx.lt).trans hbx) ((hr.below hb).below hb')))
  have HE : Hid ((if okD l then Value.tuple #[lnV (fitA l) 0 (fitN l) (fitD9 l), .int .i64 (fitE l)] else .tuple #[lnV 0 0 0 0, .int .i64 180]) = .tuple #[lnV (fitA l) 0 (fitN l) (fitD9 l), .int .i64 (fitE l)]) := Lib.hid (by
    cases gk : okD l
    · have : fitE l = 180 := by simp [fitE, gk]
      simp [fitA, fitN, fitD9, this]
    · rfl)
  clear hr
  generalize fitA l = x at *
  generalize fitN l = y at *
  generalize fitD9 l = z at *
  generalize fitE l = e at *
  go_enter Tryz.func7, Tryz.ntmps7
  go_wp2_with fail
  have hb : Below w.heap.size w ((w.alloc (.cells #[.slice A l.length c] 24)).alloc (.cells #[.int .i64 0, .int .i64 0, .int .i64 0, .int .i64 0] 23)) := ((Below.refl _ w).alloc (Nat.le_refl _) _).alloc (by simp) _
  have HF1 := HF.out _ hb ((Boxed.new w _ _).alloc _)
  rw [HE.out] at HF1
  refine HF1.mono ?_
  rintro en w1 ⟨rfl, hb1⟩
  have hHeld : Keeps w [(w.heap.size + 1, 0, .int .i64 0), (w.heap.size + 1, 1, .int .i64 0), (w.heap.size + 1, 2, .int .i64 0), (w.heap.size + 1, 3, .int .i64 0)] w1 := Keeps.next (by refine ⟨hb, ?_⟩; simp [Cells, go_sem]) hb1
  clear hb1 HF1
  obtain ⟨⟨kz0, kc0, kf0⟩, ⟨kz1, kc1, kf1⟩, ⟨kz2, kc2, kf2⟩, ⟨kz3, kc3, kf3⟩, _⟩ := hHeld.2
  go_wp2_with fail
  obtain ⟨d0, d1, d2, d3⟩ := set4 (W := w1) (B := w.heap.size + 1) (u0 := .int .i64 x) (u1 := .int .i64 0) (u2 := .int .i64 y) (u3 := .int .i64 z) kc0 kc1 kc2 kc3
  refine bodyPost_ret (v := .tuple #[lnV x 0 y z, .int .i64 e]) (by simp [results, Tryz.results7, go_sem, d0, d1, d2, d3]) rfl ?_
  exact ⟨rfl, below_set4 hHeld.1 (by omega) _ _ _ _⟩
end Go.Proofs.YtjioljgojfcckaaGreat.P9
