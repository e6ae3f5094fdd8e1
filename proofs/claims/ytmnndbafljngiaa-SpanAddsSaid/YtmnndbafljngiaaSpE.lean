/-
  Layer 4: rows of spans, together, on the way. Conditions: those written at each fact.
-/
import Derived.Test.YtmnndbafljngiaaSpD
namespace Go.Proofs.Ytmnndbafljngiaa
open Go.RowKit

/-- The ends are of 64 bits. -/
def OkS (l : List (Int × Int)) : Prop := ∀ s ∈ l, -9223372036854775808 ≤ s.1 ∧ s.1 ≤ 9223372036854775807 ∧ -9223372036854775808 ≤ s.2 ∧ s.2 ≤ 9223372036854775807
/-- What ends come to. -/
def sumS (l : List (Int × Int)) : Int × Int := foldS (· + ·) (· + ·) (0, 0) l
theorem foldS_bound : ∀ (l : List (Int × Int)) (a : Int × Int) (m : Nat), OkS l → -(9223372036854775808 * (m : Int)) ≤ a.1 ∧ a.1 ≤ 9223372036854775808 * (m : Int) → -(9223372036854775808 * (m : Int)) ≤ a.2 ∧ a.2 ≤ 9223372036854775808 * (m : Int) →
    (-(9223372036854775808 * ((m + l.length : Nat) : Int)) ≤ (foldS (· + ·) (· + ·) a l).1 ∧ (foldS (· + ·) (· + ·) a l).1 ≤ 9223372036854775808 * ((m + l.length : Nat) : Int)) ∧ (-(9223372036854775808 * ((m + l.length : Nat) : Int)) ≤ (foldS (· + ·) (· + ·) a l).2 ∧ (foldS (· + ·) (· + ·) a l).2 ≤ 9223372036854775808 * ((m + l.length : Nat) : Int))
  | [], _, _, _, h1, h2 => ⟨h1, h2⟩
  | s :: l, a, m, h, h1, h2 => by
    have hs := h s (List.mem_cons_self ..)
    have := foldS_bound l (a.1 + s.1, a.2 + s.2) (m + 1) (fun x hx => h x (List.mem_cons_of_mem _ hx)) (by simp only; omega) (by simp only; omega)
    rw [List.length_cons, show m + (l.length + 1) = m + 1 + l.length by omega]
    exact this
theorem OkS.take {l : List (Int × Int)} (h : OkS l) (k : Nat) : OkS (l.take k) := fun s hs => h s (List.mem_of_mem_take hs)
theorem OkS.at {l : List (Int × Int)} (h : OkS l) {k : Nat} {s : Int × Int} (hk : l[k]? = some s) : -9223372036854775808 ≤ s.1 ∧ s.1 ≤ 9223372036854775807 ∧ -9223372036854775808 ≤ s.2 ∧ s.2 ≤ 9223372036854775807 := h s (List.mem_of_getElem? hk)
theorem sumS_far {l : List (Int × Int)} (h : OkS l) (hl : l.length ≤ 10000000) : Far (sumS l).1 ∧ Far (sumS l).2 := by
  have := foldS_bound l (0, 0) 0 h (by simp) (by simp)
  unfold sumS Far
  omega
theorem sumS_next {s : Int × Int} {l : List (Int × Int)} {k : Nat} (h : l[k]? = some s) : sumS (l.take (k + 1)) = ((sumS (l.take k)).1 + s.1, (sumS (l.take k)).2 + s.2) := foldS_next h
theorem nr_0 : nr 0 = 0 := by decide
theorem rr_0 : rr 0 = 0 := by decide
/-- Nothing yet, at both ends. -/
abbrev sm0 : Value := .agg #[.int .i64 0, .int .i64 0, .int .i64 0, .int .i64 0]

set_option maxRecDepth 100000 in
set_option maxHeartbeats 2000000 in
theorem through_sums (l : List (Int × Int)) (hok : OkS l) (hl : l.length ≤ 10000000) (v : Value) (w : World) (h : ReadsS w v l)
    (R : Value) (hR : R = if badS l then .tuple #[sm0, .int .i64 140] else .tuple #[smV (sumS l).1 (sumS l).2, .int .i64 0]) :
    Calls Try.prog 61 #[v, sm0, .func (.func 62) #[] #[]] w (Ret w R) := by
  obtain ⟨A, c, rfl, hk⟩ := h
  have HK := Lib.hid hk
  replace hR := Lib.hid hR
  have HO := Lib.hid hok
  clear hk hok
  go_enter Try.func61, Try.ntmps61
  go_wp2_with fail
  go_loopw [14] (fun i wr => ∃ k : Nat, i = .int .i64 k ∧ k ≤ l.length ∧ Hid (badS (l.take k) = false) ∧ Keeps w [(w.heap.size, 0, .int .i64 (nr (sumS (l.take k)).1)), (w.heap.size, 1, .int .i64 (rr (sumS (l.take k)).1)), (w.heap.size, 2, .int .i64 (nr (sumS (l.take k)).2)), (w.heap.size, 3, .int .i64 (rr (sumS (l.take k)).2)), (w.heap.size + 1, 0, .int .i64 0), (w.heap.size + 1, 1, .int .i64 0), (w.heap.size + 1, 2, .int .i64 0), (w.heap.size + 1, 3, .int .i64 0)] wr) (fun i _ => l.length - (intOf i).toNat)
  case atStart => exact ⟨0, rfl, by omega, Lib.hid (by simp [badS]), ⟨by go_grown, by simp [Cells, go_sem, sumS, foldS, nr_0, rr_0]⟩⟩
  case round =>
    obtain ⟨k, rfl, hkl, hT, hHeld⟩ := hrel
    obtain ⟨⟨kz0, kc0, kf0⟩, ⟨kz1, kc1, kf1⟩, ⟨kz2, kc2, kf2⟩, ⟨kz3, kc3, kf3⟩, ⟨kz4, kc4, kf4⟩, ⟨kz5, kc5, kf5⟩, ⟨kz6, kc6, kf6⟩, ⟨kz7, kc7, kf7⟩, _⟩ := hHeld.2
    by_cases gk : k < l.length
    · obtain ⟨⟨x, y⟩, hx⟩ : ∃ s, l[k]? = some s := ⟨_, List.getElem?_eq_getElem gk⟩
      obtain ⟨bb, off, rfl, hbw, hc1, hc2⟩ := HK.out k _ hx
      have c1 := (hHeld.1.cell (p := ⟨bb, off + k * 2, none⟩) hbw).trans hc1
      have c2 := (hHeld.1.cell (p := ⟨bb, off + k * 2 + 1, none⟩) hbw).trans hc2
      have i1 : (k : Int) < (l.length : Int) := by omega
      have i0 : (0 : Int) ≤ (k : Int) := by omega
      have HX := Lib.hid hx
      obtain ⟨x1, x2, y1, y2⟩ := HO.out.at hx
      obtain ⟨F1, F2⟩ := sumS_far (HO.out.take k) (by rw [List.length_take]; omega)
      have FN := Lib.hid (sumS_next hx)
      clear hc1 hc2 hx
      generalize sumS (l.take k) = p at *
      obtain ⟨p0, p1⟩ := p
      simp only at c1 c2 kc0 kc1 kc2 kc3 FN F1 F2 x1 x2 y1 y2
      have CK := Lib.hid (fun W => check_any x y W)
      have FF := Lib.hid (fun W => splus_any p0 p1 x y F1 F2 x1 x2 y1 y2 W)
      clear F1 F2 x1 x2 y1 y2
      unfold smV at FF
      generalize nr p0 = n0 at *
      generalize rr p0 = r0 at *
      generalize nr p1 = n1 at *
      generalize rr p1 = r1 at *
      obtain ⟨m0, hm0⟩ : ∃ m, m = nr (p0 + x) := ⟨_, rfl⟩
      obtain ⟨s0, hs0⟩ : ∃ m, m = rr (p0 + x) := ⟨_, rfl⟩
      obtain ⟨m1, hm1⟩ : ∃ m, m = nr (p1 + y) := ⟨_, rfl⟩
      obtain ⟨s1, hs1⟩ : ∃ m, m = rr (p1 + y) := ⟨_, rfl⟩
      rw [← hm0, ← hs0, ← hm1, ← hs1] at FF
      have HM := Lib.hid (show nr (p0 + x) = m0 ∧ rr (p0 + x) = s0 ∧ nr (p1 + y) = m1 ∧ rr (p1 + y) = s1 from ⟨hm0.symm, hs0.symm, hm1.symm, hs1.symm⟩)
      clear hm0 hs0 hm1 hs1
      by_cases gx : y < x
      · rw [if_pos gx] at CK
        have BH := Lib.hid (badS_here HX.out gx)
        clear FN FF HM
        go_wp2_with fail
        refine (CK.out _).mono ?_
        rintro en w1 ⟨rfl, hb1⟩
        replace hHeld := Keeps.next ((hHeld.alloc (.cells #[.int .i64 x, .int .i64 y] 23)).app (newK2 (hHeld.alloc (.cells #[.int .i64 x, .int .i64 y] 23)))) hb1
        clear hb1 kz0 kc0 kf0 kz1 kc1 kf1 kz2 kc2 kf2 kz3 kc3 kf3 kz4 kc4 kf4 kz5 kc5 kf5 kz6 kc6 kf6 kz7 kc7 kf7
        obtain ⟨⟨kz0, kc0, kf0⟩, ⟨kz1, kc1, kf1⟩, ⟨kz2, kc2, kf2⟩, ⟨kz3, kc3, kf3⟩, ⟨kz4, kc4, kf4⟩, ⟨kz5, kc5, kf5⟩, ⟨kz6, kc6, kf6⟩, ⟨kz7, kc7, kf7⟩, _⟩ := hHeld.2
        go_wp2_with fail
        obtain ⟨d0, d1, d2, d3⟩ := set4 (W := w1) (B := w.heap.size + 1) (u0 := .int .i64 0) (u1 := .int .i64 0) (u2 := .int .i64 0) (u3 := .int .i64 0) kc4 kc5 kc6 kc7
        have AL := fun (i : Nat) => (below_alloc ((((w1.setCell ⟨w.heap.size + 1, 0, none⟩ (.int .i64 0)).setCell ⟨w.heap.size + 1, 1, none⟩ (.int .i64 0)).setCell ⟨w.heap.size + 1, 2, none⟩ (.int .i64 0)).setCell ⟨w.heap.size + 1, 3, none⟩ (.int .i64 0)) (.cells #[.int .i64 0, .int .i64 0, .int .i64 0, .int .i64 0] 91)).cell (p := ⟨w.heap.size + 1, i, none⟩) (by simpa using kz4)
        replace d0 := (AL 0).trans d0
        replace d1 := (AL 1).trans d1
        replace d2 := (AL 2).trans d2
        replace d3 := (AL 3).trans d3
        refine bodyPost_ret (v := .tuple #[sm0, .int .i64 140]) (by simp [results, Try.results61, go_sem, d0, d1, d2, d3]) rfl ?_
        exact ⟨by rw [hR.out, BH.out]; rfl, by first | (with_reducible exact hHeld.1) | (have hB := hHeld.1; have hz := hB.size; go_grown)⟩
      · rw [if_neg gx] at CK
        have BN := Lib.hid (badS_next HX.out hT.out gx)
        have EO := Lib.hid (fun W => endsOf_any x y W)
        clear hT gx HK HX HO
        have hzw := kz4
        go_wp2_with fail
        refine (CK.out _).mono ?_
        rintro en w1 ⟨rfl, hb1⟩
        replace hHeld := Keeps.next ((hHeld.alloc (.cells #[.int .i64 x, .int .i64 y] 23)).app (newK2 (hHeld.alloc (.cells #[.int .i64 x, .int .i64 y] 23)))) hb1
        clear hb1 kz0 kc0 kf0 kz1 kc1 kf1 kz2 kc2 kf2 kz3 kc3 kf3 kz4 kc4 kf4 kz5 kc5 kf5 kz6 kc6 kf6 kz7 kc7 kf7
        obtain ⟨⟨kz0, kc0, kf0⟩, ⟨kz1, kc1, kf1⟩, ⟨kz2, kc2, kf2⟩, ⟨kz3, kc3, kf3⟩, ⟨kz4, kc4, kf4⟩, ⟨kz5, kc5, kf5⟩, ⟨kz6, kc6, kf6⟩, ⟨kz7, kc7, kf7⟩, ⟨kz8, kc8, kf8⟩, ⟨kz9, kc9, kf9⟩, _⟩ := hHeld.2
        go_wp2_with fail
        refine region_keepsB (w0 := w) (L := [(w.heap.size + 1, 0, .int .i64 0), (w.heap.size + 1, 1, .int .i64 0), (w.heap.size + 1, 2, .int .i64 0), (w.heap.size + 1, 3, .int .i64 0), (wr.heap.size, 0, .int .i64 x), (wr.heap.size, 1, .int .i64 y)]) (M := [(w.heap.size, 0, .int .i64 n0), (w.heap.size, 1, .int .i64 r0), (w.heap.size, 2, .int .i64 n1), (w.heap.size, 3, .int .i64 r1)]) (by kernel_rfl) ⟨hHeld.1, ⟨kz4, kc4, kf4⟩, ⟨kz5, kc5, kf5⟩, ⟨kz6, kc6, kf6⟩, ⟨kz7, kc7, kf7⟩, ⟨kz8, kc8, kf8⟩, ⟨kz9, kc9, kf9⟩, trivial⟩ ⟨hHeld.1, ⟨kz0, kc0, kf0⟩, ⟨kz1, kc1, kf1⟩, ⟨kz2, kc2, kf2⟩, ⟨kz3, kc3, kf3⟩, trivial⟩ (fun hHeld0 hT0 => ?_)
        refine wpAnyH_take (i := 0) (oi := ⟨some 24, _, _, _, _, _⟩) (v := ?_) rfl (by kernel_rfl) (by kernel_rfl) (by kernel_rfl) (fun _ _ _ h => h) (Or.inl ⟨by rfl, ?_⟩) (by assumption) ?_
        rotate_left
        · intro wq hSw; go_simp; (try with_reducible rfl)
        try simp only [Act.put, List.setIfInBounds_toArray, List.set_cons_zero, List.set_cons_succ]
        refine wpAnyH_take (i := 2) (oi := ⟨some 26, _, _, _, _, _⟩) (v := ?_) rfl (by kernel_rfl) (by kernel_rfl) (by kernel_rfl) (fun _ _ _ h => h) (Or.inl ⟨by rfl, ?_⟩) (by assumption) ?_
        rotate_left
        · intro wq hSw; obtain ⟨⟨qz0, qc0, qf0⟩, ⟨qz1, qc1, qf1⟩, ⟨qz2, qc2, qf2⟩, ⟨qz3, qc3, qf3⟩, ⟨qz4, qc4, qf4⟩, ⟨qz5, qc5, qf5⟩, _⟩ := hSw.2; go_simp; (try with_reducible rfl)
        try simp only [Act.put, List.setIfInBounds_toArray, List.set_cons_zero, List.set_cons_succ]
        refine wpAnyH_ready (rs := [1, 3]) (by kernel_rfl) (by simp) ?_
        refine AllReadyH.cons (o := ⟨some 25, _, _, _, _, _⟩) rfl (fun K hK => ?_) ?_
        obtain ⟨⟨kz0, kc0, kf0⟩, ⟨kz1, kc1, kf1⟩, ⟨kz2, kc2, kf2⟩, ⟨kz3, kc3, kf3⟩, ⟨kz4, kc4, kf4⟩, ⟨kz5, kc5, kf5⟩, _⟩ := hHeld0.2
        obtain ⟨⟨t0z0, t0c0, t0f0⟩, ⟨t0z1, t0c1, t0f1⟩, ⟨t0z2, t0c2, t0f2⟩, ⟨t0z3, t0c3, t0f3⟩, _⟩ := hT0.2
        go_simp
        refine hK.out _ _ (by first | exact hHeld0 | (first | exact hHeld | (refine ⟨by go_grown, ?_⟩; simp [Cells, go_sem]; done))) (fun hHeld1 => ?_)
        clear hK K
        try clear hb
        try simp only [Act.put, List.setIfInBounds_toArray, List.set_cons_zero, List.set_cons_succ]
        refine wpAnyH_ready (rs := [3]) (by kernel_rfl) (by simp) ?_
        refine AllReadyH.cons (o := ⟨some 27, _, _, _, _, _⟩) rfl (fun K hK => ?_) AllReadyH.nil
        go_simp
        (first | ((with_reducible refine (EO.out _).mono ?_); rintro e w5 ⟨rfl, hb⟩) | ((with_reducible refine (FF.out _).mono ?_); rintro e w6 ⟨rfl, hb⟩))
        refine hK.out _ _ (hHeld1.next hb) (fun hHeld2 => ?_)
        replace hT0 := hT0.next hb
        clear hK K
        try clear hb
        try simp only [Act.put, List.setIfInBounds_toArray, List.set_cons_zero, List.set_cons_succ]
        refine wpAnyH_ready (rs := [4]) (by kernel_rfl) (by simp) ?_
        refine AllReadyH.cons (o := ⟨some 28, _, _, _, _, _⟩) rfl (fun K hK => ?_) AllReadyH.nil
        go_simp
        (first | ((with_reducible refine (EO.out _).mono ?_); rintro e w5 ⟨rfl, hb⟩) | ((with_reducible refine (FF.out _).mono ?_); rintro e w6 ⟨rfl, hb⟩))
        refine hK.out _ _ (hHeld2.next hb) (fun hHeld3 => ?_)
        replace hT0 := hT0.next hb
        clear hK K
        try clear hb
        try simp only [Act.put, List.setIfInBounds_toArray, List.set_cons_zero, List.set_cons_succ]
        refine wpAnyH_ready (rs := [5]) (by kernel_rfl) (by simp) ?_
        refine AllReadyH.cons (o := ⟨none, _, _, _, _, _⟩) rfl (fun K hK => ?_) AllReadyH.nil
        obtain ⟨⟨t0z0, t0c0, t0f0⟩, ⟨t0z1, t0c1, t0f1⟩, ⟨t0z2, t0c2, t0f2⟩, ⟨t0z3, t0c3, t0f3⟩, _⟩ := hT0.2; (try simp at t0z0); (try simp at t0c0); (try simp at t0f0); (try simp at t0z1); (try simp at t0c1); (try simp at t0f1); (try simp at t0z2); (try simp at t0c2); (try simp at t0f2); (try simp at t0z3); (try simp at t0c3); (try simp at t0f3)
        go_simp
        refine hK.out _ _ (by first | exact hHeld3.alloc _ | (repeat (first | (with_reducible exact hHeld3) | (refine Keeps.set ?_ (by simp <;> omega) (by simp <;> omega) _)))) (fun hHeld4 => ?_)
        clear hK K
        try clear hb
        try simp only [Act.put, List.setIfInBounds_toArray, List.set_cons_zero, List.set_cons_succ]
        refine wpAnyH_done (by kernel_rfl) ?_ _
        have hHeld := hHeld4
        obtain ⟨⟨kz0, kc0, kf0⟩, ⟨kz1, kc1, kf1⟩, ⟨kz2, kc2, kf2⟩, ⟨kz3, kc3, kf3⟩, ⟨kz4, kc4, kf4⟩, ⟨kz5, kc5, kf5⟩, _⟩ := hHeld.2
        rotate_left 1
        refine AllReadyH.cons (o := ⟨some 27, _, _, _, _, _⟩) rfl (fun K hK => ?_) ?_
        go_simp
        (first | ((with_reducible refine (EO.out _).mono ?_); rintro e w5 ⟨rfl, hb⟩) | ((with_reducible refine (FF.out _).mono ?_); rintro e w6 ⟨rfl, hb⟩))
        refine hK.out _ _ (hHeld0.next hb) (fun hHeld5 => ?_)
        replace hT0 := hT0.next hb
        clear hK K
        try clear hb
        try simp only [Act.put, List.setIfInBounds_toArray, List.set_cons_zero, List.set_cons_succ]
        refine wpAnyH_ready (rs := [1]) (by kernel_rfl) (by simp) ?_
        refine AllReadyH.cons (o := ⟨some 25, _, _, _, _, _⟩) rfl (fun K hK => ?_) AllReadyH.nil
        obtain ⟨⟨kz0, kc0, kf0⟩, ⟨kz1, kc1, kf1⟩, ⟨kz2, kc2, kf2⟩, ⟨kz3, kc3, kf3⟩, ⟨kz4, kc4, kf4⟩, ⟨kz5, kc5, kf5⟩, _⟩ := hHeld5.2
        obtain ⟨⟨t0z0, t0c0, t0f0⟩, ⟨t0z1, t0c1, t0f1⟩, ⟨t0z2, t0c2, t0f2⟩, ⟨t0z3, t0c3, t0f3⟩, _⟩ := hT0.2
        go_simp
        refine hK.out _ _ (by first | exact hHeld5 | (first | exact hHeld | (refine ⟨by go_grown, ?_⟩; simp [Cells, go_sem]; done))) (fun hHeld6 => ?_)
        clear hK K
        try clear hb
        try simp only [Act.put, List.setIfInBounds_toArray, List.set_cons_zero, List.set_cons_succ]
        refine wpAnyH_ready (rs := [4]) (by kernel_rfl) (by simp) ?_
        refine AllReadyH.cons (o := ⟨some 28, _, _, _, _, _⟩) rfl (fun K hK => ?_) AllReadyH.nil
        go_simp
        (first | ((with_reducible refine (EO.out _).mono ?_); rintro e w5 ⟨rfl, hb⟩) | ((with_reducible refine (FF.out _).mono ?_); rintro e w6 ⟨rfl, hb⟩))
        refine hK.out _ _ (hHeld6.next hb) (fun hHeld7 => ?_)
        replace hT0 := hT0.next hb
        clear hK K
        try clear hb
        try simp only [Act.put, List.setIfInBounds_toArray, List.set_cons_zero, List.set_cons_succ]
        refine wpAnyH_ready (rs := [5]) (by kernel_rfl) (by simp) ?_
        refine AllReadyH.cons (o := ⟨none, _, _, _, _, _⟩) rfl (fun K hK => ?_) AllReadyH.nil
        obtain ⟨⟨t0z0, t0c0, t0f0⟩, ⟨t0z1, t0c1, t0f1⟩, ⟨t0z2, t0c2, t0f2⟩, ⟨t0z3, t0c3, t0f3⟩, _⟩ := hT0.2; (try simp at t0z0); (try simp at t0c0); (try simp at t0f0); (try simp at t0z1); (try simp at t0c1); (try simp at t0f1); (try simp at t0z2); (try simp at t0c2); (try simp at t0f2); (try simp at t0z3); (try simp at t0c3); (try simp at t0f3)
        go_simp
        refine hK.out _ _ (by first | exact hHeld7.alloc _ | (repeat (first | (with_reducible exact hHeld7) | (refine Keeps.set ?_ (by simp <;> omega) (by simp <;> omega) _)))) (fun hHeld8 => ?_)
        clear hK K
        try clear hb
        try simp only [Act.put, List.setIfInBounds_toArray, List.set_cons_zero, List.set_cons_succ]
        refine wpAnyH_done (by kernel_rfl) ?_ _
        have hHeld := hHeld8
        obtain ⟨⟨kz0, kc0, kf0⟩, ⟨kz1, kc1, kf1⟩, ⟨kz2, kc2, kf2⟩, ⟨kz3, kc3, kf3⟩, ⟨kz4, kc4, kf4⟩, ⟨kz5, kc5, kf5⟩, _⟩ := hHeld.2
        rotate_left 1
        exact AllReadyH.nil
        all_goals
          obtain ⟨d0, d1, d2, d3⟩ := set4 (W := w6) (B := w.heap.size) (u0 := .int .i64 m0) (u1 := .int .i64 s0) (u2 := .int .i64 m1) (u3 := .int .i64 s1) t0c0 t0c1 t0c2 t0c3
          have NK := Lib.hid (show Keeps w [(w.heap.size, 0, .int .i64 (nr (sumS (l.take (k + 1))).1)), (w.heap.size, 1, .int .i64 (rr (sumS (l.take (k + 1))).1)), (w.heap.size, 2, .int .i64 (nr (sumS (l.take (k + 1))).2)), (w.heap.size, 3, .int .i64 (rr (sumS (l.take (k + 1))).2)), (w.heap.size + 1, 0, .int .i64 0), (w.heap.size + 1, 1, .int .i64 0), (w.heap.size + 1, 2, .int .i64 0), (w.heap.size + 1, 3, .int .i64 0)] ((((w6.setCell ⟨w.heap.size, 0, none⟩ (.int .i64 m0)).setCell ⟨w.heap.size, 1, none⟩ (.int .i64 s0)).setCell ⟨w.heap.size, 2, none⟩ (.int .i64 m1)).setCell ⟨w.heap.size, 3, none⟩ (.int .i64 s1)) from by
            rw [FN.out, HM.out.1, HM.out.2.1, HM.out.2.2.1, HM.out.2.2.2]
            exact ⟨hHeld.1, ⟨by simpa using t0z0, d0, by simpa using t0f0⟩, ⟨by simpa using t0z1, d1, by simpa using t0f1⟩, ⟨by simpa using t0z2, d2, by simpa using t0f2⟩, ⟨by simpa using t0z3, d3, by simpa using t0f3⟩, ⟨kz0, kc0, kf0⟩, ⟨kz1, kc1, kf1⟩, ⟨kz2, kc2, kf2⟩, ⟨kz3, kc3, kf3⟩, trivial⟩)
          go_wp2_with fail
          go_roundw
          case rel => exact ⟨k + 1, by simp, by omega, BN, NK.out⟩
          case measure => simp [intOf]; omega
    · have BT : badS l = false := by have := hT.out; rwa [List.take_of_length_le (by omega)] at this
      have FT : sumS (l.take k) = sumS l := by rw [List.take_of_length_le (by omega)]
      have HR := hR.out
      rw [BT, ← FT] at HR
      replace HR := Lib.hid HR
      clear hT BT FT hR
      generalize sumS (l.take k) = p at *
      obtain ⟨p0, p1⟩ := p
      simp only at kc0 kc1 kc2 kc3 HR
      have i1 : ¬ (k : Int) < (l.length : Int) := by omega
      unfold smV at HR
      generalize nr p0 = n0 at *
      generalize rr p0 = r0 at *
      generalize nr p1 = n1 at *
      generalize rr p1 = r1 at *
      go_wp2_with fail
      obtain ⟨d0, d1, d2, d3⟩ := set4 (W := wr) (B := w.heap.size + 1) (u0 := .int .i64 n0) (u1 := .int .i64 r0) (u2 := .int .i64 n1) (u3 := .int .i64 r1) kc4 kc5 kc6 kc7
      refine bodyPost_ret (v := .tuple #[.agg #[.int .i64 n0, .int .i64 r0, .int .i64 n1, .int .i64 r1], .int .i64 0]) (by simp [results, Try.results61, go_sem, d0, d1, d2, d3]) rfl ?_
      exact ⟨by rw [HR.out]; rfl, by first | (with_reducible exact hHeld.1) | (have hB := hHeld.1; have hz := hB.size; go_grown)⟩
end Go.Proofs.Ytmnndbafljngiaa
