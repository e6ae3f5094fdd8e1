/-
  Layer 6: Sum and Rests, for any input. Conditions: the wide numbers have room (what a Wide holds, always has).
-/
import Derived.Test.YtnacdofidmgfmaaFsF
namespace Go.Proofs.Ytnacdofidmgfmaa
open Go.RowKit

/-- May these be asked for? -/
def stepsB (n a b m : Int) : Bool := countB n && (termB a && (termB b && (decide (1 ≤ m) && decide (m ≤ 281474976710656))))
theorem stepsB_iff (n a b m : Int) : stepsB n a b m = true ↔ (0 ≤ n ∧ n ≤ 256) ∧ termB a = true ∧ termB b = true ∧ 1 ≤ m ∧ m ≤ 281474976710656 := by
  unfold stepsB; simp only [Bool.and_eq_true, decide_eq_true_eq, countB_iff]
def stE (n a b m : Int) : Int := if stepsB n a b m then 0 else 2
set_option maxRecDepth 100000 in
theorem checkSteps6_any (n a b m : Int) (fa : Fits a) (fb : Fits b) (w : World) :
    Calls Try.prog 26 #[.int .i64 n, wideV (rhi a) (rlo a), wideV (rhi b) (rlo b), .int .i64 m] w (Ret w (.int .i64 (stE n a b m))) := by
  have IC := Lib.hid (fun W => isCount_any n W)
  have IA := Lib.hid (fun W => isTerm_any a fa W)
  have IB := Lib.hid (fun W => isTerm_any b fb W)
  unfold stE stepsB
  clear fa fb
  generalize termB a = ba at *
  generalize termB b = bb at *
  generalize countB n = bn at *
  generalize rhi a = a0 at *
  generalize rlo a = a1 at *
  generalize rhi b = b0 at *
  generalize rlo b = b1 at *
  have t3 : decide (m < 1) = !decide (1 ≤ m) := by rw [← decide_not]; exact decide_eq_decide.2 (by omega)
  have t4 : decide (281474976710656 < m) = !decide (m ≤ 281474976710656) := by rw [← decide_not]; exact decide_eq_decide.2 (by omega)
  generalize decide (1 ≤ m) = g1 at *
  generalize decide (m ≤ 281474976710656) = g2 at *
  cases bn
  · go_enter Try.func26, Try.ntmps26
    go_wp2_with fail
    refine (IC.out _).mono ?_
    rintro e w1 ⟨rfl, hb⟩
    have hHeld : Keeps w [] _ := Keeps.next (by refine ⟨by go_grown, ?_⟩; simp [Cells, go_sem]) hb
    clear hb
    go_wp2_with fail
    go_ret
    exact ⟨rfl, hHeld.1⟩
  · cases ba
    · go_enter Try.func26, Try.ntmps26
      go_wp2_with fail
      refine (IC.out _).mono ?_
      rintro e w1 ⟨rfl, hb⟩
      have hHeld : Keeps w [(w.heap.size, 0, .int .i64 a0), (w.heap.size, 1, .int .u64 a1), (w.heap.size + 1, 0, .int .i64 b0), (w.heap.size + 1, 1, .int .u64 b1)] _ := Keeps.next (by refine ⟨by go_grown, ?_⟩; simp [Cells, go_sem]) hb
      clear hb
      obtain ⟨⟨kz0, kc0, kf0⟩, ⟨kz1, kc1, kf1⟩, ⟨kz2, kc2, kf2⟩, ⟨kz3, kc3, kf3⟩, _⟩ := hHeld.2
      go_wp2_with fail
      refine (IA.out _).mono ?_
      rintro e w2 ⟨rfl, hb⟩
      replace hHeld := Keeps.next (hHeld) hb
      clear hb kz0 kc0 kf0 kz1 kc1 kf1 kz2 kc2 kf2 kz3 kc3 kf3
      obtain ⟨⟨kz0, kc0, kf0⟩, ⟨kz1, kc1, kf1⟩, ⟨kz2, kc2, kf2⟩, ⟨kz3, kc3, kf3⟩, _⟩ := hHeld.2
      go_wp2_with fail
      go_ret
      exact ⟨rfl, hHeld.1⟩
    · cases bb
      · go_enter Try.func26, Try.ntmps26
        go_wp2_with fail
        refine (IC.out _).mono ?_
        rintro e w1 ⟨rfl, hb⟩
        have hHeld : Keeps w [(w.heap.size, 0, .int .i64 a0), (w.heap.size, 1, .int .u64 a1), (w.heap.size + 1, 0, .int .i64 b0), (w.heap.size + 1, 1, .int .u64 b1)] _ := Keeps.next (by refine ⟨by go_grown, ?_⟩; simp [Cells, go_sem]) hb
        clear hb
        obtain ⟨⟨kz0, kc0, kf0⟩, ⟨kz1, kc1, kf1⟩, ⟨kz2, kc2, kf2⟩, ⟨kz3, kc3, kf3⟩, _⟩ := hHeld.2
        go_wp2_with fail
        refine (IA.out _).mono ?_
        rintro e w2 ⟨rfl, hb⟩
        replace hHeld := Keeps.next (hHeld) hb
        clear hb kz0 kc0 kf0 kz1 kc1 kf1 kz2 kc2 kf2 kz3 kc3 kf3
        obtain ⟨⟨kz0, kc0, kf0⟩, ⟨kz1, kc1, kf1⟩, ⟨kz2, kc2, kf2⟩, ⟨kz3, kc3, kf3⟩, _⟩ := hHeld.2
        go_wp2_with fail
        refine (IB.out _).mono ?_
        rintro e w3 ⟨rfl, hb⟩
        replace hHeld := Keeps.next (hHeld) hb
        clear hb kz0 kc0 kf0 kz1 kc1 kf1 kz2 kc2 kf2 kz3 kc3 kf3
        obtain ⟨⟨kz0, kc0, kf0⟩, ⟨kz1, kc1, kf1⟩, ⟨kz2, kc2, kf2⟩, ⟨kz3, kc3, kf3⟩, _⟩ := hHeld.2
        go_wp2_with fail
        go_ret
        exact ⟨rfl, hHeld.1⟩
      · cases g1 <;> cases g2
        all_goals
          go_enter Try.func26, Try.ntmps26
          go_wp2_with fail
          refine (IC.out _).mono ?_
          rintro e w1 ⟨rfl, hb⟩
          have hHeld : Keeps w [(w.heap.size, 0, .int .i64 a0), (w.heap.size, 1, .int .u64 a1), (w.heap.size + 1, 0, .int .i64 b0), (w.heap.size + 1, 1, .int .u64 b1)] _ := Keeps.next (by refine ⟨by go_grown, ?_⟩; simp [Cells, go_sem]) hb
          clear hb
          obtain ⟨⟨kz0, kc0, kf0⟩, ⟨kz1, kc1, kf1⟩, ⟨kz2, kc2, kf2⟩, ⟨kz3, kc3, kf3⟩, _⟩ := hHeld.2
          go_wp2_with fail
          refine (IA.out _).mono ?_
          rintro e w2 ⟨rfl, hb⟩
          replace hHeld := Keeps.next (hHeld) hb
          clear hb kz0 kc0 kf0 kz1 kc1 kf1 kz2 kc2 kf2 kz3 kc3 kf3
          obtain ⟨⟨kz0, kc0, kf0⟩, ⟨kz1, kc1, kf1⟩, ⟨kz2, kc2, kf2⟩, ⟨kz3, kc3, kf3⟩, _⟩ := hHeld.2
          go_wp2_with fail
          refine (IB.out _).mono ?_
          rintro e w3 ⟨rfl, hb⟩
          replace hHeld := Keeps.next (hHeld) hb
          clear hb kz0 kc0 kf0 kz1 kc1 kf1 kz2 kc2 kf2 kz3 kc3 kf3
          obtain ⟨⟨kz0, kc0, kf0⟩, ⟨kz1, kc1, kf1⟩, ⟨kz2, kc2, kf2⟩, ⟨kz3, kc3, kf3⟩, _⟩ := hHeld.2
          go_wp2_with fail
          go_ret
          exact ⟨rfl, hHeld.1⟩
set_option maxRecDepth 100000 in
theorem sum1_any (n a b m : Int) (fa : Fits a) (fb : Fits b) (B0 B1 B2 B3 : Nat) (w : World) (hc : Cells [(B0, 0, .int .i64 n), (B1, 0, .int .i64 (rhi a)), (B1, 1, .int .u64 (rlo a)), (B2, 0, .int .i64 (rhi b)), (B2, 1, .int .u64 (rlo b)), (B3, 0, .int .i64 m)] w) :
    Calls Try.prog 25 #[.pointer (some ⟨B0, 0, none⟩), .pointer (some ⟨B1, 0, none⟩), .pointer (some ⟨B2, 0, none⟩), .pointer (some ⟨B3, 0, none⟩)] w (Ret w (.int .i64 (stE n a b m))) := by
  have CK := Lib.hid (fun W => checkSteps6_any n a b m fa fb W)
  generalize stE n a b m = e at *
  generalize rhi a = a0 at *
  generalize rlo a = a1 at *
  generalize rhi b = b0 at *
  generalize rlo b = b1 at *
  obtain ⟨⟨kz0, kc0, kf0⟩, ⟨kz1, kc1, kf1⟩, ⟨kz2, kc2, kf2⟩, ⟨kz3, kc3, kf3⟩, ⟨kz4, kc4, kf4⟩, ⟨kz5, kc5, kf5⟩, _⟩ := hc
  go_enter Try.func25, Try.ntmps25
  go_wp2_with fail
  refine (CK.out _).mono ?_
  rintro e w1 ⟨rfl, hb⟩
  go_wp2_with fail
  go_returns
  exact ⟨rfl, hb⟩
set_option maxRecDepth 100000 in
theorem rests1_any (n a b m : Int) (fa : Fits a) (fb : Fits b) (B0 B1 B2 B3 : Nat) (w : World) (hc : Cells [(B0, 0, .int .i64 n), (B1, 0, .int .i64 (rhi a)), (B1, 1, .int .u64 (rlo a)), (B2, 0, .int .i64 (rhi b)), (B2, 1, .int .u64 (rlo b)), (B3, 0, .int .i64 m)] w) :
    Calls Try.prog 30 #[.pointer (some ⟨B0, 0, none⟩), .pointer (some ⟨B1, 0, none⟩), .pointer (some ⟨B2, 0, none⟩), .pointer (some ⟨B3, 0, none⟩)] w (Ret w (.int .i64 (stE n a b m))) := by
  have CK := Lib.hid (fun W => checkSteps6_any n a b m fa fb W)
  generalize stE n a b m = e at *
  generalize rhi a = a0 at *
  generalize rlo a = a1 at *
  generalize rhi b = b0 at *
  generalize rlo b = b1 at *
  obtain ⟨⟨kz0, kc0, kf0⟩, ⟨kz1, kc1, kf1⟩, ⟨kz2, kc2, kf2⟩, ⟨kz3, kc3, kf3⟩, ⟨kz4, kc4, kf4⟩, ⟨kz5, kc5, kf5⟩, _⟩ := hc
  go_enter Try.func30, Try.ntmps30
  go_wp2_with fail
  refine (CK.out _).mono ?_
  rintro e w1 ⟨rfl, hb⟩
  go_wp2_with fail
  go_returns
  exact ⟨rfl, hb⟩
set_option maxRecDepth 100000 in
theorem sum2_any (n : Nat) (a b m : Int) (hn : n ≤ 256) (ha : termB a = true) (hb : termB b = true) (hm0 : 1 ≤ m) (hm1 : m ≤ 281474976710656) (B0 B1 B2 B3 : Nat) (w : World) (hc : Cells [(B0, 0, .int .i64 n), (B1, 0, .int .i64 (rhi a)), (B1, 1, .int .u64 (rlo a)), (B2, 0, .int .i64 (rhi b)), (B2, 1, .int .u64 (rlo b)), (B3, 0, .int .i64 m)] w) :
    Calls Try.prog 27 #[.pointer (some ⟨B0, 0, none⟩), .pointer (some ⟨B1, 0, none⟩), .pointer (some ⟨B2, 0, none⟩), .pointer (some ⟨B3, 0, none⟩)] w (Ret w (wideV (rhi (floorS n a b m)) (rlo (floorS n a b m)))) := by
  have CO := Lib.hid (fun W => come_any n a b m hn ha hb hm0 hm1 W)
  clear hn ha hb hm0 hm1
  generalize rhi (floorS n a b m) = T0 at *
  generalize rlo (floorS n a b m) = T1 at *
  generalize rhi a = a0 at *
  generalize rlo a = a1 at *
  generalize rhi b = b0 at *
  generalize rlo b = b1 at *
  have hK : Keeps w [(B0, 0, .int .i64 n), (B1, 0, .int .i64 a0), (B1, 1, .int .u64 a1), (B2, 0, .int .i64 b0), (B2, 1, .int .u64 b1), (B3, 0, .int .i64 m)] w := ⟨Below.refl _ _, hc⟩
  have hL := (hK.alloc (.cells #[.int .i64 0, .int .u64 0] 24))
  have hN := newK2 hL
  obtain ⟨⟨kz0, kc0, kf0⟩, ⟨kz1, kc1, kf1⟩, ⟨kz2, kc2, kf2⟩, ⟨kz3, kc3, kf3⟩, ⟨kz4, kc4, kf4⟩, ⟨kz5, kc5, kf5⟩, _⟩ := hL.2
  clear hc hK hL
  go_enter Try.func27, Try.ntmps27
  go_wp2_with fail
  refine (CO.out _).mono ?_
  rintro e w1 ⟨rfl, hb⟩
  replace hN := hN.next hb
  clear hb
  (try clear hHeld0); (try clear hHeld1); (try clear hHeld2); (try clear hHeld3); (try clear hHeld4); (try clear hHeld5); (try clear hHeld6); (try clear hHeld7); (try clear hHeld8); (try clear hHeld9); (try clear hHeld10); (try clear hHeld11); (try clear hHeld12); (try clear hHeld13); (try clear hT0); (try clear kz0 kc0 kf0); (try clear kz1 kc1 kf1); (try clear kz2 kc2 kf2); (try clear kz3 kc3 kf3); (try clear kz4 kc4 kf4); (try clear kz5 kc5 kf5); (try clear kz6 kc6 kf6); (try clear kz7 kc7 kf7); (try clear kz8 kc8 kf8); (try clear kz9 kc9 kf9); (try clear kz10 kc10 kf10); (try clear kz11 kc11 kf11); (try clear kz12 kc12 kf12); (try clear kz13 kc13 kf13); (try clear t0z0 t0c0 t0f0); (try clear t0z1 t0c1 t0f1)
  obtain ⟨⟨kz0, kc0, kf0⟩, ⟨kz1, kc1, kf1⟩, _⟩ := hN.2
  go_wp2_with fail
  obtain ⟨d0, d1⟩ := set2 (W := w1) (B := w.heap.size) (u0 := .int .i64 T0) (u1 := .int .u64 T1) kc0 kc1
  refine bodyPost_ret (v := wideV T0 T1) (by simp [results, Try.results27, go_sem, d0, d1]) rfl ?_
  have h1 := hN.1
  refine ⟨rfl, ?_⟩
  go_grown
set_option maxRecDepth 100000 in
theorem rests2_any (n : Nat) (a b m : Int) (hn : n ≤ 256) (ha : termB a = true) (hb : termB b = true) (hm0 : 1 ≤ m) (hm1 : m ≤ 281474976710656) (B0 B1 B2 B3 : Nat) (w : World) (hc : Cells [(B0, 0, .int .i64 n), (B1, 0, .int .i64 (rhi a)), (B1, 1, .int .u64 (rlo a)), (B2, 0, .int .i64 (rhi b)), (B2, 1, .int .u64 (rlo b)), (B3, 0, .int .i64 m)] w) :
    Calls Try.prog 31 #[.pointer (some ⟨B0, 0, none⟩), .pointer (some ⟨B1, 0, none⟩), .pointer (some ⟨B2, 0, none⟩), .pointer (some ⟨B3, 0, none⟩)] w (Ret w (.int .i64 (restS n a b m))) := by
  have CK := Lib.hid (fun W => left_any n a b m hn ha hb hm0 hm1 W)
  clear hn ha hb hm0 hm1
  generalize restS n a b m = e at *
  generalize rhi a = a0 at *
  generalize rlo a = a1 at *
  generalize rhi b = b0 at *
  generalize rlo b = b1 at *
  obtain ⟨⟨kz0, kc0, kf0⟩, ⟨kz1, kc1, kf1⟩, ⟨kz2, kc2, kf2⟩, ⟨kz3, kc3, kf3⟩, ⟨kz4, kc4, kf4⟩, ⟨kz5, kc5, kf5⟩, _⟩ := hc
  go_enter Try.func31, Try.ntmps31
  go_wp2_with fail
  refine (CK.out _).mono ?_
  rintro e w1 ⟨rfl, hb⟩
  go_wp2_with fail
  go_returns
  exact ⟨rfl, hb⟩
set_option maxRecDepth 100000 in
theorem unless6_sum (p0 p1 p2 p3 : Value) (x0 x1 : Int) (w : World) (C : ∀ W, Below w.heap.size w W → Calls Try.prog 25 #[p0, p1, p2, p3] W (Ret W (.int .i64 0)))
    (D : ∀ W, Below w.heap.size w W → Calls Try.prog 27 #[p0, p1, p2, p3] W (Ret W (wideV x0 x1))) :
    Calls Try.prog 24 #[.func (.func 25) #[] #[p0, p1, p2, p3], .func (.func 27) #[] #[p0, p1, p2, p3]] w (Ret w (.tuple #[wideV x0 x1, .int .i64 0])) := by
  replace C := Lib.hid C
  replace D := Lib.hid D
  go_enter Try.func24, Try.ntmps24
  go_wp2_with fail
  refine (C.out _ (by go_grown)).mono ?_
  rintro e w1 ⟨rfl, hb⟩
  have hHeld : Keeps w [(w.heap.size, 0, .int .i64 0), (w.heap.size, 1, .int .u64 0)] _ := Keeps.next (by refine ⟨by go_grown, ?_⟩; simp [Cells, go_sem]) hb
  clear hb
  obtain ⟨⟨kz0, kc0, kf0⟩, ⟨kz1, kc1, kf1⟩, _⟩ := hHeld.2
  go_wp2_with fail
  refine (D.out _ hHeld.1).mono ?_
  rintro e w2 ⟨rfl, hb⟩
  replace hHeld := Keeps.next (hHeld) hb
  clear hb kz0 kc0 kf0 kz1 kc1 kf1
  obtain ⟨⟨kz0, kc0, kf0⟩, ⟨kz1, kc1, kf1⟩, _⟩ := hHeld.2
  go_wp2_with fail
  obtain ⟨d0, d1⟩ := set2 (W := w2) (B := w.heap.size) (u0 := .int .i64 x0) (u1 := .int .u64 x1) kc0 kc1
  refine bodyPost_ret (v := .tuple #[wideV x0 x1, .int .i64 0]) (by simp [results, Try.results24, go_sem, d0, d1]) rfl ?_
  have h1 := hHeld.1
  refine ⟨rfl, ?_⟩
  go_grown
set_option maxRecDepth 100000 in
theorem unless6_sumno (p0 p1 p2 p3 f : Value) (e : Int) (he : (e == 0) = false) (w : World) (C : ∀ W, Below w.heap.size w W → Calls Try.prog 25 #[p0, p1, p2, p3] W (Ret W (.int .i64 e))) :
    Calls Try.prog 24 #[.func (.func 25) #[] #[p0, p1, p2, p3], f] w (Ret w (.tuple #[wideV 0 0, .int .i64 e])) := by
  replace C := Lib.hid C
  go_enter Try.func24, Try.ntmps24
  go_wp2_with fail
  refine (C.out _ (by go_grown)).mono ?_
  rintro e w1 ⟨rfl, hb⟩
  have hHeld : Keeps w [(w.heap.size, 0, .int .i64 0), (w.heap.size, 1, .int .u64 0)] _ := Keeps.next (by refine ⟨by go_grown, ?_⟩; simp [Cells, go_sem]) hb
  clear hb
  obtain ⟨⟨kz0, kc0, kf0⟩, ⟨kz1, kc1, kf1⟩, _⟩ := hHeld.2
  go_wp2_with fail
  have hS : Keeps w [(w.heap.size, 0, .int .i64 0), (w.heap.size, 1, .int .u64 0)] ((w1.setCell ⟨w.heap.size, 0, none⟩ (.int .i64 0)).setCell ⟨w.heap.size, 1, none⟩ (.int .u64 0)) := by
    have h1 := hHeld.1
    refine ⟨by go_grown, ⟨by simpa using kz0, ?_, by simp [*]⟩, ⟨by simpa using kz0, ?_, by simp [*]⟩, trivial⟩
    · exact (set2 (W := w1) kc0 kc1).1
    · exact (set2 (W := w1) kc0 kc1).2
  have d0 := (hS.alloc (.cells #[.int .i64 0, .int .u64 0] 24)).2.1.2.1
  have d1 := (hS.alloc (.cells #[.int .i64 0, .int .u64 0] 24)).2.2.1.2.1
  refine bodyPost_ret (v := .tuple #[wideV 0 0, .int .i64 e]) (by simp [results, Try.results24, go_sem, d0, d1]) rfl ?_
  have h1 := hHeld.1
  refine ⟨rfl, ?_⟩
  go_grown
set_option maxRecDepth 100000 in
theorem unless6_rests (p0 p1 p2 p3 : Value) (x : Int) (w : World) (C : ∀ W, Below w.heap.size w W → Calls Try.prog 30 #[p0, p1, p2, p3] W (Ret W (.int .i64 0)))
    (D : ∀ W, Below w.heap.size w W → Calls Try.prog 31 #[p0, p1, p2, p3] W (Ret W (.int .i64 x))) :
    Calls Try.prog 29 #[.func (.func 30) #[] #[p0, p1, p2, p3], .func (.func 31) #[] #[p0, p1, p2, p3]] w (Ret w (.tuple #[.int .i64 x, .int .i64 0])) := by
  replace C := Lib.hid C
  replace D := Lib.hid D
  go_enter Try.func29, Try.ntmps29
  go_wp2_with fail
  refine (C.out _ (by go_grown)).mono ?_
  rintro e w1 ⟨rfl, hb⟩
  have hHeld : Keeps w [] _ := Keeps.next (by refine ⟨by go_grown, ?_⟩; simp [Cells, go_sem]) hb
  clear hb
  go_wp2_with fail
  refine (D.out _ hHeld.1).mono ?_
  rintro e w2 ⟨rfl, hb⟩
  replace hHeld := Keeps.next (hHeld) hb
  clear hb 
  go_wp2_with fail
  go_returns
  exact ⟨rfl, hHeld.1⟩
set_option maxRecDepth 100000 in
theorem unless6_restsno (p0 p1 p2 p3 f : Value) (e : Int) (he : (e == 0) = false) (w : World) (C : ∀ W, Below w.heap.size w W → Calls Try.prog 30 #[p0, p1, p2, p3] W (Ret W (.int .i64 e))) :
    Calls Try.prog 29 #[.func (.func 30) #[] #[p0, p1, p2, p3], f] w (Ret w (.tuple #[.int .i64 0, .int .i64 e])) := by
  replace C := Lib.hid C
  go_enter Try.func29, Try.ntmps29
  go_wp2_with fail
  refine (C.out _ (by go_grown)).mono ?_
  rintro e w1 ⟨rfl, hb⟩
  have hHeld : Keeps w [] _ := Keeps.next (by refine ⟨by go_grown, ?_⟩; simp [Cells, go_sem]) hb
  clear hb
  go_wp2_with fail
  go_returns
  exact ⟨rfl, hHeld.1⟩
/-- What Sum tells; what Rests does. -/
def suQ (n a b m : Int) : Int := if stepsB n a b m then floorS n.toNat a b m else 0
def reQ (n a b m : Int) : Int := if stepsB n a b m then restS n.toNat a b m else 0
theorem zero_words : rhi 0 = 0 ∧ rlo 0 = 0 := by decide +kernel
set_option maxRecDepth 100000 in
set_option maxHeartbeats 2000000 in
theorem sum_any (n a b m : Int) (fa : Fits a) (fb : Fits b) (w : World) :
    Calls Try.prog 12 #[.int .i64 n, wideV (rhi a) (rlo a), wideV (rhi b) (rlo b), .int .i64 m] w (Ret w (.tuple #[wideV (rhi (suQ n a b m)) (rlo (suQ n a b m)), .int .i64 (stE n a b m)])) := by
  have S1 := Lib.hid (fun B0 B1 B2 B3 W k => sum1_any n a b m fa fb B0 B1 B2 B3 W k)
  by_cases h : stepsB n a b m = true
  · obtain ⟨⟨h0, h1⟩, h2, h3, h4, h5⟩ := (stepsB_iff n a b m).1 h
    have S2 := fun B0 B1 B2 B3 W k => sum2_any n.toNat a b m (by omega) h2 h3 h4 h5 B0 B1 B2 B3 W k
    rw [show ((n.toNat : Nat) : Int) = n by omega] at S2
    replace S2 := Lib.hid S2
    have e1 : stE n a b m = 0 := by unfold stE; rw [if_pos h]
    have e2 : suQ n a b m = floorS n.toNat a b m := by unfold suQ; rw [if_pos h]
    rw [e1] at S1
    rw [e1, e2]
    clear e1 e2 h h0 h1 h2 h3 h4 h5 fa fb
    generalize floorS n.toNat a b m = T at *
    generalize rhi T = T0 at *
    generalize rlo T = T1 at *
    generalize rhi a = a0 at *
    generalize rlo a = a1 at *
    generalize rhi b = b0 at *
    generalize rlo b = b1 at *
    go_enter Try.func12, Try.ntmps12
    go_wp2_with fail
    have hA : Keeps w [(w.heap.size, 0, .int .i64 n), (w.heap.size + 1, 0, .int .i64 a0), (w.heap.size + 1, 1, .int .u64 a1), (w.heap.size + 1 + 1, 0, .int .i64 b0), (w.heap.size + 1 + 1, 1, .int .u64 b1), (w.heap.size + 1 + 1 + 1, 0, .int .i64 m), (w.heap.size + 1 + 1 + 1 + 1, 0, .int .i64 0), (w.heap.size + 1 + 1 + 1 + 1, 1, .int .u64 0)] (((((w.alloc (.cells #[.int .i64 n] 3)).alloc (.cells #[.int .i64 a0, .int .u64 a1] 24)).alloc (.cells #[.int .i64 b0, .int .u64 b1] 24)).alloc (.cells #[.int .i64 m] 2)).alloc (.cells #[.int .i64 0, .int .u64 0] 24)) := ⟨by go_grown, by simp [Cells, go_sem]⟩
    refine Calls.mono (unless6_sum _ _ _ _ T0 T1 _ ?_ ?_) ?_
    · intro W hW
      exact S1.out _ _ _ _ _ ((hA.sub (by simp)).2.next hW)
    · intro W hW
      exact S2.out _ _ _ _ _ ((hA.sub (by simp)).2.next hW)
    rintro e w1 ⟨rfl, hb⟩
    replace hA := hA.next hb
    clear hb
    obtain ⟨⟨kz0, kc0, kf0⟩, ⟨kz1, kc1, kf1⟩, ⟨kz2, kc2, kf2⟩, ⟨kz3, kc3, kf3⟩, ⟨kz4, kc4, kf4⟩, ⟨kz5, kc5, kf5⟩, ⟨kz6, kc6, kf6⟩, ⟨kz7, kc7, kf7⟩, _⟩ := hA.2
    go_wp2_with fail
    obtain ⟨d0, d1⟩ := set2 (W := w1) (B := w.heap.size + 1 + 1 + 1 + 1) (u0 := .int .i64 T0) (u1 := .int .u64 T1) kc6 kc7
    refine bodyPost_ret (v := .tuple #[wideV T0 T1, .int .i64 0]) (by simp [results, Try.results12, go_sem, d0, d1]) rfl ?_
    have h1 := hA.1
    refine ⟨rfl, ?_⟩
    go_grown
  · have e1 : stE n a b m = 2 := by unfold stE; rw [if_neg h]
    have e2 : suQ n a b m = 0 := by unfold suQ; rw [if_neg h]
    rw [e1] at S1
    rw [e1, e2, zero_words.1, zero_words.2]
    clear e1 e2 h fa fb
    generalize rhi a = a0 at *
    generalize rlo a = a1 at *
    generalize rhi b = b0 at *
    generalize rlo b = b1 at *
    go_enter Try.func12, Try.ntmps12
    go_wp2_with fail
    have hA : Keeps w [(w.heap.size, 0, .int .i64 n), (w.heap.size + 1, 0, .int .i64 a0), (w.heap.size + 1, 1, .int .u64 a1), (w.heap.size + 1 + 1, 0, .int .i64 b0), (w.heap.size + 1 + 1, 1, .int .u64 b1), (w.heap.size + 1 + 1 + 1, 0, .int .i64 m), (w.heap.size + 1 + 1 + 1 + 1, 0, .int .i64 0), (w.heap.size + 1 + 1 + 1 + 1, 1, .int .u64 0)] (((((w.alloc (.cells #[.int .i64 n] 3)).alloc (.cells #[.int .i64 a0, .int .u64 a1] 24)).alloc (.cells #[.int .i64 b0, .int .u64 b1] 24)).alloc (.cells #[.int .i64 m] 2)).alloc (.cells #[.int .i64 0, .int .u64 0] 24)) := ⟨by go_grown, by simp [Cells, go_sem]⟩
    refine Calls.mono (unless6_sumno _ _ _ _ _ 2 (by decide) _ ?_) ?_
    · intro W hW
      exact S1.out _ _ _ _ _ ((hA.sub (by simp)).2.next hW)
    rintro e w1 ⟨rfl, hb⟩
    replace hA := hA.next hb
    clear hb
    obtain ⟨⟨kz0, kc0, kf0⟩, ⟨kz1, kc1, kf1⟩, ⟨kz2, kc2, kf2⟩, ⟨kz3, kc3, kf3⟩, ⟨kz4, kc4, kf4⟩, ⟨kz5, kc5, kf5⟩, ⟨kz6, kc6, kf6⟩, ⟨kz7, kc7, kf7⟩, _⟩ := hA.2
    go_wp2_with fail
    obtain ⟨d0, d1⟩ := set2 (W := w1) (B := w.heap.size + 1 + 1 + 1 + 1) (u0 := .int .i64 0) (u1 := .int .u64 0) kc6 kc7
    refine bodyPost_ret (v := .tuple #[wideV 0 0, .int .i64 2]) (by simp [results, Try.results12, go_sem, d0, d1]) rfl ?_
    have h1 := hA.1
    refine ⟨rfl, ?_⟩
    go_grown
set_option maxRecDepth 100000 in
set_option maxHeartbeats 2000000 in
theorem rests_any (n a b m : Int) (fa : Fits a) (fb : Fits b) (w : World) :
    Calls Try.prog 13 #[.int .i64 n, wideV (rhi a) (rlo a), wideV (rhi b) (rlo b), .int .i64 m] w (Ret w (.tuple #[.int .i64 (reQ n a b m), .int .i64 (stE n a b m)])) := by
  have S1 := Lib.hid (fun B0 B1 B2 B3 W k => rests1_any n a b m fa fb B0 B1 B2 B3 W k)
  by_cases h : stepsB n a b m = true
  · obtain ⟨⟨h0, h1⟩, h2, h3, h4, h5⟩ := (stepsB_iff n a b m).1 h
    have S2 := fun B0 B1 B2 B3 W k => rests2_any n.toNat a b m (by omega) h2 h3 h4 h5 B0 B1 B2 B3 W k
    rw [show ((n.toNat : Nat) : Int) = n by omega] at S2
    replace S2 := Lib.hid S2
    have e1 : stE n a b m = 0 := by unfold stE; rw [if_pos h]
    have e2 : reQ n a b m = restS n.toNat a b m := by unfold reQ; rw [if_pos h]
    rw [e1] at S1
    rw [e1, e2]
    clear e1 e2 h h0 h1 h2 h3 h4 h5 fa fb
    generalize restS n.toNat a b m = T at *
    generalize rhi a = a0 at *
    generalize rlo a = a1 at *
    generalize rhi b = b0 at *
    generalize rlo b = b1 at *
    go_enter Try.func13, Try.ntmps13
    go_wp2_with fail
    have hA : Keeps w [(w.heap.size, 0, .int .i64 n), (w.heap.size + 1, 0, .int .i64 a0), (w.heap.size + 1, 1, .int .u64 a1), (w.heap.size + 1 + 1, 0, .int .i64 b0), (w.heap.size + 1 + 1, 1, .int .u64 b1), (w.heap.size + 1 + 1 + 1, 0, .int .i64 m)] ((((w.alloc (.cells #[.int .i64 n] 3)).alloc (.cells #[.int .i64 a0, .int .u64 a1] 24)).alloc (.cells #[.int .i64 b0, .int .u64 b1] 24)).alloc (.cells #[.int .i64 m] 2)) := ⟨by go_grown, by simp [Cells, go_sem]⟩
    refine Calls.mono (unless6_rests _ _ _ _ T _ ?_ ?_) ?_
    · intro W hW
      exact S1.out _ _ _ _ _ (hA.2.next hW)
    · intro W hW
      exact S2.out _ _ _ _ _ (hA.2.next hW)
    rintro e w1 ⟨rfl, hb⟩
    replace hA := hA.next hb
    clear hb
    go_wp2_with fail
    go_returns
    exact ⟨rfl, hA.1⟩
  · have e1 : stE n a b m = 2 := by unfold stE; rw [if_neg h]
    have e2 : reQ n a b m = 0 := by unfold reQ; rw [if_neg h]
    rw [e1] at S1
    rw [e1, e2]
    clear e1 e2 h fa fb
    generalize rhi a = a0 at *
    generalize rlo a = a1 at *
    generalize rhi b = b0 at *
    generalize rlo b = b1 at *
    go_enter Try.func13, Try.ntmps13
    go_wp2_with fail
    have hA : Keeps w [(w.heap.size, 0, .int .i64 n), (w.heap.size + 1, 0, .int .i64 a0), (w.heap.size + 1, 1, .int .u64 a1), (w.heap.size + 1 + 1, 0, .int .i64 b0), (w.heap.size + 1 + 1, 1, .int .u64 b1), (w.heap.size + 1 + 1 + 1, 0, .int .i64 m)] ((((w.alloc (.cells #[.int .i64 n] 3)).alloc (.cells #[.int .i64 a0, .int .u64 a1] 24)).alloc (.cells #[.int .i64 b0, .int .u64 b1] 24)).alloc (.cells #[.int .i64 m] 2)) := ⟨by go_grown, by simp [Cells, go_sem]⟩
    refine Calls.mono (unless6_restsno _ _ _ _ _ 2 (by decide) _ ?_) ?_
    · intro W hW
      exact S1.out _ _ _ _ _ (hA.2.next hW)
    rintro e w1 ⟨rfl, hb⟩
    replace hA := hA.next hb
    clear hb
    go_wp2_with fail
    go_returns
    exact ⟨rfl, hA.1⟩
end Go.Proofs.Ytnacdofidmgfmaa
