/-
  Layer 5: Ends. Conditions: the numbers are of 64 bits.
-/
import Derived.Test.YtldfkfienlcipaaLnE
namespace Go.Proofs.Ytldfkfienlcipaa
open Go.RowKit

theorem run_index_arr {P : Program} (w : World) (t e : TypeId) (n : Nat) (cs : Array Value) (i : Nat) (v : Value) (h : P.underlying t = some (.array n e)) (ha : (isAgg e).run P w = .ok false w) (hs : (sizeOf e).run P w = .ok 1 w)
    (hi : i < n) (hv : cs[i]? = some v) : (Instr.index t (.agg cs) (.int .i64 i)).run P w = .ok v w := by
  simp [Instr.index, run_underlying h, asIntOf, hi, go_sem, part, ha, hs, hv]
theorem index0 (x y : Int) (W : World) : (Instr.index 74 (.agg #[.int .i64 x, .int .i64 y]) (.int .i64 0)).run Try.prog W = .ok (.int .i64 x) W :=
  run_index_arr W _ _ 2 #[.int .i64 x, .int .i64 y] 0 _ Try.underlying74 (Try.isAgg2 W) (Try.sizeOf2 W) (by decide) rfl
theorem index1 (x y : Int) (W : World) : (Instr.index 74 (.agg #[.int .i64 x, .int .i64 y]) (.int .i64 1)).run Try.prog W = .ok (.int .i64 y) W :=
  run_index_arr W _ _ 2 #[.int .i64 x, .int .i64 y] 1 _ Try.underlying74 (Try.isAgg2 W) (Try.sizeOf2 W) (by decide) rfl
theorem join_two (p q : Int) : resS min max [(p, p), (q, q)] = .tuple #[spV (min p q) (max p q), .int .i64 0] := by
  have e : accS min max [(p, p), (q, q)] = (min p q, max p q) := by
    show (min (min p p) q, max (max p p) q) = (min p q, max p q)
    rw [Int.min_self, Int.max_self]
  have e2 : badS [(p, p), (q, q)] = false := by
    unfold badS
    simp
  unfold resS
  rw [if_neg (by simp), e2, if_neg (by simp), e]
attribute [local go_sem] index0 index1
set_option maxRecDepth 100000 in
set_option maxHeartbeats 4000000 in
theorem between_good (l : Value) (x y p q : Int) (w : World)
    (A1 : ∀ W, Calls Try.prog 35 #[l, .int .i64 x] W (Ret W (.tuple #[.int .i64 p, .int .i64 0])))
    (A2 : ∀ W, Calls Try.prog 35 #[l, .int .i64 y] W (Ret W (.tuple #[.int .i64 q, .int .i64 0]))) :
    Calls Try.prog 39 #[.agg #[.int .i64 x, .int .i64 y], .func (.func 35) #[l] #[]] w (Ret w (.tuple #[spV (min p q) (max p q), .int .i64 0])) := by
  replace A1 := Lib.hid A1
  replace A2 := Lib.hid A2
  have PT := Lib.hid (fun v W => point_any v W)
  have JO := fun v W k => joinR_any [(p, p), (q, q)] (by simp) v W k
  rw [join_two] at JO
  replace JO := Lib.hid JO
  go_enter Try.func39, Try.ntmps39
  go_wp2_with fail
  refine wp_loop_rounds 3 ?_
  rw [rounds_succ]
  go_wp2_with fail
  refine (A1.out _).mono ?_
  rintro e w1 ⟨rfl, hb⟩
  have hHeld : Keeps w [(w.heap.size + 1, 0, .int .i64 0), (w.heap.size + 1, 1, .int .i64 0), (w.heap.size + 2, 0, .int .i64 0), (w.heap.size + 2, 1, .int .i64 0), (w.heap.size + 2, 2, .int .i64 0), (w.heap.size + 2, 3, .int .i64 0)] _ := Keeps.next (by refine ⟨by go_grown, ?_⟩; simp [Cells, go_sem]) hb
  clear hb
  obtain ⟨⟨kz0, kc0, kf0⟩, ⟨kz1, kc1, kf1⟩, ⟨kz2, kc2, kf2⟩, ⟨kz3, kc3, kf3⟩, ⟨kz4, kc4, kf4⟩, ⟨kz5, kc5, kf5⟩, _⟩ := hHeld.2
  go_wp2_with fail
  refine (PT.out _ _).mono ?_
  rintro e w2 ⟨rfl, hb⟩
  replace hHeld := Keeps.next (hHeld) hb
  clear hb kz0 kc0 kf0 kz1 kc1 kf1 kz2 kc2 kf2 kz3 kc3 kf3 kz4 kc4 kf4 kz5 kc5 kf5
  obtain ⟨⟨kz0, kc0, kf0⟩, ⟨kz1, kc1, kf1⟩, ⟨kz2, kc2, kf2⟩, ⟨kz3, kc3, kf3⟩, ⟨kz4, kc4, kf4⟩, ⟨kz5, kc5, kf5⟩, _⟩ := hHeld.2
  go_wp2_with fail
  rw [rounds_succ]
  go_wp2_with fail
  have k1 : Keeps w [(w.heap.size + 1, 0, .int .i64 0), (w.heap.size + 1, 1, .int .i64 0), (w.heap.size + 2, 0, .int .i64 p), (w.heap.size + 2, 1, .int .i64 p), (w.heap.size + 2, 2, .int .i64 0), (w.heap.size + 2, 3, .int .i64 0)] ((w2.setCell ⟨w.heap.size + 2, 0, none⟩ (.int .i64 p)).setCell ⟨w.heap.size + 2, 1, none⟩ (.int .i64 p)) := ⟨(hHeld.1.setCell (by simp) _).setCell (by simp) _, ⟨by simpa using kz0, off_cell (by simp) (off_cell (by simp) kc0), by simpa using kf0⟩, ⟨by simpa using kz1, off_cell (by simp) (off_cell (by simp) kc1), by simpa using kf1⟩, ⟨by simpa using kz2, off_cell (by simp) (World.cell?_setCell_same' _ _ _ (by rw [kc2]; rfl)), by simpa using kf2⟩, ⟨by simpa using kz3, World.cell?_setCell_same' _ _ _ (by rw [off_cell (by simp) kc3]; rfl), by simpa using kf3⟩, ⟨by simpa using kz4, off_cell (by simp) (off_cell (by simp) kc4), by simpa using kf4⟩, ⟨by simpa using kz5, off_cell (by simp) (off_cell (by simp) kc5), by simpa using kf5⟩, trivial⟩
  refine (A2.out _).mono ?_
  rintro e w3 ⟨rfl, hb⟩
  replace hHeld : Keeps w [(w.heap.size + 1, 0, .int .i64 0), (w.heap.size + 1, 1, .int .i64 0), (w.heap.size + 2, 0, .int .i64 p), (w.heap.size + 2, 1, .int .i64 p), (w.heap.size + 2, 2, .int .i64 0), (w.heap.size + 2, 3, .int .i64 0)] _ := Keeps.next (k1) hb
  clear hb kz0 kc0 kf0 kz1 kc1 kf1 kz2 kc2 kf2 kz3 kc3 kf3 kz4 kc4 kf4 kz5 kc5 kf5
  obtain ⟨⟨kz0, kc0, kf0⟩, ⟨kz1, kc1, kf1⟩, ⟨kz2, kc2, kf2⟩, ⟨kz3, kc3, kf3⟩, ⟨kz4, kc4, kf4⟩, ⟨kz5, kc5, kf5⟩, _⟩ := hHeld.2
  go_wp2_with fail
  refine (PT.out _ _).mono ?_
  rintro e w4 ⟨rfl, hb⟩
  replace hHeld := Keeps.next (hHeld) hb
  clear hb kz0 kc0 kf0 kz1 kc1 kf1 kz2 kc2 kf2 kz3 kc3 kf3 kz4 kc4 kf4 kz5 kc5 kf5
  obtain ⟨⟨kz0, kc0, kf0⟩, ⟨kz1, kc1, kf1⟩, ⟨kz2, kc2, kf2⟩, ⟨kz3, kc3, kf3⟩, ⟨kz4, kc4, kf4⟩, ⟨kz5, kc5, kf5⟩, _⟩ := hHeld.2
  go_wp2_with fail
  rw [rounds_succ]
  go_wp2_with fail
  have k2 : Keeps w [(w.heap.size + 1, 0, .int .i64 0), (w.heap.size + 1, 1, .int .i64 0), (w.heap.size + 2, 0, .int .i64 p), (w.heap.size + 2, 1, .int .i64 p), (w.heap.size + 2, 2, .int .i64 q), (w.heap.size + 2, 3, .int .i64 q)] ((w4.setCell ⟨w.heap.size + 2, 2, none⟩ (.int .i64 q)).setCell ⟨w.heap.size + 2, 3, none⟩ (.int .i64 q)) := ⟨(hHeld.1.setCell (by simp) _).setCell (by simp) _, ⟨by simpa using kz0, off_cell (by simp) (off_cell (by simp) kc0), by simpa using kf0⟩, ⟨by simpa using kz1, off_cell (by simp) (off_cell (by simp) kc1), by simpa using kf1⟩, ⟨by simpa using kz2, off_cell (by simp) (off_cell (by simp) kc2), by simpa using kf2⟩, ⟨by simpa using kz3, off_cell (by simp) (off_cell (by simp) kc3), by simpa using kf3⟩, ⟨by simpa using kz4, off_cell (by simp) (World.cell?_setCell_same' _ _ _ (by rw [kc4]; rfl)), by simpa using kf4⟩, ⟨by simpa using kz5, World.cell?_setCell_same' _ _ _ (by rw [off_cell (by simp) kc5]; rfl), by simpa using kf5⟩, trivial⟩
  refine Calls.mono (JO.out _ _ ?_) ?_
  · refine ⟨some ⟨w.heap.size + 2, 0, none⟩, 2, rfl, fun i s hi => ?_⟩
    match i, hi with
    | 0, hi => simp at hi; subst hi; exact ⟨_, 0, rfl, k2.2.2.2.1.1, k2.2.2.2.1.2.1, k2.2.2.2.2.1.2.1⟩
    | 1, hi => simp at hi; subst hi; exact ⟨_, 0, rfl, k2.2.2.2.1.1, k2.2.2.2.2.2.1.2.1, k2.2.2.2.2.2.2.1.2.1⟩
  rintro e w5 ⟨rfl, hb⟩
  replace hHeld : Keeps w [(w.heap.size + 1, 0, .int .i64 0), (w.heap.size + 1, 1, .int .i64 0)] _ := Keeps.next ((show Keeps w [(w.heap.size + 1, 0, .int .i64 0), (w.heap.size + 1, 1, .int .i64 0)] _ from ⟨k2.1, k2.2.1, k2.2.2.1, trivial⟩)) hb
  clear hb kz0 kc0 kf0 kz1 kc1 kf1 kz2 kc2 kf2 kz3 kc3 kf3 kz4 kc4 kf4 kz5 kc5 kf5
  obtain ⟨⟨kz0, kc0, kf0⟩, ⟨kz1, kc1, kf1⟩, _⟩ := hHeld.2
  go_wp2_with fail
  obtain ⟨d0, d1⟩ := set2 (W := w5) (B := w.heap.size + 1) (u0 := .int .i64 (min p q)) (u1 := .int .i64 (max p q)) kc0 kc1
  generalize min p q = lo at *
  generalize max p q = hi at *
  refine bodyPost_ret (v := .tuple #[spV lo hi, .int .i64 0]) (by simp [results, Try.results39, go_sem, d0, d1]) rfl ?_
  exact ⟨rfl, by first | (with_reducible exact hHeld.1) | (have hB := hHeld.1; have hz := hB.size; go_grown)⟩
set_option maxRecDepth 100000 in
set_option maxHeartbeats 4000000 in
theorem between_err1 (l : Value) (x y p c : Int) (w : World) (hc : (c == 0) = false)
    (A1 : ∀ W, Calls Try.prog 35 #[l, .int .i64 x] W (Ret W (.tuple #[.int .i64 p, .int .i64 c]))) :
    Calls Try.prog 39 #[.agg #[.int .i64 x, .int .i64 y], .func (.func 35) #[l] #[]] w (Ret w (.tuple #[spV 0 0, .int .i64 c])) := by
  replace A1 := Lib.hid A1
  go_enter Try.func39, Try.ntmps39
  go_wp2_with fail
  refine wp_loop_rounds 3 ?_
  rw [rounds_succ]
  go_wp2_with fail
  refine (A1.out _).mono ?_
  rintro e w1 ⟨rfl, hb⟩
  have hHeld : Keeps w [(w.heap.size + 1, 0, .int .i64 0), (w.heap.size + 1, 1, .int .i64 0)] _ := Keeps.next (by refine ⟨by go_grown, ?_⟩; simp [Cells, go_sem]) hb
  clear hb
  obtain ⟨⟨kz0, kc0, kf0⟩, ⟨kz1, kc1, kf1⟩, _⟩ := hHeld.2
  go_wp2_with fail
  obtain ⟨d0, d1⟩ := set2 (W := w1) (B := w.heap.size + 1) (u0 := .int .i64 0) (u1 := .int .i64 0) kc0 kc1
  refine bodyPost_ret (v := .tuple #[spV 0 0, .int .i64 c]) (by simp [results, Try.results39, go_sem, d0, d1]) rfl ?_
  exact ⟨rfl, by first | (with_reducible exact hHeld.1) | (have hB := hHeld.1; have hz := hB.size; go_grown)⟩
set_option maxRecDepth 100000 in
set_option maxHeartbeats 4000000 in
theorem between_err2 (l : Value) (x y p q c : Int) (w : World) (hc : (c == 0) = false)
    (A1 : ∀ W, Calls Try.prog 35 #[l, .int .i64 x] W (Ret W (.tuple #[.int .i64 p, .int .i64 0])))
    (A2 : ∀ W, Calls Try.prog 35 #[l, .int .i64 y] W (Ret W (.tuple #[.int .i64 q, .int .i64 c]))) :
    Calls Try.prog 39 #[.agg #[.int .i64 x, .int .i64 y], .func (.func 35) #[l] #[]] w (Ret w (.tuple #[spV 0 0, .int .i64 c])) := by
  replace A1 := Lib.hid A1
  replace A2 := Lib.hid A2
  have PT := Lib.hid (fun v W => point_any v W)
  go_enter Try.func39, Try.ntmps39
  go_wp2_with fail
  refine wp_loop_rounds 3 ?_
  rw [rounds_succ]
  go_wp2_with fail
  refine (A1.out _).mono ?_
  rintro e w1 ⟨rfl, hb⟩
  have hHeld : Keeps w [(w.heap.size + 1, 0, .int .i64 0), (w.heap.size + 1, 1, .int .i64 0), (w.heap.size + 2, 0, .int .i64 0), (w.heap.size + 2, 1, .int .i64 0), (w.heap.size + 2, 2, .int .i64 0), (w.heap.size + 2, 3, .int .i64 0)] _ := Keeps.next (by refine ⟨by go_grown, ?_⟩; simp [Cells, go_sem]) hb
  clear hb
  obtain ⟨⟨kz0, kc0, kf0⟩, ⟨kz1, kc1, kf1⟩, ⟨kz2, kc2, kf2⟩, ⟨kz3, kc3, kf3⟩, ⟨kz4, kc4, kf4⟩, ⟨kz5, kc5, kf5⟩, _⟩ := hHeld.2
  go_wp2_with fail
  refine (PT.out _ _).mono ?_
  rintro e w2 ⟨rfl, hb⟩
  replace hHeld := Keeps.next (hHeld) hb
  clear hb kz0 kc0 kf0 kz1 kc1 kf1 kz2 kc2 kf2 kz3 kc3 kf3 kz4 kc4 kf4 kz5 kc5 kf5
  obtain ⟨⟨kz0, kc0, kf0⟩, ⟨kz1, kc1, kf1⟩, ⟨kz2, kc2, kf2⟩, ⟨kz3, kc3, kf3⟩, ⟨kz4, kc4, kf4⟩, ⟨kz5, kc5, kf5⟩, _⟩ := hHeld.2
  go_wp2_with fail
  rw [rounds_succ]
  go_wp2_with fail
  have k1 : Keeps w [(w.heap.size + 1, 0, .int .i64 0), (w.heap.size + 1, 1, .int .i64 0), (w.heap.size + 2, 0, .int .i64 p), (w.heap.size + 2, 1, .int .i64 p), (w.heap.size + 2, 2, .int .i64 0), (w.heap.size + 2, 3, .int .i64 0)] ((w2.setCell ⟨w.heap.size + 2, 0, none⟩ (.int .i64 p)).setCell ⟨w.heap.size + 2, 1, none⟩ (.int .i64 p)) := ⟨(hHeld.1.setCell (by simp) _).setCell (by simp) _, ⟨by simpa using kz0, off_cell (by simp) (off_cell (by simp) kc0), by simpa using kf0⟩, ⟨by simpa using kz1, off_cell (by simp) (off_cell (by simp) kc1), by simpa using kf1⟩, ⟨by simpa using kz2, off_cell (by simp) (World.cell?_setCell_same' _ _ _ (by rw [kc2]; rfl)), by simpa using kf2⟩, ⟨by simpa using kz3, World.cell?_setCell_same' _ _ _ (by rw [off_cell (by simp) kc3]; rfl), by simpa using kf3⟩, ⟨by simpa using kz4, off_cell (by simp) (off_cell (by simp) kc4), by simpa using kf4⟩, ⟨by simpa using kz5, off_cell (by simp) (off_cell (by simp) kc5), by simpa using kf5⟩, trivial⟩
  refine (A2.out _).mono ?_
  rintro e w3 ⟨rfl, hb⟩
  replace hHeld : Keeps w [(w.heap.size + 1, 0, .int .i64 0), (w.heap.size + 1, 1, .int .i64 0), (w.heap.size + 2, 0, .int .i64 p), (w.heap.size + 2, 1, .int .i64 p), (w.heap.size + 2, 2, .int .i64 0), (w.heap.size + 2, 3, .int .i64 0)] _ := Keeps.next (k1) hb
  clear hb kz0 kc0 kf0 kz1 kc1 kf1 kz2 kc2 kf2 kz3 kc3 kf3 kz4 kc4 kf4 kz5 kc5 kf5
  obtain ⟨⟨kz0, kc0, kf0⟩, ⟨kz1, kc1, kf1⟩, ⟨kz2, kc2, kf2⟩, ⟨kz3, kc3, kf3⟩, ⟨kz4, kc4, kf4⟩, ⟨kz5, kc5, kf5⟩, _⟩ := hHeld.2
  go_wp2_with fail
  obtain ⟨d0, d1⟩ := set2 (W := w3) (B := w.heap.size + 1) (u0 := .int .i64 0) (u1 := .int .i64 0) kc0 kc1
  refine bodyPost_ret (v := .tuple #[spV 0 0, .int .i64 c]) (by simp [results, Try.results39, go_sem, d0, d1]) rfl ?_
  exact ⟨rfl, by first | (with_reducible exact hHeld.1) | (have hB := hHeld.1; have hz := hB.size; go_grown)⟩
/-- What the ends of a line's values are, or why there are none. -/
def EndsI (x y p c1 q c2 lo hi c : Int) : Prop :=
  (timeB x = false ∨ timeB y = false ∨ y < x) ∧ lo = 0 ∧ hi = 0 ∧ c = 2 ∨ timeB x = true ∧ timeB y = true ∧ x ≤ y ∧ (c1 ≠ 0 ∧ lo = 0 ∧ hi = 0 ∧ c = c1 ∨ c1 = 0 ∧ c2 ≠ 0 ∧ lo = 0 ∧ hi = 0 ∧ c = c2 ∨ c1 = 0 ∧ c2 = 0 ∧ lo = min p q ∧ hi = max p q ∧ c = 0)
theorem between_any (l : Value) (x y p q c1 c2 lo hi c : Int) (w : World) (H : c1 ≠ 0 ∧ lo = 0 ∧ hi = 0 ∧ c = c1 ∨ c1 = 0 ∧ c2 ≠ 0 ∧ lo = 0 ∧ hi = 0 ∧ c = c2 ∨ c1 = 0 ∧ c2 = 0 ∧ lo = min p q ∧ hi = max p q ∧ c = 0)
    (A1 : ∀ W, Calls Try.prog 35 #[l, .int .i64 x] W (Ret W (.tuple #[.int .i64 p, .int .i64 c1])))
    (A2 : ∀ W, Calls Try.prog 35 #[l, .int .i64 y] W (Ret W (.tuple #[.int .i64 q, .int .i64 c2]))) :
    Calls Try.prog 39 #[.agg #[.int .i64 x, .int .i64 y], .func (.func 35) #[l] #[]] w (Ret w (.tuple #[spV lo hi, .int .i64 c])) := by
  rcases H with ⟨h, rfl, rfl, rfl⟩ | ⟨rfl, h, rfl, rfl, rfl⟩ | ⟨rfl, rfl, rfl, rfl, rfl⟩
  · exact between_err1 l x y p c w (by simpa using h) A1
  · exact between_err2 l x y p q c w (by simpa using h) A1 A2
  · exact between_good l x y p q w A1 A2
set_option maxRecDepth 100000 in
set_option maxHeartbeats 4000000 in
theorem ends1_any (a r n d x y lo hi c : Int) (h : lineB a r n d = true) (H : EndsI x y (atQ a r n d x) (atE a r n d x) (atQ a r n d y) (atE a r n d y) lo hi c) (B1 B2 B3 : Nat) (w : World)
    (hc : Cells [(B1, 0, .int .i64 x), (B2, 0, .int .i64 y), (B3, 0, .int .i64 a), (B3, 1, .int .i64 r), (B3, 2, .int .i64 n), (B3, 3, .int .i64 d)] w) :
    Calls Try.prog 37 #[.pointer (some ⟨B1, 0, none⟩), .pointer (some ⟨B2, 0, none⟩), .pointer (some ⟨B3, 0, none⟩)] w (Ret w (.tuple #[spV lo hi, .int .i64 c])) := by
  have T1 := fun W => isTime_any x W
  have T2 := fun W => isTime_any y W
  have A1 := fun W => aat_any a r n d x h W
  have A2 := fun W => aat_any a r n d y h W
  generalize atQ a r n d x = p at *
  generalize atE a r n d x = c1 at *
  generalize atQ a r n d y = q at *
  generalize atE a r n d y = c2 at *
  have BT := fun K W => between_any (lnV a r n d) x y p q c1 c2 lo hi c W K A1 A2
  clear A1 A2 h
  have hk : Keeps w [(B1, 0, .int .i64 x), (B2, 0, .int .i64 y), (B3, 0, .int .i64 a), (B3, 1, .int .i64 r), (B3, 2, .int .i64 n), (B3, 3, .int .i64 d)] w := ⟨Below.refl _ _, hc⟩
  obtain ⟨⟨kz0, kc0, kf0⟩, ⟨kz1, kc1, kf1⟩, ⟨kz2, kc2, kf2⟩, ⟨kz3, kc3, kf3⟩, ⟨kz4, kc4, kf4⟩, ⟨kz5, kc5, kf5⟩, _⟩ := hc
  rcases H with ⟨hb, rfl, rfl, rfl⟩ | ⟨t1, t2, t3, H⟩
  · clear BT
    cases t1 : timeB x
    · rw [t1] at T1
      replace T1 := Lib.hid T1
      clear hb T2
      go_enter Try.func37, Try.ntmps37
      go_wp2_with fail
      refine (T1.out _).mono ?_
      rintro e w1 ⟨rfl, hb⟩
      have hHeld : Keeps w [(B1, 0, .int .i64 x), (B2, 0, .int .i64 y), (B3, 0, .int .i64 a), (B3, 1, .int .i64 r), (B3, 2, .int .i64 n), (B3, 3, .int .i64 d), (w.heap.size, 0, .int .i64 0), (w.heap.size, 1, .int .i64 0)] w1 := Keeps.next ((hk.alloc _).app (newK2 (hk.alloc _))) hb
      clear hb kz0 kc0 kf0 kz1 kc1 kf1 kz2 kc2 kf2 kz3 kc3 kf3 kz4 kc4 kf4 kz5 kc5 kf5
      obtain ⟨⟨kz0, kc0, kf0⟩, ⟨kz1, kc1, kf1⟩, ⟨kz2, kc2, kf2⟩, ⟨kz3, kc3, kf3⟩, ⟨kz4, kc4, kf4⟩, ⟨kz5, kc5, kf5⟩, ⟨kz6, kc6, kf6⟩, ⟨kz7, kc7, kf7⟩, _⟩ := hHeld.2
      skip
      go_wp2_with fail
      obtain ⟨d0, d1⟩ := set2 (W := w1) (B := w.heap.size) (u0 := .int .i64 0) (u1 := .int .i64 0) kc6 kc7
      refine bodyPost_ret (v := .tuple #[spV 0 0, .int .i64 2]) (by simp [results, Try.results37, go_sem, d0, d1]) rfl ?_
      exact ⟨rfl, by first | (with_reducible exact hHeld.1) | (have hB := hHeld.1; have hz := hB.size; go_grown)⟩
    · rw [t1] at T1 hb
      cases t2 : timeB y
      · rw [t2] at T2
        replace T1 := Lib.hid T1
        replace T2 := Lib.hid T2
        clear hb
        go_enter Try.func37, Try.ntmps37
        go_wp2_with fail
        refine (T1.out _).mono ?_
        rintro e w1 ⟨rfl, hb⟩
        have hHeld : Keeps w [(B1, 0, .int .i64 x), (B2, 0, .int .i64 y), (B3, 0, .int .i64 a), (B3, 1, .int .i64 r), (B3, 2, .int .i64 n), (B3, 3, .int .i64 d), (w.heap.size, 0, .int .i64 0), (w.heap.size, 1, .int .i64 0)] w1 := Keeps.next ((hk.alloc _).app (newK2 (hk.alloc _))) hb
        clear hb kz0 kc0 kf0 kz1 kc1 kf1 kz2 kc2 kf2 kz3 kc3 kf3 kz4 kc4 kf4 kz5 kc5 kf5
        obtain ⟨⟨kz0, kc0, kf0⟩, ⟨kz1, kc1, kf1⟩, ⟨kz2, kc2, kf2⟩, ⟨kz3, kc3, kf3⟩, ⟨kz4, kc4, kf4⟩, ⟨kz5, kc5, kf5⟩, ⟨kz6, kc6, kf6⟩, ⟨kz7, kc7, kf7⟩, _⟩ := hHeld.2
        skip
        go_wp2_with fail
        refine (T2.out _).mono ?_
        rintro e w2 ⟨rfl, hb⟩
        replace hHeld := Keeps.next (hHeld) hb
        clear hb kz0 kc0 kf0 kz1 kc1 kf1 kz2 kc2 kf2 kz3 kc3 kf3 kz4 kc4 kf4 kz5 kc5 kf5 kz6 kc6 kf6 kz7 kc7 kf7
        obtain ⟨⟨kz0, kc0, kf0⟩, ⟨kz1, kc1, kf1⟩, ⟨kz2, kc2, kf2⟩, ⟨kz3, kc3, kf3⟩, ⟨kz4, kc4, kf4⟩, ⟨kz5, kc5, kf5⟩, ⟨kz6, kc6, kf6⟩, ⟨kz7, kc7, kf7⟩, _⟩ := hHeld.2
        go_wp2_with fail
        obtain ⟨d0, d1⟩ := set2 (W := w2) (B := w.heap.size) (u0 := .int .i64 0) (u1 := .int .i64 0) kc6 kc7
        refine bodyPost_ret (v := .tuple #[spV 0 0, .int .i64 2]) (by simp [results, Try.results37, go_sem, d0, d1]) rfl ?_
        exact ⟨rfl, by first | (with_reducible exact hHeld.1) | (have hB := hHeld.1; have hz := hB.size; go_grown)⟩
      · rw [t2] at T2 hb
        have t3 : decide (y < x) = true := by simpa using hb
        replace T1 := Lib.hid T1
        replace T2 := Lib.hid T2
        clear hb
        go_enter Try.func37, Try.ntmps37
        go_wp2_with fail
        refine (T1.out _).mono ?_
        rintro e w1 ⟨rfl, hb⟩
        have hHeld : Keeps w [(B1, 0, .int .i64 x), (B2, 0, .int .i64 y), (B3, 0, .int .i64 a), (B3, 1, .int .i64 r), (B3, 2, .int .i64 n), (B3, 3, .int .i64 d), (w.heap.size, 0, .int .i64 0), (w.heap.size, 1, .int .i64 0)] w1 := Keeps.next ((hk.alloc _).app (newK2 (hk.alloc _))) hb
        clear hb kz0 kc0 kf0 kz1 kc1 kf1 kz2 kc2 kf2 kz3 kc3 kf3 kz4 kc4 kf4 kz5 kc5 kf5
        obtain ⟨⟨kz0, kc0, kf0⟩, ⟨kz1, kc1, kf1⟩, ⟨kz2, kc2, kf2⟩, ⟨kz3, kc3, kf3⟩, ⟨kz4, kc4, kf4⟩, ⟨kz5, kc5, kf5⟩, ⟨kz6, kc6, kf6⟩, ⟨kz7, kc7, kf7⟩, _⟩ := hHeld.2
        skip
        go_wp2_with fail
        refine (T2.out _).mono ?_
        rintro e w2 ⟨rfl, hb⟩
        replace hHeld := Keeps.next (hHeld) hb
        clear hb kz0 kc0 kf0 kz1 kc1 kf1 kz2 kc2 kf2 kz3 kc3 kf3 kz4 kc4 kf4 kz5 kc5 kf5 kz6 kc6 kf6 kz7 kc7 kf7
        obtain ⟨⟨kz0, kc0, kf0⟩, ⟨kz1, kc1, kf1⟩, ⟨kz2, kc2, kf2⟩, ⟨kz3, kc3, kf3⟩, ⟨kz4, kc4, kf4⟩, ⟨kz5, kc5, kf5⟩, ⟨kz6, kc6, kf6⟩, ⟨kz7, kc7, kf7⟩, _⟩ := hHeld.2
        go_wp2_with fail
        obtain ⟨d0, d1⟩ := set2 (W := w2) (B := w.heap.size) (u0 := .int .i64 0) (u1 := .int .i64 0) kc6 kc7
        refine bodyPost_ret (v := .tuple #[spV 0 0, .int .i64 2]) (by simp [results, Try.results37, go_sem, d0, d1]) rfl ?_
        exact ⟨rfl, by first | (with_reducible exact hHeld.1) | (have hB := hHeld.1; have hz := hB.size; go_grown)⟩
  · rw [t1] at T1
    rw [t2] at T2
    replace T1 := Lib.hid T1
    replace T2 := Lib.hid T2
    have BU := Lib.hid (BT H)
    clear BT H
    have t4 : decide (y < x) = false := by simp; omega
    go_enter Try.func37, Try.ntmps37
    go_wp2_with fail
    refine (T1.out _).mono ?_
    rintro e w1 ⟨rfl, hb⟩
    have hHeld : Keeps w [(B1, 0, .int .i64 x), (B2, 0, .int .i64 y), (B3, 0, .int .i64 a), (B3, 1, .int .i64 r), (B3, 2, .int .i64 n), (B3, 3, .int .i64 d), (w.heap.size, 0, .int .i64 0), (w.heap.size, 1, .int .i64 0)] w1 := Keeps.next ((hk.alloc _).app (newK2 (hk.alloc _))) hb
    clear hb kz0 kc0 kf0 kz1 kc1 kf1 kz2 kc2 kf2 kz3 kc3 kf3 kz4 kc4 kf4 kz5 kc5 kf5
    obtain ⟨⟨kz0, kc0, kf0⟩, ⟨kz1, kc1, kf1⟩, ⟨kz2, kc2, kf2⟩, ⟨kz3, kc3, kf3⟩, ⟨kz4, kc4, kf4⟩, ⟨kz5, kc5, kf5⟩, ⟨kz6, kc6, kf6⟩, ⟨kz7, kc7, kf7⟩, _⟩ := hHeld.2
    skip
    go_wp2_with fail
    refine (T2.out _).mono ?_
    rintro e w2 ⟨rfl, hb⟩
    replace hHeld := Keeps.next (hHeld) hb
    clear hb kz0 kc0 kf0 kz1 kc1 kf1 kz2 kc2 kf2 kz3 kc3 kf3 kz4 kc4 kf4 kz5 kc5 kf5 kz6 kc6 kf6 kz7 kc7 kf7
    obtain ⟨⟨kz0, kc0, kf0⟩, ⟨kz1, kc1, kf1⟩, ⟨kz2, kc2, kf2⟩, ⟨kz3, kc3, kf3⟩, ⟨kz4, kc4, kf4⟩, ⟨kz5, kc5, kf5⟩, ⟨kz6, kc6, kf6⟩, ⟨kz7, kc7, kf7⟩, _⟩ := hHeld.2
    go_wp2_with fail
    refine (BU.out _).mono ?_
    rintro e w3 ⟨rfl, hb⟩
    replace hHeld := Keeps.next (hHeld) hb
    clear hb kz0 kc0 kf0 kz1 kc1 kf1 kz2 kc2 kf2 kz3 kc3 kf3 kz4 kc4 kf4 kz5 kc5 kf5 kz6 kc6 kf6 kz7 kc7 kf7
    obtain ⟨⟨kz0, kc0, kf0⟩, ⟨kz1, kc1, kf1⟩, ⟨kz2, kc2, kf2⟩, ⟨kz3, kc3, kf3⟩, ⟨kz4, kc4, kf4⟩, ⟨kz5, kc5, kf5⟩, ⟨kz6, kc6, kf6⟩, ⟨kz7, kc7, kf7⟩, _⟩ := hHeld.2
    go_wp2_with fail
    obtain ⟨d0, d1⟩ := set2 (W := w3) (B := w.heap.size) (u0 := .int .i64 lo) (u1 := .int .i64 hi) kc6 kc7
    refine bodyPost_ret (v := .tuple #[spV lo hi, .int .i64 c]) (by simp [results, Try.results37, go_sem, d0, d1]) rfl ?_
    exact ⟨rfl, by first | (with_reducible exact hHeld.1) | (have hB := hHeld.1; have hz := hB.size; go_grown)⟩
set_option maxRecDepth 100000 in
theorem unlessP_no (e : Int) (f : Value) (h : (e == 0) = false) (w : World) : Calls Try.prog 36 #[.int .i64 e, f] w (Ret w (.tuple #[spV 0 0, .int .i64 e])) := by
  go_enter Try.func36, Try.ntmps36
  go_wp2
  go_returns
  exact ⟨rfl, by go_grown⟩
set_option maxRecDepth 100000 in
theorem unlessP_ends (p1 p2 p3 : Value) (x y c : Int) (w : World) (C : ∀ W, Below w.heap.size w W → Calls Try.prog 37 #[p1, p2, p3] W (Ret W (.tuple #[spV x y, .int .i64 c]))) :
    Calls Try.prog 36 #[.int .i64 0, .func (.func 37) #[] #[p1, p2, p3]] w (Ret w (.tuple #[spV x y, .int .i64 c])) := by
  replace C := Lib.hid C
  go_enter Try.func36, Try.ntmps36
  go_wp2_with fail
  refine (C.out _ (by go_grown)).mono ?_
  rintro e w1 ⟨rfl, hb⟩
  have hHeld : Keeps w [(w.heap.size, 0, .int .i64 0), (w.heap.size, 1, .int .i64 0)] _ := Keeps.next (by refine ⟨by go_grown, ?_⟩; simp [Cells, go_sem]) hb
  clear hb
  obtain ⟨⟨kz0, kc0, kf0⟩, ⟨kz1, kc1, kf1⟩, _⟩ := hHeld.2
  go_wp2_with fail
  obtain ⟨d0, d1⟩ := set2 (W := w1) (B := w.heap.size) (u0 := .int .i64 x) (u1 := .int .i64 y) kc0 kc1
  refine bodyPost_ret (v := .tuple #[spV x y, .int .i64 c]) (by simp [results, Try.results36, go_sem, d0, d1]) rfl ?_
  exact ⟨rfl, by first | (with_reducible exact hHeld.1) | (have hB := hHeld.1; have hz := hB.size; go_grown)⟩
set_option maxRecDepth 100000 in
set_option maxHeartbeats 4000000 in
theorem ends_any (a r n d x y lo hi c : Int) (H : lineB a r n d = false ∧ lo = 0 ∧ hi = 0 ∧ c = 150 ∨ lineB a r n d = true ∧ EndsI x y (atQ a r n d x) (atE a r n d x) (atQ a r n d y) (atE a r n d y) lo hi c) (w : World) :
    Calls Try.prog 15 #[lnV a r n d, .int .i64 x, .int .i64 y] w (Ret w (.tuple #[spV lo hi, .int .i64 c])) := by
  have CK := fun W => lcheck_any a r n d W
  rcases H with ⟨h, rfl, rfl, rfl⟩ | ⟨h, H⟩
  · rw [if_neg (by simp [h])] at CK
    replace CK := Lib.hid CK
    have UN := Lib.hid (fun f W => unlessP_no 150 f (by decide) W)
    clear h
    go_enter Try.func15, Try.ntmps15
    go_wp2_with fail
    refine (CK.out _).mono ?_
    rintro e w1 ⟨rfl, hb⟩
    have hHeld : Keeps w [(w.heap.size + 3, 0, .int .i64 0), (w.heap.size + 3, 1, .int .i64 0)] _ := Keeps.next (by refine ⟨by go_grown, ?_⟩; simp [Cells, go_sem]) hb
    clear hb
    obtain ⟨⟨kz0, kc0, kf0⟩, ⟨kz1, kc1, kf1⟩, _⟩ := hHeld.2
    go_wp2_with fail
    refine (UN.out _ _).mono ?_
    rintro e w2 ⟨rfl, hb⟩
    replace hHeld := Keeps.next (hHeld) hb
    clear hb kz0 kc0 kf0 kz1 kc1 kf1
    obtain ⟨⟨kz0, kc0, kf0⟩, ⟨kz1, kc1, kf1⟩, _⟩ := hHeld.2
    go_wp2_with fail
    obtain ⟨d0, d1⟩ := set2 (W := w2) (B := w.heap.size + 3) (u0 := .int .i64 0) (u1 := .int .i64 0) kc0 kc1
    refine bodyPost_ret (v := .tuple #[spV 0 0, .int .i64 150]) (by simp [results, Try.results15, go_sem, d0, d1]) rfl ?_
    exact ⟨rfl, by first | (with_reducible exact hHeld.1) | (have hB := hHeld.1; have hz := hB.size; go_grown)⟩
  · rw [if_pos h] at CK
    have E1 := Lib.hid (fun B1 B2 B3 W k => ends1_any a r n d x y lo hi c h H B1 B2 B3 W k)
    replace CK := Lib.hid CK
    have UN := Lib.hid (fun p1 p2 p3 W k => unlessP_ends p1 p2 p3 lo hi c W k)
    clear h H
    go_enter Try.func15, Try.ntmps15
    go_wp2_with fail
    refine (CK.out _).mono ?_
    rintro e w1 ⟨rfl, hb⟩
    have hHeld : Keeps w [(w.heap.size + 3, 0, .int .i64 0), (w.heap.size + 3, 1, .int .i64 0), (w.heap.size + 1, 0, .int .i64 x), (w.heap.size + 2, 0, .int .i64 y), (w.heap.size, 0, .int .i64 a), (w.heap.size, 1, .int .i64 r), (w.heap.size, 2, .int .i64 n), (w.heap.size, 3, .int .i64 d)] _ := Keeps.next (by refine ⟨by go_grown, ?_⟩; simp [Cells, go_sem]) hb
    clear hb
    obtain ⟨⟨kz0, kc0, kf0⟩, ⟨kz1, kc1, kf1⟩, ⟨kz2, kc2, kf2⟩, ⟨kz3, kc3, kf3⟩, ⟨kz4, kc4, kf4⟩, ⟨kz5, kc5, kf5⟩, ⟨kz6, kc6, kf6⟩, ⟨kz7, kc7, kf7⟩, _⟩ := hHeld.2
    go_wp2_with fail
    refine Calls.mono (UN.out _ _ _ _ ?_) ?_
    · intro W hW
      exact E1.out _ _ _ _ (hHeld.2.next hW).2.2
    rintro e w2 ⟨rfl, hb⟩
    replace hHeld := Keeps.next (hHeld) hb
    clear hb kz0 kc0 kf0 kz1 kc1 kf1 kz2 kc2 kf2 kz3 kc3 kf3 kz4 kc4 kf4 kz5 kc5 kf5 kz6 kc6 kf6 kz7 kc7 kf7
    obtain ⟨⟨kz0, kc0, kf0⟩, ⟨kz1, kc1, kf1⟩, ⟨kz2, kc2, kf2⟩, ⟨kz3, kc3, kf3⟩, ⟨kz4, kc4, kf4⟩, ⟨kz5, kc5, kf5⟩, ⟨kz6, kc6, kf6⟩, ⟨kz7, kc7, kf7⟩, _⟩ := hHeld.2
    go_wp2_with fail
    obtain ⟨d0, d1⟩ := set2 (W := w2) (B := w.heap.size + 3) (u0 := .int .i64 lo) (u1 := .int .i64 hi) kc0 kc1
    refine bodyPost_ret (v := .tuple #[spV lo hi, .int .i64 c]) (by simp [results, Try.results15, go_sem, d0, d1]) rfl ?_
    exact ⟨rfl, by first | (with_reducible exact hHeld.1) | (have hB := hHeld.1; have hz := hB.size; go_grown)⟩
end Go.Proofs.Ytldfkfienlcipaa
