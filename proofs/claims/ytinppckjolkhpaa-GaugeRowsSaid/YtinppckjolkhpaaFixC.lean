/-
  Layer 3: Kind, Fixed. Conditions: those written at each fact.
-/
import Derived.Test.YtinppckjolkhpaaFixB
namespace Go.Proofs.Ytinppckjolkhpaa
open Go.RowKit Go.Shelf

theorem field_kind (sb : Bool) (e f k : Int) (W : World) : (Instr.field 54 (.agg #[.bool sb, .int .i64 e, .int .u64 f, .int .i64 k]) 1).run Try.prog W = .ok (.int .i64 k) W :=
  run_field W _ _ _ 1 _ _ Try.underlying54 rfl (Try.isAgg3 W) rfl
set_option maxRecDepth 100000 in
set_option maxHeartbeats 1000000 in
theorem kind_any (b : Nat) (hb : b < 18446744073709551616) (w : World) : Calls Try.prog 11 #[fl b] w (Ret w (.int .i64 (kindF b))) := by
  have R := Lib.hid (reading_any b hb)
  clear hb
  go_enter Try.func11, Try.ntmps11
  go_wp2_with fail
  refine (R.out _).mono ?_
  rintro en w1 ⟨rfl, hb1⟩
  go_wp2_with (simp only [field_kind])
  go_ret
  exact ⟨rfl, hb1⟩
set_option maxRecDepth 100000 in
set_option maxHeartbeats 1000000 in
theorem byScale_no (s : Int) (hs : ¬ Scale s) (g : FuncId) (fs : Array Value) (w : World) : Calls Try.prog 21 #[.int .i64 s, .func (.func g) #[] fs] w (Ret w (.tuple #[.int .i64 0, .int .i64 2])) := by
  unfold Scale at hs
  by_cases h : s < -40
  · clear hs
    go_enter Try.func21, Try.ntmps21
    go_wp2_with fail
    go_ret2
    exact ⟨rfl, Below.refl _ _⟩
  · have h2 : 40 < s := by omega
    clear hs
    go_enter Try.func21, Try.ntmps21
    go_wp2_with fail
    go_ret2
    exact ⟨rfl, Below.refl _ _⟩
set_option maxRecDepth 100000 in
set_option maxHeartbeats 1000000 in
theorem byScale_ok (s : Int) (hs : Scale s) (X Y : Option Addr) (v e : Int) (he : e ≠ 0 → v = 0) (w : World) (WK : Calls Try.prog 22 #[.pointer X, .pointer Y] w (Ret w (.tuple #[.int .i64 v, .int .i64 e]))) :
    Calls Try.prog 21 #[.int .i64 s, .func (.func 22) #[] #[.pointer X, .pointer Y]] w (Ret w (.tuple #[.int .i64 v, .int .i64 e])) := by
  obtain ⟨h1, h2⟩ := hs
  have k1 : ¬ s < -40 := by omega
  have k2 : ¬ 40 < s := by omega
  have WK := Lib.hid WK
  by_cases g0 : e = 0
  · subst g0
    clear he
    go_enter Try.func21, Try.ntmps21
    go_wp2_with fail
    refine (WK.out).mono ?_
    rintro en w1 ⟨rfl, hb1⟩
    go_wp2_with fail
    go_ret2
    exact ⟨rfl, hb1⟩
  · obtain rfl := he g0
    clear he
    have g1 : (e == 0) = false := by simpa using g0
    have g2 : (e != 0) = true := by simpa using g0
    go_enter Try.func21, Try.ntmps21
    go_wp2_with fail
    refine (WK.out).mono ?_
    rintro en w1 ⟨rfl, hb1⟩
    go_wp2_with fail
    go_ret2
    exact ⟨rfl, hb1⟩
set_option maxRecDepth 100000 in
set_option maxHeartbeats 2000000 in
theorem work_any (b : Nat) (hb : b < 18446744073709551616) (s : Int) (hs : Scale s) (X Y : Nat) (w : World) (hX : X < w.heap.size) (hY : Y < w.heap.size) (cx : w.cell? ⟨X, 0, none⟩ = some (fl b)) (cy : w.cell? ⟨Y, 0, none⟩ = some (.int .i64 s)) (fx : w.frozen? ⟨X, 0, none⟩ = false) (fy : w.frozen? ⟨Y, 0, none⟩ = false) :
    Calls Try.prog 22 #[.pointer (some ⟨X, 0, none⟩), .pointer (some ⟨Y, 0, none⟩)] w (Ret w (.tuple #[.int .i64 (valF b s), .int .i64 (codeF b s)])) := by
  have R := Lib.hid (reading_any b hb)
  have V := Lib.hid (value_any b s hs)
  have hHeld : Keeps w [(X, 0, fl b), (Y, 0, .int .i64 s)] w := ⟨Below.refl _ _, ⟨hX, cx, fx⟩, ⟨hY, cy, fy⟩, trivial⟩
  clear hb hs
  go_enter Try.func22, Try.ntmps22
  go_wp2_with fail
  refine region_keeps (w0 := w) (L := [(X, 0, fl b), (Y, 0, .int .i64 s)]) (by kernel_rfl) (by first | exact hHeld | (refine ⟨by go_grown, ?_⟩; simp [Cells, go_sem]; done)) (fun hHeld0 => ?_)
  refine wpAnyH_take (i := 0) (oi := ⟨some 4, _, _, _, _, _⟩) (v := ?_) rfl (by kernel_rfl) (by kernel_rfl) (by kernel_rfl) (fun _ _ _ h => h) (Or.inl ⟨by rfl, ?_⟩) (by assumption) ?_
  rotate_left
  · intro wq hSw; obtain ⟨⟨qz0, qc0, qf0⟩, ⟨qz1, qc1, qf1⟩, _⟩ := hSw.2; go_simp; (try with_reducible rfl)
  try simp only [Act.put, List.setIfInBounds_toArray, List.set_cons_zero, List.set_cons_succ]
  refine wpAnyH_take (i := 2) (oi := ⟨some 6, _, _, _, _, _⟩) (v := ?_) rfl (by kernel_rfl) (by kernel_rfl) (by kernel_rfl) (fun _ _ _ h => h) (Or.inl ⟨by rfl, ?_⟩) (by assumption) ?_
  rotate_left
  · intro wq hSw; obtain ⟨⟨qz0, qc0, qf0⟩, ⟨qz1, qc1, qf1⟩, _⟩ := hSw.2; go_simp; (try with_reducible rfl)
  try simp only [Act.put, List.setIfInBounds_toArray, List.set_cons_zero, List.set_cons_succ]
  refine wpAnyH_ready (rs := [1]) (by kernel_rfl) (by simp) ?_
  refine AllReadyH.cons (o := ⟨some 5, _, _, _, _, _⟩) rfl (fun K hK => ?_) AllReadyH.nil
  go_simp
  (first | ((with_reducible refine (R.out _).mono ?_); rintro e w1 ⟨rfl, hb⟩) | ((with_reducible refine (V.out _).mono ?_); rintro e w1 ⟨rfl, hb⟩))
  refine hK.out _ _ (hHeld0.next hb) (fun hHeld1 => ?_)
  clear hK K
  try clear hb
  try simp only [Act.put, List.setIfInBounds_toArray, List.set_cons_zero, List.set_cons_succ]
  refine wpAnyH_ready (rs := [3]) (by kernel_rfl) (by simp) ?_
  refine AllReadyH.cons (o := ⟨some 7, _, _, _, _, _⟩) rfl (fun K hK => ?_) AllReadyH.nil
  go_simp
  (first | ((with_reducible refine (R.out _).mono ?_); rintro e w1 ⟨rfl, hb⟩) | ((with_reducible refine (V.out _).mono ?_); rintro e w1 ⟨rfl, hb⟩))
  refine hK.out _ _ (hHeld1.next hb) (fun hHeld2 => ?_)
  clear hK K
  try clear hb
  try simp only [Act.put, List.setIfInBounds_toArray, List.set_cons_zero, List.set_cons_succ]
  refine wpAnyH_take (i := 4) (oi := ⟨some 8, _, _, _, _, _⟩) (v := ?_) rfl (by kernel_rfl) (by kernel_rfl) (by kernel_rfl) (fun _ _ _ h => h) (Or.inl ⟨by rfl, ?_⟩) (by assumption) ?_
  rotate_left
  · intro wq hSw; go_simp; (try with_reducible rfl)
  try simp only [Act.put, List.setIfInBounds_toArray, List.set_cons_zero, List.set_cons_succ]
  refine wpAnyH_take (i := 5) (oi := ⟨some 9, _, _, _, _, _⟩) (v := ?_) rfl (by kernel_rfl) (by kernel_rfl) (by kernel_rfl) (fun _ _ _ h => h) (Or.inl ⟨by rfl, ?_⟩) (by assumption) ?_
  rotate_left
  · intro wq hSw; go_simp; (try with_reducible rfl)
  try simp only [Act.put, List.setIfInBounds_toArray, List.set_cons_zero, List.set_cons_succ]
  refine wpAnyH_take (i := 6) (oi := ⟨some 2, _, _, _, _, _⟩) (v := ?_) rfl (by kernel_rfl) (by kernel_rfl) (by kernel_rfl) (fun _ _ _ h => h) (Or.inl ⟨by rfl, ?_⟩) (by assumption) ?_
  rotate_left
  · intro wq hSw; go_simp; (try with_reducible rfl)
  try simp only [Act.put, List.setIfInBounds_toArray, List.set_cons_zero, List.set_cons_succ]
  refine wpAnyH_take (i := 7) (oi := ⟨some 3, _, _, _, _, _⟩) (v := ?_) rfl (by kernel_rfl) (by kernel_rfl) (by kernel_rfl) (fun _ _ _ h => h) (Or.inl ⟨by rfl, ?_⟩) (by assumption) ?_
  rotate_left
  · intro wq hSw; go_simp; (try with_reducible rfl)
  try simp only [Act.put, List.setIfInBounds_toArray, List.set_cons_zero, List.set_cons_succ]
  refine wpAnyH_done (by kernel_rfl) ?_ _
  have hHeld := hHeld2
  obtain ⟨⟨kz0, kc0, kf0⟩, ⟨kz1, kc1, kf1⟩, _⟩ := hHeld.2
  all_goals
    go_wp2_with fail
    go_ret2
    exact ⟨rfl, hHeld.1⟩

theorem scale_no {b : Nat} {s : Int} (hs : ¬ Scale s) : valF b s = 0 ∧ codeF b s = 2 := by
  have e : codeF b s = 2 := by unfold codeF; rw [if_neg hs]
  exact ⟨by unfold valF; rw [e, if_neg (by decide)], e⟩
set_option maxRecDepth 100000 in
set_option maxHeartbeats 2000000 in
theorem fixed_any (b : Nat) (hb : b < 18446744073709551616) (s : Int) (w : World) :
    Calls Try.prog 9 #[fl b, .int .i64 s] w (Ret w (.tuple #[.int .i64 (valF b s), .int .i64 (codeF b s)])) := by
  by_cases hs : Scale s
  · have G := Lib.hid (byScale_ok s hs (some ⟨w.heap.size, 0, none⟩) (some ⟨w.heap.size + 1, 0, none⟩) (valF b s) (codeF b s) (fun h => by unfold valF; rw [if_neg h]) ((w.alloc (.cells #[fl b] 29)).alloc (.cells #[.int .i64 s] 3))
      (work_any b hb s hs w.heap.size (w.heap.size + 1) _ (by simp; omega) (by simp) (by simp [go_sem]) (by simp [go_sem]) (by simp [go_sem]) (by simp [go_sem])))
    clear hb hs
    generalize valF b s = v at *
    generalize codeF b s = c at *
    go_enter Try.func9, Try.ntmps9
    go_wp2_with fail
    refine (G.out).mono ?_
    rintro en w1 ⟨rfl, hb1⟩
    go_wp2_with fail
    go_ret2
    exact ⟨rfl, under (under (below_alloc w _) (below_alloc _ _)) hb1⟩
  · obtain ⟨e1, e2⟩ := scale_no (b := b) hs
    rw [e1, e2]
    have G := Lib.hid (fun W => byScale_no s hs 22 #[.pointer (some ⟨w.heap.size, 0, none⟩), .pointer (some ⟨w.heap.size + 1, 0, none⟩)] W)
    clear hb hs e1 e2
    go_enter Try.func9, Try.ntmps9
    go_wp2_with fail
    refine (G.out _).mono ?_
    rintro en w1 ⟨rfl, hb1⟩
    go_wp2_with fail
    go_ret2
    exact ⟨rfl, under (under (below_alloc w _) (below_alloc _ _)) hb1⟩
end Go.Proofs.Ytinppckjolkhpaa
