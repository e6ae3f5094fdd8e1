/-
  Layer 10: slide: every, between, isLess, and. Conditions: those written at each fact.
-/
import Derived.Test.YtoephkglpbophaaGreatSlB
import Derived.Test.YtoephkglpbophaaGreatKitS
namespace Go.Proofs.YtoephkglpbophaaGreat.P10
open Go.RowKit Go.Shelf Go.Proofs.YtoephkglpbophaaGreat.P8

/-- Slopes, as an array. -/
abbrev arV (s : Sl) : Value := .agg #[.int .i64 s.a, .int .i64 s.b, .int .i64 s.c, .int .i64 s.d]
set_option maxHeartbeats 1000000 in
theorem every_any (w : World) : Calls Tryz.prog 39 #[] w (Ret w (arV every0)) := by
  go_enter Tryz.func39, Tryz.ntmps39
  go_wp2_with fail
  refine bodyPost_ret (v := arV every0) (by simp [results, Tryz.results39, go_sem, every0]) rfl ?_
  exact ⟨rfl, by go_grown⟩
set_option maxHeartbeats 1000000 in
theorem between_any (x y : Bd) (hx : BdOk x) (hy : BdOk y) (w : World) : Calls Tryz.prog 64 #[bandV x, bandV y] w (Ret w (arV (pairS x y))) := by
  obtain ⟨h1, h2, h3, h4, h5⟩ := hx
  obtain ⟨g1, g2, g3, g4, g5⟩ := hy
  obtain ⟨t, lo, hi⟩ := x
  obtain ⟨u, p, q⟩ := y
  simp only at *
  have e1 : wrap64 (u - t) = u - t := i64_keeps (by omega) (by omega)
  have e2 : wrap64 (p - hi) = p - hi := i64_keeps (by omega) (by omega)
  have e3 : wrap64 (q - lo) = q - lo := i64_keeps (by omega) (by omega)
  unfold pairS
  simp only
  clear h1 h2 h3 h4 h5 g1 g2 g3 g4 g5
  go_enter Tryz.func64, Tryz.ntmps64
  go_wp2_with fail
  rw [e1, e2, e3]
  refine bodyPost_ret (v := arV ⟨p - hi, u - t, q - lo, u - t⟩) (by simp [results, Tryz.results64, go_sem]) rfl ?_
  exact ⟨rfl, by go_grown⟩
theorem lq_cmp (n d m e : Int) (h : slopesB n d m e = true) : decide (cpI n d m e < 0) = lq n d m e := by
  simp only [cpI, h, if_true, cmpI, lq]
  split
  · rename_i g; rw [g]; simp
  · split
    · rename_i g; rw [decide_eq_true g]; rfl
    · rename_i g; rw [decide_eq_false g]; rfl
set_option maxHeartbeats 1000000 in
theorem less_any (n d m e : Int) (h : slopesB n d m e = true) (w : World) : Calls Tryz.prog 65 #[slV n d, slV m e] w (Ret w (.bool (lq n d m e))) := by
  have CP := Lib.hid (fun W => cmp_any n d m e W)
  have HL := Lib.hid (lq_cmp n d m e h)
  generalize cpI n d m e = p at *
  generalize slopesB n d m e = s at *
  generalize lq n d m e = q at *
  clear h
  go_enter Tryz.func65, Tryz.ntmps65
  go_wp2_with fail
  refine (CP.out _).mono ?_
  rintro en W1 ⟨rfl, hb1⟩
  go_wp2_with fail
  go_ret
  exact ⟨(by rw [← HL.out]; rfl), under (((Below.refl _ w).alloc (Nat.le_refl _) _).alloc (by simp) _) hb1⟩
end Go.Proofs.YtoephkglpbophaaGreat.P10
