/-
  Layer 9: swing: the hinge, a slope from it, and the lesser and the greater of two slopes. Conditions: those written at each fact.
-/
import Derived.Test.YtoephkglpbophaaGreatLC
import Derived.Test.YtoephkglpbophaaGreatHA
namespace Go.Proofs.YtoephkglpbophaaGreat.P9
open Go.RowKit Go.Shelf Go.Proofs.YtoephkglpbophaaGreat.P8

/-- A hinge, as a struct; a band's middle. -/
abbrev hgV (t v : Int) : Value := .agg #[.int .i64 t, .int .i64 v]
def mid (b : Bd) : Int := (b.lo + b.hi) / 2
theorem mid_in {b : Bd} (h : BdOk b) : b.lo ≤ mid b ∧ mid b ≤ b.hi := by
  obtain ⟨_, _, h, _⟩ := h
  unfold mid
  omega
theorem fit_one {b : Bd} (h : BdOk b) : codeC [b] = 0 ∧ fitD [b] = mid b := by
  have hk : okD [b] = true := by simp [okD, restD, (bandB_iff b).2 h]
  have hc : codeC [b] = 0 := by simp [codeC, hk, firstD, goM]
  refine ⟨hc, ?_⟩
  simp [fitD, hc, comLo, comHi, firstD, goM, mid]
set_option maxHeartbeats 1000000 in
theorem hinge_any (b : Bd) (l : List Bd) (h : BdOk b) (v : Value) (w : World) (hr : ReadsD w v (b :: l)) :
    Calls Tryz.prog 89 #[v] w (Ret w (hgV b.t (mid b))) := by
  obtain ⟨A, c, rfl, hc, hk⟩ := hr
  obtain ⟨bb, off, rfl, e2, e3, e4, e5⟩ := hk 0 b rfl
  simp only [Nat.zero_mul, Nat.add_zero] at e3 e4 e5
  have FA := Lib.hid (fun (W : World) (hb : Below w.heap.size w W) => fitA_any [b] (by simp) (.slice (some ⟨bb, off, none⟩) 1 1) W (by
    refine ReadsD.below (w := w) ⟨_, 1, rfl, by simp, fun i r hi => ?_⟩ hb
    match i, hi with
    | 0, hi => cases hi; exact ⟨bb, off, rfl, e2, by simpa using e3, by simpa using e4, by simpa using e5⟩
    | i + 1, hi => simp at hi))
  obtain ⟨f1, f2⟩ := fit_one h
  rw [f1, f2] at FA
  generalize mid b = m at *
  obtain ⟨t, lo, hi⟩ := b
  simp only at e3 e4 e5
  have i1 : (1 : Int) ≤ (c : Int) := by simp at hc; omega
  have i2 : (((⟨t, lo, hi⟩ : Bd) :: l).length : Int) = (l.length : Int) + 1 := by simp
  have i3 : 1 ≤ c := by omega
  have i4 : ¬ (l.length : Int) + 1 ≤ 0 := by omega
  clear hk h hc f1 f2 e4 e5
  go_enter Tryz.func89, Tryz.ntmps89
  go_wp2_with fail
  refine (FA.out _ (below_alloc w _)).mono ?_
  rintro en w1 ⟨rfl, hb1⟩
  have hHeld : Keeps w [(w.heap.size, 0, .int .i64 0), (w.heap.size, 1, .int .i64 0)] w1 := Keeps.next (by refine ⟨below_alloc w _, ?_⟩; simp [Cells, go_sem]) hb1
  have e6 := (hHeld.1.cell (p := ⟨bb, off, none⟩) e2).trans e3
  clear hb1
  obtain ⟨⟨kz0, kc0, kf0⟩, ⟨kz1, kc1, kf1⟩, _⟩ := hHeld.2
  go_wp2_with fail
  obtain ⟨d0, d1⟩ := set2 (W := w1) (B := w.heap.size) (u0 := .int .i64 t) (u1 := .int .i64 m) kc0 kc1
  refine bodyPost_ret (v := hgV t m) (by simp [results, Tryz.results89, go_sem, d0, d1]) rfl ?_
  exact ⟨rfl, (hHeld.1.setCell (p := ⟨w.heap.size, 0, none⟩) (Nat.le_refl _) _).setCell (p := ⟨w.heap.size, 1, none⟩) (Nat.le_refl _) _⟩

/-- The slope from the hinge (t, v) to x at u. -/
def slN (t v u x : Int) : Int := lowN (x - v) (u - t)
def slD (t v u x : Int) : Int := lowD (x - v) (u - t)
theorem slope_raw {t v u x : Int} (hv : backB v = true) (hx : backB x = true) (ht : timeB t = true) (hu : timeB u = true) (h : t < u) : slopeB (x - v) (u - t) = true := by
  rw [backB_iff] at hv hx
  rw [timeB_iff] at ht hu
  rw [slopeB_iff]
  omega
set_option maxHeartbeats 1000000 in
theorem slope_any (t v u x : Int) (hv : backB v = true) (hx : backB x = true) (ht : timeB t = true) (hu : timeB u = true) (h : t < u) (w : World) :
    Calls Tryz.prog 91 #[hgV t v, .int .i64 u, .int .i64 x] w (Ret w (slV (slN t v u x) (slD t v u x))) := by
  have hs := slope_raw hv hx ht hu h
  have LO := Lib.hid (fun W => low_any (x - v) (u - t) W)
  have e0 : loN (x - v) (u - t) = slN t v u x ∧ loD (x - v) (u - t) = slD t v u x := by simp [loN, loD, hs, slN, slD]
  rw [e0.1, e0.2] at LO
  have w1 : wrap64 (x - v) = x - v := by rw [backB_iff] at hv hx; exact i64_keeps (by omega) (by omega)
  have w2 : wrap64 (u - t) = u - t := by rw [timeB_iff] at ht hu; exact i64_keeps (by omega) (by omega)
  clear hs e0 hv hx ht hu h
  generalize slN t v u x = p at *
  generalize slD t v u x = q at *
  go_enter Tryz.func91, Tryz.ntmps91
  go_wp2_with (rw [w1, w2])
  refine (LO.out _).mono ?_
  rintro en W1 ⟨rfl, hb1⟩
  have hHeld : Keeps w [(w.heap.size + 1, 0, .int .i64 0), (w.heap.size + 1, 1, .int .i64 0)] W1 := Keeps.next (by refine ⟨((Below.refl _ w).alloc (Nat.le_refl _) _).alloc (by simp) _, ?_⟩; simp [Cells, go_sem]) hb1
  clear hb1
  obtain ⟨⟨kz0, kc0, kf0⟩, ⟨kz1, kc1, kf1⟩, _⟩ := hHeld.2
  go_wp2_with fail
  obtain ⟨d0, d1⟩ := set2 (W := W1) (B := w.heap.size + 1) (u0 := .int .i64 p) (u1 := .int .i64 q) kc0 kc1
  replace d0 := fun o => ((below_alloc ((W1.setCell ⟨w.heap.size + 1, 0, none⟩ (.int .i64 p)).setCell ⟨w.heap.size + 1, 1, none⟩ (.int .i64 q)) o).cell (by simpa using kz0)).trans d0
  replace d1 := fun o => ((below_alloc ((W1.setCell ⟨w.heap.size + 1, 0, none⟩ (.int .i64 p)).setCell ⟨w.heap.size + 1, 1, none⟩ (.int .i64 q)) o).cell (by simpa using kz1)).trans d1
  refine bodyPost_ret (v := slV p q) (by simp [results, Tryz.results91, go_sem, d0, d1]) rfl ?_
  exact ⟨rfl, ((hHeld.1.setCell (p := ⟨w.heap.size + 1, 0, none⟩) (by simp) _).setCell (p := ⟨w.heap.size + 1, 1, none⟩) (by simp) _).alloc (by simp; omega) _⟩
end Go.Proofs.YtoephkglpbophaaGreat.P9
