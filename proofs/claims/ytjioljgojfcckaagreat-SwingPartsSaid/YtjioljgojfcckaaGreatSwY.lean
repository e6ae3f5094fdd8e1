/-
  The document's own answers for layer 9: Swing. Conditions: those written at each fact.
-/
import Derived.Test.YtjioljgojfcckaaGreatSwX
namespace Go.Proofs.YtjioljgojfcckaaGreat.P9
open Go.RowKit Go.Shelf Go.Proofs.YtjioljgojfcckaaGreat.P8

theorem allD_one (b : Bd) : allD [b] = open0 b := step_own b
theorem allD_ok {b0 : Bd} {l : List Bd} (hR : ∀ b ∈ b0 :: l, BdOk b) : DrOk (allD (b0 :: l)) := by
  rw [← atD_all]
  exact atD_ok hR _
/-- The slope of a door that is not shut, as the document chooses it. -/
theorem flat_door {x : Dr} (h : DrOk x) : 0 < x.a ∧ flatN x = lowN x.a x.b ∧ flatE x = lowD x.a x.b ∨ x.a ≤ 0 ∧ x.c < 0 ∧ flatN x = lowN x.c x.d ∧ flatE x = lowD x.c x.d ∨ x.a ≤ 0 ∧ 0 ≤ x.c ∧ flatN x = 0 ∧ flatE x = 1 := by
  unfold flatN flatE
  rw [h.la.1, h.la.2, h.ha.1, h.ha.2]
  by_cases g : 0 < x.a
  · simp [g]
  · by_cases k : x.c < 0
    · simp [g, k]; omega
    · simp [g, k]; omega
set_option maxRecDepth 100000 in
set_option maxHeartbeats 4000000 in
theorem refSwing_any (b0 : Bd) (l : List Bd) (hl : (b0 :: l).length ≤ 1000000) (hR : ∀ b ∈ b0 :: l, BdOk b) (hT : ∀ b ∈ l, b0.t < b.t) (v : Value) (w : World) (h : ReadsD w v (b0 :: l)) :
    Calls Tryz.prog 12 #[v] w (Ret w (.bool (!shutD (allD (b0 :: l))))) := by
  have h' := h
  obtain ⟨A, c, rfl, _, _⟩ := h
  by_cases g : l = []
  · subst g
    rw [allD_one, open_unshut]
    clear h' hR hT hl
    simp only [List.length_cons, List.length_nil, Bool.not_false]
    go_enter Tryz.func12, Tryz.ntmps12
    go_wp2_with fail
    go_ret
    exact ⟨rfl, Below.refl _ _⟩
  · have hne : 2 ≤ (b0 :: l).length := by
      cases l with
      | nil => exact absurd rfl g
      | cons a k => simp
    have DO := Lib.hid (refDoor_any b0 l hl hne hR hT (.slice A (b0 :: l).length c) w h')
    obtain ⟨m1, m2⟩ := I64_of_slope (allD_ok hR).lo
    obtain ⟨m3, m4⟩ := I64_of_slope (allD_ok hR).hi
    have LE := Lib.hid (fun W => refLess_any _ _ _ _ m3 m4 m1 m2 W)
    unfold shutD
    have i1 : ¬ (((b0 :: l).length : Nat) : Int) = 1 := by omega
    clear m1 m2 m3 m4 h' hR hT hl g hne
    generalize allD (b0 :: l) = x at *
    generalize (b0 :: l).length = len at *
    obtain ⟨_, _, a, b, c', d⟩ := x
    simp only at DO LE ⊢
    generalize gs : decide (c' * b < a * d) = sh at *
    clear gs
    go_enter Tryz.func12, Tryz.ntmps12
    go_wp2_with fail
    refine DO.out.mono ?_
    rintro e w1 ⟨rfl, hb1⟩
    go_wp2_with fail
    refine (LE.out _).mono ?_
    rintro e w2 ⟨rfl, hb2⟩
    have HB := Lib.hid (under ((hb1.alloc hb1.size (.cells #[.int .i64 a, .int .i64 b] 49)).alloc (by have := hb1.size; simp; omega) (.cells #[.int .i64 c', .int .i64 d] 49)) hb2)
    clear hb1 hb2
    go_wp2_with fail
    go_ret
    exact ⟨rfl, HB.out⟩
end Go.Proofs.YtjioljgojfcckaaGreat.P9
