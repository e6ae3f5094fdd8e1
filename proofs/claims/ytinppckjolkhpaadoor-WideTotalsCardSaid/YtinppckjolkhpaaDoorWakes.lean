/-
  The statements' first line: that the layer does anything at all. Conditions: the table of powers of ten holds what its initialiser lays.
-/
import Derived.Test.YtinppckjolkhpaaDoorTextX
import Derived.Test.YtinppckjolkhpaaDoorWideI
import Derived.Test.YtinppckjolkhpaaDoorWideK
namespace Go.Proofs.YtinppckjolkhpaaDoor
open Go.RowKit Go.Shelf

theorem mulC (w : World) : Calls Tryd.prog 19 #[.int .i64 (-3), .int .i64 4] w (Ret w (wideV (-1) 18446744073709551604)) := by
  have h := mul_any (-3) 4 ⟨by decide, by decide⟩ ⟨by decide, by decide⟩ w
  rw [show rhi (-3 * 4) = -1 from by unfold rhi; rw [if_pos (by unfold Fits; decide)]; decide, show rlo (-3 * 4) = 18446744073709551604 from by unfold rlo; rw [if_pos (by unfold Fits; decide)]; decide] at h
  exact h
theorem intC (w : World) : Calls Tryd.prog 23 #[wideV (-1) 18446744073709551604] w (Ret w (.tuple #[.int .i64 (-12), .int .i64 0])) := by
  have h := int_any (-1) 18446744073709551604 ⟨by decide, by decide⟩ ⟨by decide, by decide⟩ w
  rw [show val (-1) 18446744073709551604 = -12 from by unfold val; decide, show ihi (-12) = -12 from by unfold ihi; decide, show icode (-12) = 0 from by unfold icode; decide] at h
  exact h
theorem of7C (w : World) : Calls Tryd.prog 18 #[.int .i64 (-7)] w (Ret w (wideV (-1) 18446744073709551609)) := by
  have h := of_any (-7) ⟨by decide, by decide⟩ w
  rw [show rhi (-7) = -1 from by unfold rhi; rw [if_pos (by unfold Fits; decide)]; decide, show rlo (-7) = 18446744073709551609 from by unfold rlo; rw [if_pos (by unfold Fits; decide)]; decide] at h
  exact h
theorem of1C (w : World) : Calls Tryd.prog 18 #[.int .i64 1] w (Ret w (wideV 0 1)) := by
  have h := of_any 1 ⟨by decide, by decide⟩ w
  rw [show rhi 1 = 0 from by unfold rhi; rw [if_pos (by unfold Fits; decide)]; decide, show rlo 1 = 1 from by unfold rlo; rw [if_pos (by unfold Fits; decide)]; decide] at h
  exact h
theorem divC (w : World) : Calls Tryd.prog 25 #[wideV (-1) 18446744073709551609, .int .i64 2] w (Ret w (.tuple #[wideV (-1) 18446744073709551612, .int .i64 1, .int .i64 0])) := by
  have h := div_any (-1) 18446744073709551609 2 ⟨by decide, by decide⟩ ⟨by decide, by decide⟩ ⟨by decide, by decide⟩ w
  unfold divV at h
  rw [show val (-1) 18446744073709551609 = -7 from by unfold val; decide, show qhi (-7) 2 = -1 from by unfold qhi; rw [if_neg (by decide)]; unfold rhi; rw [if_pos (by unfold Fits; decide)]; decide,
    show qlo (-7) 2 = 18446744073709551612 from by unfold qlo; rw [if_neg (by decide)]; unfold rlo; rw [if_pos (by unfold Fits; decide)]; decide, show qrest (-7) 2 = 1 from by unfold qrest; decide, show qcode 2 = 0 from by unfold qcode; decide] at h
  exact h
theorem addC (w : World) : Calls Tryd.prog 9 #[wideV 9223372036854775807 18446744073709551615, wideV 0 1] w (Ret w (.tuple #[wideV 0 0, .int .i64 5])) := by
  have h := add_any 9223372036854775807 18446744073709551615 0 1 ⟨by decide, by decide⟩ ⟨by decide, by decide⟩ ⟨by decide, by decide⟩ ⟨by decide, by decide⟩ w
  have nf : ¬ Fits (val 9223372036854775807 18446744073709551615 + val 0 1) := by unfold Fits val; decide
  unfold roomV at h
  rw [show rhi (val 9223372036854775807 18446744073709551615 + val 0 1) = 0 from by unfold rhi; rw [if_neg nf], show rlo (val 9223372036854775807 18446744073709551615 + val 0 1) = 0 from by unfold rlo; rw [if_neg nf],
    show rcode (val 9223372036854775807 18446744073709551615 + val 0 1) = 5 from by unfold rcode; rw [if_neg nf]] at h
  exact h
theorem textC (w : World) (htab : Tab w) : Calls Tryd.prog 27 #[wideV 1 0] w (Ret w (.string ⟨#[49, 56, 52, 52, 54, 55, 52, 52, 48, 55, 51, 55, 48, 57, 53, 53, 49, 54, 49, 54]⟩)) := by
  have h := text_any 1 0 ⟨by decide, by decide⟩ ⟨by decide, by decide⟩ w htab
  have e : textL (val 1 0) = [49, 56, 52, 52, 54, 55, 52, 52, 48, 55, 51, 55, 48, 57, 53, 53, 49, 54, 49, 54] := by
    rw [show val 1 0 = 18446744073709551616 from by unfold val; decide]
    unfold textL mag
    rw [if_neg (by decide), if_neg (by decide), show ((18446744073709551616 : Int)).toNat = 18446744073709551616 from rfl, Lib.decDigits_eq, Lib.nDigits_unique 19 _ (by decide) (by decide)]
    decide
  rw [e] at h
  exact h

set_option maxRecDepth 100000 in
set_option maxHeartbeats 1600000 in
theorem wakes_any (w : World) (htab : Tab w) : Calls Tryd.prog 7 #[] w (Ret w (.bool true)) := by
  have TC : Hid (∀ w', Below w.heap.size w w' → Calls Tryd.prog 27 #[wideV 1 0] w' (Ret w' (.string ⟨#[49, 56, 52, 52, 54, 55, 52, 52, 48, 55, 51, 55, 48, 57, 53, 53, 49, 54, 49, 54]⟩))) :=
    fun w' hb => textC w' (htab.on hb)
  clear htab
  go_enter Tryd.func7, Tryd.ntmps7
  go_wp2_with fail
  refine (mulC _).mono ?_
  rintro e w1 ⟨rfl, hb⟩
  have hHeld : Keeps w [] _ := Keeps.next (by refine ⟨by go_grown, ?_⟩; simp [Cells, go_sem]) hb
  clear hb
  go_wp2_with fail
  refine (intC _).mono ?_
  rintro e w2 ⟨rfl, hb⟩
  replace hHeld := Keeps.next (hHeld) hb
  clear hb 
  go_wp2_with fail
  refine (of7C _).mono ?_
  rintro e w3 ⟨rfl, hb⟩
  replace hHeld := Keeps.next (hHeld) hb
  clear hb 
  go_wp2_with fail
  refine (divC _).mono ?_
  rintro e w4 ⟨rfl, hb⟩
  replace hHeld := Keeps.next (hHeld) hb
  clear hb 
  go_wp2_with fail
  refine (of1C _).mono ?_
  rintro e w5 ⟨rfl, hb⟩
  replace hHeld : Keeps w [(w4.heap.size, 0, .int .i64 (-1)), (w4.heap.size, 1, .int .u64 18446744073709551612)] _ := Keeps.next ((newK2 (hHeld.alloc _))) hb
  clear hb 
  obtain ⟨⟨kz0, kc0, kf0⟩, ⟨kz1, kc1, kf1⟩, _⟩ := hHeld.2
  go_wp2_with fail
  refine (addC _).mono ?_
  rintro e w6 ⟨rfl, hb⟩
  replace hHeld := Keeps.next (hHeld) hb
  clear hb kz0 kc0 kf0 kz1 kc1 kf1
  obtain ⟨⟨kz0, kc0, kf0⟩, ⟨kz1, kc1, kf1⟩, _⟩ := hHeld.2
  go_wp2_with fail
  refine (TC.out _ (hHeld.alloc _).1).mono ?_
  rintro e w7 ⟨rfl, hb⟩
  replace hHeld := Keeps.next ((hHeld.alloc _)) hb
  clear hb kz0 kc0 kf0 kz1 kc1 kf1
  obtain ⟨⟨kz0, kc0, kf0⟩, ⟨kz1, kc1, kf1⟩, _⟩ := hHeld.2
  go_wp2_with fail
  go_ret
  exact ⟨by simp, hHeld.1⟩
end Go.Proofs.YtinppckjolkhpaaDoor
