/-
  Layer 7: the law's first line: does the layer do anything? Conditions: none.
-/
import Derived.Test.YtlfjmdfplmdmgaaLwA
namespace Go.Proofs.Ytlfjmdfplmdmgaa
open Go.RowKit Go.Shelf

theorem laid_six : laidR [3, 5, 7, 20, 21, 50] = [⟨3, 2, 3⟩, ⟨20, 1, 2⟩, ⟨50, 0, 1⟩] := by simp [laidR, goR, takeR, iniR]
theorem ok_six : okB [⟨3, 2, 3⟩, ⟨20, 1, 2⟩, ⟨50, 0, 1⟩] = true := by simp [okB, restB, runB, timeR, behindB]
theorem times_six : timesR [⟨3, 2, 3⟩, ⟨20, 1, 2⟩, ⟨50, 0, 1⟩] = [3, 5, 7, 20, 21, 50] := by simp [timesR, stepsR]
theorem res_ok {w w' : World} {c : Int} {l : List Rn} {e : Ending} (h : Res w c l e w') (hc : c = 0) : GotR w l e w' := by unfold Res at h; rwa [if_pos hc] at h
theorem res_err {w w' : World} {c : Int} {l : List Rn} {e : Ending} (h : Res w c l e w') (hc : ¬ c = 0) : ErrR w c e w' := by unfold Res at h; rwa [if_neg hc] at h
/-- Runs that are written out. -/
theorem readsR_new {w : World} {l : List Rn} (n : Nat) (hn : l.length = n) : ReadsR (w.alloc (.cells (flatR l).toArray 36)) (.slice (some ⟨w.heap.size, 0, none⟩) n n) l := by
  subst hn
  refine ⟨_, _, rfl, Nat.le_refl _, fun i r hi => ⟨w.heap.size, 0, rfl, by simp, ?_⟩⟩
  have h : RowAt (w.alloc (.cells (flatR l).toArray 36)) w.heap.size l := World.alloc_heap_new w _
  obtain ⟨_, a1, a2, a3, _⟩ := h.cells hi
  rw [Nat.zero_add]
  exact ⟨a1, a2, a3⟩
set_option maxRecDepth 100000 in
set_option maxHeartbeats 1000000 in
theorem wakes_any (w : World) : Calls Try.prog 11 #[] w (Ret w (.bool true)) := by
  have OF : Hid (∀ W : World, Calls Try.prog 20 #[.slice (some ⟨W.heap.size, 0, none⟩) 6 6] (W.alloc (.cells #[.int .i64 3, .int .i64 5, .int .i64 7, .int .i64 20, .int .i64 21, .int .i64 50] 2)) (GotR (W.alloc (.cells #[.int .i64 3, .int .i64 5, .int .i64 7, .int .i64 20, .int .i64 21, .int .i64 50] 2)) [⟨3, 2, 3⟩, ⟨20, 1, 2⟩, ⟨50, 0, 1⟩])) := Lib.hid (fun W => by
    have := ofA_any [3, 5, 7, 20, 21, 50] (by decide) (.slice (some ⟨W.heap.size, 0, none⟩) 6 6) _ (reads_new (k := .i64) (w := W) (t := 2) (l := [3, 5, 7, 20, 21, 50]) 6 rfl)
    rw [laid_six, show areB [3, 5, 7, 20, 21, 50] = true by simp [areB, upB, timeR]] at this
    exact this.mono fun e w' h => res_ok h rfl)
  have FI : Hid (∀ (v : Value) (W : World), ReadsR W v [⟨3, 2, 3⟩, ⟨20, 1, 2⟩, ⟨50, 0, 1⟩] → Calls Try.prog 24 #[v, .int .i64 7] W (Ret W (.tuple #[.int .i64 2, .bool true]))) := Lib.hid (fun v W h => by
    have := findA_any _ (by decide) 7 v W h
    rwa [show foundN [⟨3, 2, 3⟩, ⟨20, 1, 2⟩, ⟨50, 0, 1⟩] 7 = 2 by simp [foundN, ok_six, times_six, findF], show foundB [⟨3, 2, 3⟩, ⟨20, 1, 2⟩, ⟨50, 0, 1⟩] 7 = true by simp [foundB, ok_six, times_six, findF]] at this)
  have CL : Hid (∀ (v : Value) (W : World), ReadsR W v [⟨3, 2, 3⟩, ⟨20, 1, 2⟩, ⟨50, 0, 1⟩] → Calls Try.prog 25 #[v, .int .i64 4, .int .i64 20] W (Ret W (.tuple #[.int .i64 1, .int .i64 4]))) := Lib.hid (fun v W h => by
    have := clipA_any _ (by decide) 4 20 v W h
    rwa [show clipL [⟨3, 2, 3⟩, ⟨20, 1, 2⟩, ⟨50, 0, 1⟩] 4 = 1 by unfold clipL; rw [ok_six, times_six]; rfl, show clipH [⟨3, 2, 3⟩, ⟨20, 1, 2⟩, ⟨50, 0, 1⟩] 4 20 = 4 by unfold clipH; rw [ok_six, times_six]; rfl] at this)
  have EQ : Hid (∀ (v : Value) (W : World), ReadsR W v [⟨3, 2, 3⟩, ⟨20, 1, 2⟩, ⟨50, 0, 1⟩] → Calls Try.prog 19 #[v, .slice (some ⟨W.heap.size, 0, none⟩) 3 3] (W.alloc (.cells #[.int .i64 3, .int .i64 2, .int .i64 3, .int .i64 20, .int .i64 1, .int .i64 2, .int .i64 50, .int .i64 0, .int .i64 1] 36)) (Ret (W.alloc (.cells #[.int .i64 3, .int .i64 2, .int .i64 3, .int .i64 20, .int .i64 1, .int .i64 2, .int .i64 50, .int .i64 0, .int .i64 1] 36)) (.bool true))) := Lib.hid (fun v W h =>
    equalR _ (by decide) _ _ _ (h.below (below_alloc W _)) (readsR_new (l := [⟨3, 2, 3⟩, ⟨20, 1, 2⟩, ⟨50, 0, 1⟩]) 3 rfl))
  have CK : Hid (∀ W : World, Calls Try.prog 15 #[.slice (some ⟨W.heap.size, 0, none⟩) 2 2] (W.alloc (.cells #[.int .i64 3, .int .i64 2, .int .i64 2, .int .i64 7, .int .i64 0, .int .i64 1] 36)) (Ret (W.alloc (.cells #[.int .i64 3, .int .i64 2, .int .i64 2, .int .i64 7, .int .i64 0, .int .i64 1] 36)) (.int .i64 170))) := Lib.hid (fun W => by
    have := checkA_any [⟨3, 2, 2⟩, ⟨7, 0, 1⟩] (by decide) (.slice (some ⟨W.heap.size, 0, none⟩) 2 2) _ (readsR_new (w := W) (l := [⟨3, 2, 2⟩, ⟨7, 0, 1⟩]) 2 rfl)
    rwa [show okB [⟨3, 2, 2⟩, ⟨7, 0, 1⟩] = false by simp [okB, restB, runB, timeR, behindB]] at this)
  go_enter Try.func11, Try.ntmps11
  go_wp2_with fail
  refine (OF.out w).mono ?_
  rintro e w1 ⟨v, rfl, hb1, ho1⟩
  have hr1 := readsR_own ho1
  have hB1 := past1 hb1
  obtain ⟨A, c, rfl, hc, hk⟩ := hr1
  have hr1 : ReadsR w1 (.slice A 3 c) [⟨3, 2, 3⟩, ⟨20, 1, 2⟩, ⟨50, 0, 1⟩] := ⟨A, c, rfl, hc, hk⟩
  have H1 := Lib.hid hr1
  clear hr1 hk ho1 hb1
  go_wp2_with fail
  refine (FI.out _ _ H1.out).mono ?_
  rintro e w2 ⟨rfl, hb2⟩
  have hB2 := under hB1 hb2
  have H2 := Lib.hid (H1.out.below hb2)
  go_wp2_with fail
  refine (CL.out _ _ H2.out).mono ?_
  rintro e w3 ⟨rfl, hb3⟩
  have hB3 := under hB2 hb3
  have H3 := Lib.hid (H2.out.below hb3)
  go_wp2_with fail
  refine (EQ.out _ _ H3.out).mono ?_
  rintro e w4 ⟨rfl, hb4⟩
  have hB4 := under hB3 (past1 hb4)
  go_wp2_with fail
  refine (CK.out _).mono ?_
  rintro e w5 ⟨rfl, hb5⟩
  go_wp2_with fail
  go_ret
  exact ⟨rfl, under hB4 (past1 hb5)⟩
end Go.Proofs.Ytlfjmdfplmdmgaa
