/-
  Layer 7: runs: what package runs answers of one run and of one time. Conditions: those written at each fact.
-/
import Derived.Test.YtlfjmdfplmdmgaaChecked
import Derived.Test.YtlfjmdfplmdmgaaKitX
import Derived.Test.YtlfjmdfplmdmgaaRead
import Derived.Test.YtlfjmdfplmdmgaaStruct
import Derived.StillTactics
import Derived.Deep.QuietTactic
import Derived.BigQuiet
import Derived.WalkSmall
namespace Go.Proofs.Ytlfjmdfplmdmgaa
open Go.RowKit

/-- A run: its first time, its step, how many times. -/
structure Rn where
  f : Int
  s : Int
  c : Int
theorem Rn.eq_iff (a b : Rn) : a = b ↔ a.f = b.f ∧ a.s = b.s ∧ a.c = b.c := by
  cases a; cases b; simp
abbrev runV (r : Rn) : Value := .agg #[.int .i64 r.f, .int .i64 r.s, .int .i64 r.c]
/-- A time. -/
def timeR (t : Int) : Bool := decide (0 ≤ t) && decide (t ≤ 281474976710656)
theorem timeR_iff (t : Int) : timeR t = true ↔ 0 ≤ t ∧ t ≤ 281474976710656 := by unfold timeR; simp
/-- May this be a run, of room times at most? -/
def runB (r : Rn) (room : Int) : Bool := decide (1 ≤ r.c) && (decide (r.c ≤ room) && (timeR r.f && (if r.c = 1 then decide (r.s = 0) else decide (1 ≤ r.s) && (decide (r.s ≤ 281474976710656) && timeR (r.f + (r.c - 1) * r.s)))))
/-- A run whose times are all times. -/
def RunOk (r : Rn) : Prop := 1 ≤ r.c ∧ r.c ≤ 256 ∧ 0 ≤ r.f ∧ 0 ≤ r.s ∧ r.s ≤ 281474976710656 ∧ r.f + (r.c - 1) * r.s ≤ 281474976710656 ∧ r.f ≤ 281474976710656
theorem runB_ok {r : Rn} {room : Int} (hr : room ≤ 256) (h : runB r room = true) : RunOk r := by
  unfold runB at h
  simp only [Bool.and_eq_true, decide_eq_true_eq, timeR_iff] at h
  obtain ⟨h1, h2, h3, h4⟩ := h
  split at h4
  · next e =>
    have h5 := of_decide_eq_true h4
    refine ⟨h1, by omega, h3.1, by omega, by omega, ?_, h3.2⟩
    rw [e, h5]; simpa using h3.2
  · simp only [Bool.and_eq_true, decide_eq_true_eq, timeR_iff] at h4
    exact ⟨h1, by omega, h3.1, by omega, by omega, h4.2.2.2, h3.2⟩
theorem i64_keeps {x : Int} (h1 : -9223372036854775808 ≤ x) (h2 : x ≤ 9223372036854775807) : wrap64 x = x := by unfold wrap64; omega
theorem mul_near {i s a b : Int} (h1 : 0 ≤ i) (h2 : i ≤ a) (h3 : 0 ≤ s) (h4 : s ≤ b) : 0 ≤ i * s ∧ i * s ≤ a * b :=
  ⟨Int.mul_nonneg h1 h3, Int.mul_le_mul h2 h4 h3 (by omega)⟩
theorem mul_near2 {i s a b : Int} (h1 : 0 ≤ i) (h2 : i ≤ a) (h3 : -b ≤ s) (h4 : s ≤ b) : -(a * b) ≤ i * s ∧ i * s ≤ a * b := by
  have h5 : i * s ≤ i * b := Int.mul_le_mul_of_nonneg_left h4 h1
  have h6 : i * (-b) ≤ i * s := Int.mul_le_mul_of_nonneg_left h3 h1
  have h7 : i * b ≤ a * b := Int.mul_le_mul_of_nonneg_right h2 (by omega)
  rw [Int.mul_neg] at h6
  omega
theorem nth_exact {f s i : Int} (h1 : 0 ≤ i) (h2 : i ≤ 1000) (h3 : -281474976710656 ≤ s) (h4 : s ≤ 281474976710656) (h5 : 0 ≤ f) (h6 : f ≤ 281474976710656) : wrap64 (f + wrap64 (i * s)) = f + i * s := by
  have := mul_near2 h1 h2 h3 h4
  rw [i64_keeps (x := i * s) (by omega) (by omega), i64_keeps (by omega) (by omega)]

theorem past1 {w w1 : World} {o : Obj} (hb : Below (w.alloc o).heap.size (w.alloc o) w1) : Below w.heap.size w w1 := under (below_alloc w o) hb
theorem isTime_any (t : Int) (w : World) : Calls Try.prog 69 #[.int .i64 t] w (Ret w (.bool (timeR t))) := by
  unfold timeR
  cases g : decide (0 ≤ t)
  · go_enter Try.func69, Try.ntmps69
    go_wp2
    go_ret
    exact ⟨rfl, by go_grown⟩
  · go_enter Try.func69, Try.ntmps69
    go_wp2
    go_ret
    exact ⟨rfl, by go_grown⟩
theorem nth_any (f s c i : Int) (w : World) : Calls Try.prog 52 #[runV ⟨f, s, c⟩, .int .i64 i] w (Ret w (.int .i64 (wrap64 (f + wrap64 (i * s))))) := by
  go_enter Try.func52, Try.ntmps52
  go_wp2
  go_ret
  exact ⟨rfl, by go_grown⟩
theorem nth_at (f s c i : Int) (h1 : 0 ≤ i) (h2 : i ≤ 1000) (h3 : -281474976710656 ≤ s) (h4 : s ≤ 281474976710656) (h5 : 0 ≤ f) (h6 : f ≤ 281474976710656) (w : World) : Calls Try.prog 52 #[runV ⟨f, s, c⟩, .int .i64 i] w (Ret w (.int .i64 (f + i * s))) := by
  have h := nth_any f s c i w
  rwa [nth_exact h1 h2 h3 h4 h5 h6] at h
theorem last_at (f s c : Int) (h1 : 1 ≤ c) (h2 : c ≤ 300) (h3 : 0 ≤ s) (h4 : s ≤ 281474976710656) (h5 : 0 ≤ f) (h6 : f ≤ 281474976710656) (w : World) : Calls Try.prog 61 #[runV ⟨f, s, c⟩] w (Ret w (.int .i64 (f + (c - 1) * s))) := by
  have e : wrap64 (c - 1) = c - 1 := i64_keeps (by omega) (by omega)
  have NT := fun W => nth_at f s c (c - 1) (by omega) (by omega) (by omega) h4 h5 h6 W
  go_enter Try.func61, Try.ntmps61
  go_wp2_with (go_at_call 52; (try rw [e]); refine (NT _).mono ?_; rintro e w1 ⟨rfl, hb⟩)
  go_ret
  exact ⟨rfl, past1 hb⟩
theorem must_true (code : Int) (w : World) : Calls Try.prog 45 #[.bool true, .int .i64 code] w (Ret w (.tuple #[])) := by
  go_enter Try.func45, Try.ntmps45
  go_wp2
  go_end0
  exact ⟨rfl, by go_grown⟩
/-- What a call leaves that panics with an Errno. -/
abbrev thrown (code : Int) : Ending := .panicked [{ v := .iface 27 (.int .i64 code), recovered := false }]
theorem must_false (code : Int) (w : World) : Calls Try.prog 45 #[.bool false, .int .i64 code] w (fun e w' => e = thrown code ∧ Below w.heap.size w w') := by
  go_enter Try.func45, Try.ntmps45
  go_wp2
  exact ⟨rfl, rfl, by go_grown⟩
set_option maxHeartbeats 1000000 in
theorem isRun_any (f s c room : Int) (hr : room ≤ 256) (w : World) : Calls Try.prog 64 #[runV ⟨f, s, c⟩, .int .i64 room] w (Ret w (.bool (runB ⟨f, s, c⟩ room))) := by
  have IT := fun t W => isTime_any t W
  by_cases g1 : c < 1
  · have e : runB ⟨f, s, c⟩ room = false := by simp [runB]; omega
    rw [e]
    go_enter Try.func64, Try.ntmps64
    go_wp2
    go_ret
    exact ⟨rfl, by go_grown⟩
  by_cases g2 : room < c
  · have e : runB ⟨f, s, c⟩ room = false := by simp [runB]; omega
    rw [e]
    go_enter Try.func64, Try.ntmps64
    go_wp2
    go_ret
    exact ⟨rfl, by go_grown⟩
  cases g3 : timeR f
  · have e : runB ⟨f, s, c⟩ room = false := by simp [runB, g3]
    rw [e]
    have IF := IT f
    rw [g3] at IF
    go_enter Try.func64, Try.ntmps64
    go_wp2_with (go_at_call 69; refine (IF _).mono ?_; rintro e w1 ⟨rfl, hb⟩)
    go_ret
    exact ⟨rfl, past1 hb⟩
  have IF := IT f
  rw [g3] at IF
  obtain ⟨f0, f1⟩ := (timeR_iff f).1 g3
  have c1 : (1 : Int) ≤ c := by omega
  have c2 : c ≤ room := by omega
  by_cases g4 : c = 1
  · subst g4
    have e : runB ⟨f, s, 1⟩ room = decide (s = 0) := by simp [runB, g3, c2]
    rw [e]
    go_enter Try.func64, Try.ntmps64
    go_wp2_with (go_at_call 69; refine (IF _).mono ?_; rintro e w1 ⟨rfl, hb⟩; have k0 := (hb.cell (p := ⟨w.heap.size, 1, none⟩) (by simp)).trans (show _ = some (Value.int .i64 s) by simp [go_sem]); have k1 := (hb.cell (p := ⟨w.heap.size, 2, none⟩) (by simp)).trans (show _ = some (Value.int .i64 1) by simp [go_sem]))
    go_ret
    exact ⟨rfl, past1 hb⟩
  · have e : runB ⟨f, s, c⟩ room = (decide (1 ≤ s) && (decide (s ≤ 281474976710656) && timeR (f + (c - 1) * s))) := by simp [runB, g3, g4, c1, c2]
    rw [e]
    by_cases g5 : 1 ≤ s
    · by_cases g6 : s ≤ 281474976710656
      · have LA := fun W => last_at f s c (by omega) (by omega) (by omega) g6 f0 f1 W
        have e2 : (decide (1 ≤ s) && (decide (s ≤ 281474976710656) && timeR (f + (c - 1) * s))) = timeR (f + (c - 1) * s) := by simp [g5, g6]
        rw [e2]
        clear e e2
        go_enter Try.func64, Try.ntmps64
        go_wp2_with (go_at_call 69; refine (IF _).mono ?_; rintro e w1 ⟨rfl, hb⟩; have k0 := (hb.cell (p := ⟨w.heap.size, 0, none⟩) (by simp)).trans (show _ = some (Value.int .i64 f) by simp [go_sem]); have k1 := (hb.cell (p := ⟨w.heap.size, 1, none⟩) (by simp)).trans (show _ = some (Value.int .i64 s) by simp [go_sem]); have k2 := (hb.cell (p := ⟨w.heap.size, 2, none⟩) (by simp)).trans (show _ = some (Value.int .i64 c) by simp [go_sem]))
        go_wp2_with (first | (go_at_call 61; refine (LA _).mono ?_; rintro e w2 ⟨rfl, hb2⟩) | (go_at_call 69; refine (IT _ _).mono ?_; rintro e w3 ⟨rfl, hb3⟩))
        go_ret
        exact ⟨rfl, under (past1 hb) (under hb2 hb3)⟩
      · have e2 : (decide (1 ≤ s) && (decide (s ≤ 281474976710656) && timeR (f + (c - 1) * s))) = false := by simp [g6]
        rw [e2]
        clear e e2
        go_enter Try.func64, Try.ntmps64
        go_wp2_with (go_at_call 69; refine (IF _).mono ?_; rintro e w1 ⟨rfl, hb⟩; have k1 := (hb.cell (p := ⟨w.heap.size, 1, none⟩) (by simp)).trans (show _ = some (Value.int .i64 s) by simp [go_sem]); have k2 := (hb.cell (p := ⟨w.heap.size, 2, none⟩) (by simp)).trans (show _ = some (Value.int .i64 c) by simp [go_sem]))
        go_ret
        exact ⟨rfl, past1 hb⟩
    · have e2 : (decide (1 ≤ s) && (decide (s ≤ 281474976710656) && timeR (f + (c - 1) * s))) = false := by simp [g5]
      rw [e2]
      clear e e2
      go_enter Try.func64, Try.ntmps64
      go_wp2_with (go_at_call 69; refine (IF _).mono ?_; rintro e w1 ⟨rfl, hb⟩; have k1 := (hb.cell (p := ⟨w.heap.size, 1, none⟩) (by simp)).trans (show _ = some (Value.int .i64 s) by simp [go_sem]); have k2 := (hb.cell (p := ⟨w.heap.size, 2, none⟩) (by simp)).trans (show _ = some (Value.int .i64 c) by simp [go_sem]))
      go_ret
      exact ⟨rfl, past1 hb⟩
end Go.Proofs.Ytlfjmdfplmdmgaa
