/-
 Layer 7: runs: what package runs answers of one run and of one time. Conditions: those written at each fact.
-/
import Derived.Test.YtcfidimnbamnkaaGreatKitW
import Derived.Maps.RangeWalk
import Derived.Test.YtcfidimnbamnkaaGreatChecked
import Derived.Test.YtcfidimnbamnkaaGreatKitX
import Derived.Test.YtcfidimnbamnkaaGreatRead
import Derived.Test.YtcfidimnbamnkaaGreatStruct
import Derived.StillTactics
import Derived.Deep.QuietTactic
import Derived.BigQuiet
import Derived.WalkSmall
import Derived.Test.YtcfidimnbamnkaaGreatKitY
import Derived.Test.YtcfidimnbamnkaaGreatIter
import Derived.Maps.AppendAt
import Derived.Laws.Rows
import Derived.Lib.SlBuf
import Derived.Laws.CopyRow
namespace Go.Proofs.YtcfidimnbamnkaaGreat.P7
open Go.RowKit

structure Rn where
 f : Int
 s : Int
 c : Int
abbrev runV (r : Rn) : Value := .agg #[.int .i64 r.f, .int .i64 r.s, .int .i64 r.c]
def timeR (t : Int) : Bool := decide (0 ≤ t) && decide (t ≤ 281474976710656)
theorem timeR_iff (t : Int) : timeR t = true ↔ 0 ≤ t ∧ t ≤ 281474976710656 := by unfold timeR; simp
def runB (r : Rn) (room : Int) : Bool := decide (1 ≤ r.c) && (decide (r.c ≤ room) && (timeR r.f && (if r.c = 1 then decide (r.s = 0) else decide (1 ≤ r.s) && (decide (r.s ≤ 281474976710656) && timeR (r.f + (r.c - 1) * r.s)))))
def RunOk (r : Rn) : Prop := 1 ≤ r.c ∧ r.c ≤ 256 ∧ 0 ≤ r.f ∧ 0 ≤ r.s ∧ r.s ≤ 281474976710656 ∧ r.f + (r.c - 1) * r.s ≤ 281474976710656 ∧ r.f ≤ 281474976710656
theorem runB_ok {r : Rn} {room : Int} (hr : room ≤ 256) (h : runB r room = true) : RunOk r := by
 unfold runB at h
 simp only [Bool.and_eq_true, decide_eq_true_eq, timeR_iff] at h
 obtain ⟨h1, h2, h3, h4⟩ := h
 split at h4
 ·next e =>
  have h5 := of_decide_eq_true h4
  refine ⟨h1, by omega, h3.1, by omega, by omega, ?_, h3.2⟩
  rw [e, h5]; simpa using h3.2
 ·simp only [Bool.and_eq_true, decide_eq_true_eq, timeR_iff] at h4
  exact ⟨h1, by omega, h3.1, by omega, by omega, h4.2.2.2, h3.2⟩
theorem i64_keeps {x : Int} (h1 : -9223372036854775808 ≤ x) (h2 : x ≤ 9223372036854775807) : wrap64 x = x := by unfold wrap64; omega
theorem mul_near2 {i s a b : Int} (h1 : 0 ≤ i) (h2 : i ≤ a) (h3 : -b ≤ s) (h4 : s ≤ b) : -(a * b) ≤ i * s ∧ i * s ≤ a * b := by
 have h5 : i * s ≤ i * b := Int.mul_le_mul_of_nonneg_left h4 h1
 have h6 : i * (-b) ≤ i * s := Int.mul_le_mul_of_nonneg_left h3 h1
 have h7 : i * b ≤ a * b := Int.mul_le_mul_of_nonneg_right h2 (by omega)
 rw [Int.mul_neg] at h6
 omega
theorem nth_exact {f s i : Int} (h1 : 0 ≤ i) (h2 : i ≤ 1000) (h3 : -281474976710656 ≤ s) (h4 : s ≤ 281474976710656) (h5 : 0 ≤ f) (h6 : f ≤ 281474976710656) : wrap64 (f + wrap64 (i * s)) = f + i * s := by
 have := mul_near2 h1 h2 h3 h4
 rw [i64_keeps (x := i * s) (by omega) (by omega), i64_keeps (by omega) (by omega)]

theorem past1 {w w1 : World} {o : Obj} (hb : Below (w.alloc o).heap.size (w.alloc o) w1) : Below w.heap.size w w1 := under (below_alloc w o) hb
theorem isTime_any (t : Int) (w : World) : Calls Tryz.prog 194 #[.int .i64 t] w (Ret w (.bool (timeR t))) := by
 unfold timeR
 cases g : decide (0 ≤ t)
 ·go_enter Tryz.func194, Tryz.ntmps194
  go_wp2
  go_ret
  exact ⟨rfl, by go_grown⟩
 ·go_enter Tryz.func194, Tryz.ntmps194
  go_wp2
  go_ret
  exact ⟨rfl, by go_grown⟩
theorem nth_any (f s c i : Int) (w : World) : Calls Tryz.prog 127 #[runV ⟨f, s, c⟩, .int .i64 i] w (Ret w (.int .i64 (wrap64 (f + wrap64 (i * s))))) := by
 go_enter Tryz.func127, Tryz.ntmps127
 go_wp2
 go_ret
 exact ⟨rfl, by go_grown⟩
theorem nth_at (f s c i : Int) (h1 : 0 ≤ i) (h2 : i ≤ 1000) (h3 : -281474976710656 ≤ s) (h4 : s ≤ 281474976710656) (h5 : 0 ≤ f) (h6 : f ≤ 281474976710656) (w : World) : Calls Tryz.prog 127 #[runV ⟨f, s, c⟩, .int .i64 i] w (Ret w (.int .i64 (f + i * s))) := by
 have h := nth_any f s c i w
 rwa [nth_exact h1 h2 h3 h4 h5 h6] at h
theorem last_at (f s c : Int) (h1 : 1 ≤ c) (h2 : c ≤ 300) (h3 : 0 ≤ s) (h4 : s ≤ 281474976710656) (h5 : 0 ≤ f) (h6 : f ≤ 281474976710656) (w : World) : Calls Tryz.prog 195 #[runV ⟨f, s, c⟩] w (Ret w (.int .i64 (f + (c - 1) * s))) := by
 have e : wrap64 (c - 1) = c - 1 := i64_keeps (by omega) (by omega)
 have NT := fun W => nth_at f s c (c - 1) (by omega) (by omega) (by omega) h4 h5 h6 W
 go_enter Tryz.func195, Tryz.ntmps195
 go_wp2_with (go_at_call 127; (try rw [e]); refine (NT _).mono ?_; rintro e w1 ⟨rfl, hb⟩)
 go_ret
 exact ⟨rfl, past1 hb⟩
theorem must_true (code : Int) (w : World) : Calls Tryz.prog 125 #[.bool true, .int .i64 code] w (Ret w (.tuple #[])) := by
 go_enter Tryz.func125, Tryz.ntmps125
 go_wp2
 go_end0
 exact ⟨rfl, by go_grown⟩
abbrev thrown (code : Int) : Ending := .panicked [{ v := .iface 31 (.int .i64 code), recovered := false }]
theorem must_false (code : Int) (w : World) : Calls Tryz.prog 125 #[.bool false, .int .i64 code] w (fun e w' => e = thrown code ∧ Below w.heap.size w w') := by
 go_enter Tryz.func125, Tryz.ntmps125
 go_wp2
 exact ⟨rfl, rfl, by go_grown⟩
set_option maxHeartbeats 1000000 in
theorem isRun_any (f s c room : Int) (hr : room ≤ 256) (w : World) : Calls Tryz.prog 163 #[runV ⟨f, s, c⟩, .int .i64 room] w (Ret w (.bool (runB ⟨f, s, c⟩ room))) := by
 have IT := fun t W => isTime_any t W
 by_cases g1 : c < 1
 ·have e : runB ⟨f, s, c⟩ room = false := by simp [runB]; omega
  rw [e]
  go_enter Tryz.func163, Tryz.ntmps163
  go_wp2
  go_ret
  exact ⟨rfl, by go_grown⟩
 by_cases g2 : room < c
 ·have e : runB ⟨f, s, c⟩ room = false := by simp [runB]; omega
  rw [e]
  go_enter Tryz.func163, Tryz.ntmps163
  go_wp2
  go_ret
  exact ⟨rfl, by go_grown⟩
 cases g3 : timeR f
 ·have e : runB ⟨f, s, c⟩ room = false := by simp [runB, g3]
  rw [e]
  have IF := IT f
  rw [g3] at IF
  go_enter Tryz.func163, Tryz.ntmps163
  go_wp2_with (go_at_call 194; refine (IF _).mono ?_; rintro e w1 ⟨rfl, hb⟩)
  go_ret
  exact ⟨rfl, past1 hb⟩
 have IF := IT f
 rw [g3] at IF
 obtain ⟨f0, f1⟩ := (timeR_iff f).1 g3
 have c1 : (1 : Int) ≤ c := by omega
 have c2 : c ≤ room := by omega
 by_cases g4 : c = 1
 ·subst g4
  have e : runB ⟨f, s, 1⟩ room = decide (s = 0) := by simp [runB, g3, c2]
  rw [e]
  go_enter Tryz.func163, Tryz.ntmps163
  go_wp2_with (go_at_call 194; refine (IF _).mono ?_; rintro e w1 ⟨rfl, hb⟩; have k0 := (hb.cell (p := ⟨w.heap.size, 1, none⟩) (by simp)).trans (show _ = some (Value.int .i64 s) by simp [go_sem]); have k1 := (hb.cell (p := ⟨w.heap.size, 2, none⟩) (by simp)).trans (show _ = some (Value.int .i64 1) by simp [go_sem]))
  go_ret
  exact ⟨rfl, past1 hb⟩
 ·have e : runB ⟨f, s, c⟩ room = (decide (1 ≤ s) && (decide (s ≤ 281474976710656) && timeR (f + (c - 1) * s))) := by simp [runB, g3, g4, c1, c2]
  rw [e]
  by_cases g5 : 1 ≤ s
  ·by_cases g6 : s ≤ 281474976710656
   ·have LA := fun W => last_at f s c (by omega) (by omega) (by omega) g6 f0 f1 W
    have e2 : (decide (1 ≤ s) && (decide (s ≤ 281474976710656) && timeR (f + (c - 1) * s))) = timeR (f + (c - 1) * s) := by simp [g5, g6]
    rw [e2]
    clear e e2
    go_enter Tryz.func163, Tryz.ntmps163
    go_wp2_with (go_at_call 194; refine (IF _).mono ?_; rintro e w1 ⟨rfl, hb⟩; have k0 := (hb.cell (p := ⟨w.heap.size, 0, none⟩) (by simp)).trans (show _ = some (Value.int .i64 f) by simp [go_sem]); have k1 := (hb.cell (p := ⟨w.heap.size, 1, none⟩) (by simp)).trans (show _ = some (Value.int .i64 s) by simp [go_sem]); have k2 := (hb.cell (p := ⟨w.heap.size, 2, none⟩) (by simp)).trans (show _ = some (Value.int .i64 c) by simp [go_sem]))
    go_wp2_with (first | (go_at_call 195; refine (LA _).mono ?_; rintro e w2 ⟨rfl, hb2⟩) | (go_at_call 194; refine (IT _ _).mono ?_; rintro e w3 ⟨rfl, hb3⟩))
    go_ret
    exact ⟨rfl, under (past1 hb) (under hb2 hb3)⟩
   ·have e2 : (decide (1 ≤ s) && (decide (s ≤ 281474976710656) && timeR (f + (c - 1) * s))) = false := by simp [g6]
    rw [e2]
    clear e e2
    go_enter Tryz.func163, Tryz.ntmps163
    go_wp2_with (go_at_call 194; refine (IF _).mono ?_; rintro e w1 ⟨rfl, hb⟩; have k1 := (hb.cell (p := ⟨w.heap.size, 1, none⟩) (by simp)).trans (show _ = some (Value.int .i64 s) by simp [go_sem]); have k2 := (hb.cell (p := ⟨w.heap.size, 2, none⟩) (by simp)).trans (show _ = some (Value.int .i64 c) by simp [go_sem]))
    go_ret
    exact ⟨rfl, past1 hb⟩
  ·have e2 : (decide (1 ≤ s) && (decide (s ≤ 281474976710656) && timeR (f + (c - 1) * s))) = false := by simp [g5]
   rw [e2]
   clear e e2
   go_enter Tryz.func163, Tryz.ntmps163
   go_wp2_with (go_at_call 194; refine (IF _).mono ?_; rintro e w1 ⟨rfl, hb⟩; have k1 := (hb.cell (p := ⟨w.heap.size, 1, none⟩) (by simp)).trans (show _ = some (Value.int .i64 s) by simp [go_sem]); have k2 := (hb.cell (p := ⟨w.heap.size, 2, none⟩) (by simp)).trans (show _ = some (Value.int .i64 c) by simp [go_sem]))
   go_ret
   exact ⟨rfl, past1 hb⟩
end Go.Proofs.YtcfidimnbamnkaaGreat.P7

/-
 Layer 7: runs: whether a run may come next. Conditions: those written at each fact.
-/
namespace Go.Proofs.YtcfidimnbamnkaaGreat.P7
open Go.RowKit

def behindB (a r : Rn) : Bool := decide (2 ≤ a.c) && (decide (a.f + (a.c - 1) * a.s < r.f) && decide (r.f ≠ a.f + a.c * a.s))
set_option maxRecDepth 100000 in
set_option maxHeartbeats 2000000 in
theorem isBehind_any (a b : Rn) (ha : RunOk a) (w : World) : Calls Tryz.prog 164 #[runV a, runV b] w (Ret w (.bool (behindB a b))) := by
 obtain ⟨f, s, c⟩ := a
 obtain ⟨g, t, d⟩ := b
 obtain ⟨a1, a2, a3, a4, a5, a6, a7⟩ := ha
 simp only at a1 a2 a3 a4 a5 a6 a7
 have LA := Lib.hid (fun W => last_at f s c a1 (by omega) a4 a5 a3 a7 W)
 have NT := Lib.hid (fun W => nth_at f s c c (by omega) (by omega) (by omega) a5 a3 a7 W)
 generalize e1 : f + (c - 1) * s = x at *
 generalize e2 : f + c * s = y at *
 by_cases g1 : 2 ≤ c
 ·by_cases g2 : x < g
  ·have e : behindB ⟨f, s, c⟩ ⟨g, t, d⟩ = (g != y) := by rw [show (g != y) = decide (g ≠ y) from by by_cases h : g = y <;> simp [h]]; simp [behindB, e1, e2, g1, g2]
   rw [e]
   clear e e1 e2 a1 a2 a3 a4 a5 a6 a7
   go_enter Tryz.func164, Tryz.ntmps164
   go_wp2
   refine region_keeps (w0 := w) (L := [(w.heap.size, 0, .int .i64 f), (w.heap.size, 1, .int .i64 s), (w.heap.size, 2, .int .i64 c), (w.heap.size + 1, 0, .int .i64 g), (w.heap.size + 1, 1, .int .i64 t), (w.heap.size + 1, 2, .int .i64 d)]) (by kernel_rfl) (by first | exact hHeld | (refine ⟨by go_grown, ?_⟩; simp [Cells, go_sem]; done)) (fun hHeld0 => ?_)
   refine tv 0 5 rfl rfl ?_
   try go_frame
   refine tk 1 6 rfl rfl ?_ ?_ ?_
   rotate_left
   ·intro wq hSw; obtain ⟨⟨_,_,_⟩,⟨_,_,_⟩,⟨_,_,_⟩,⟨_,_,_⟩,⟨_,_,_⟩,⟨_,_,_⟩,_⟩ := hSw.2; go_simp; (try with_reducible rfl)
   try go_frame
   refine tv 2 7 rfl rfl ?_
   try go_frame
   refine tv 3 8 rfl rfl ?_
   try go_frame
   refine tk 4 9 rfl rfl ?_ ?_ ?_
   rotate_left
   ·intro wq hSw; obtain ⟨⟨_,_,_⟩,⟨_,_,_⟩,⟨_,_,_⟩,⟨_,_,_⟩,⟨_,_,_⟩,⟨_,_,_⟩,_⟩ := hSw.2; go_simp; (try with_reducible rfl)
   try go_frame
   refine tv 6 11 rfl rfl ?_
   try go_frame
   refine tk 7 12 rfl rfl ?_ ?_ ?_
   rotate_left
   ·intro wq hSw; obtain ⟨⟨_,_,_⟩,⟨_,_,_⟩,⟨_,_,_⟩,⟨_,_,_⟩,⟨_,_,_⟩,⟨_,_,_⟩,_⟩ := hSw.2; go_simp; (try with_reducible rfl)
   try go_frame
   refine ty [5] ?_
   refine AllReadyH.cons rfl (fun K hK => ?_) AllReadyH.nil
   go_simp
   (first | (with_reducible refine (LA.out _).mono ?_) | (with_reducible refine (NT.out _).mono ?_)); rintro e w5 ⟨rfl, hb⟩
   refine hK.out _ _ (hHeld0.next hb) (fun hHeld1 => ?_)
   clear hK K; try clear hb
   try go_frame
   refine tv 8 13 rfl rfl ?_
   try go_frame
   refine tv 9 14 rfl rfl ?_
   try go_frame
   refine tv 10 15 rfl rfl ?_
   try go_frame
   refine tv 11 16 rfl rfl ?_
   try go_frame
   refine tk 12 17 rfl rfl ?_ ?_ ?_
   rotate_left
   ·intro wq hSw; obtain ⟨⟨_,_,_⟩,⟨_,_,_⟩,⟨_,_,_⟩,⟨_,_,_⟩,⟨_,_,_⟩,⟨_,_,_⟩,_⟩ := hSw.2; go_simp; (try with_reducible rfl)
   try go_frame
   refine tk 13 18 rfl rfl ?_ ?_ ?_
   rotate_left
   ·intro wq hSw; obtain ⟨⟨_,_,_⟩,⟨_,_,_⟩,⟨_,_,_⟩,⟨_,_,_⟩,⟨_,_,_⟩,⟨_,_,_⟩,_⟩ := hSw.2; go_simp; (try with_reducible rfl)
   try go_frame
   refine tv 14 19 rfl rfl ?_
   try go_frame
   refine tk 15 20 rfl rfl ?_ ?_ ?_
   rotate_left
   ·intro wq hSw; obtain ⟨⟨_,_,_⟩,⟨_,_,_⟩,⟨_,_,_⟩,⟨_,_,_⟩,⟨_,_,_⟩,⟨_,_,_⟩,_⟩ := hSw.2; go_simp; (try with_reducible rfl)
   try go_frame
   refine ty [16] ?_
   refine AllReadyH.cons rfl (fun K hK => ?_) AllReadyH.nil
   go_simp
   (first | (with_reducible refine (LA.out _).mono ?_) | (with_reducible refine (NT.out _).mono ?_)); rintro e w5 ⟨rfl, hb⟩
   refine hK.out _ _ (hHeld1.next hb) (fun hHeld2 => ?_)
   clear hK K; try clear hb
   try go_frame
   refine tv 17 22 rfl rfl ?_
   try go_frame
   refine tv 18 23 rfl rfl ?_
   try go_frame
   refine tv 19 4 rfl rfl ?_
   try go_frame
   refine wpAnyH_done (by kernel_rfl) ?_ _
   have hHeld := hHeld2
   obtain ⟨⟨_,_,_⟩,⟨_,_,_⟩,⟨_,_,_⟩,⟨_,_,_⟩,⟨_,_,_⟩,⟨_,_,_⟩,_⟩ := hHeld.2
   all_goals
    go_wp2
    go_ret
    exact ⟨rfl, hHeld.1⟩
  ·have e : behindB ⟨f, s, c⟩ ⟨g, t, d⟩ = false := by simp [behindB, e1, e2, g1, g2]
   rw [e]
   clear e e1 e2 a1 a2 a3 a4 a5 a6 a7
   go_enter Tryz.func164, Tryz.ntmps164
   go_wp2
   have g3 : ¬ x < g := by omega
   refine region_keeps (w0 := w) (L := [(w.heap.size, 0, .int .i64 f), (w.heap.size, 1, .int .i64 s), (w.heap.size, 2, .int .i64 c), (w.heap.size + 1, 0, .int .i64 g), (w.heap.size + 1, 1, .int .i64 t), (w.heap.size + 1, 2, .int .i64 d)]) (by kernel_rfl) (by first | exact hHeld | (refine ⟨by go_grown, ?_⟩; simp [Cells, go_sem]; done)) (fun hHeld0 => ?_)
   refine tv 0 5 rfl rfl ?_
   try go_frame
   refine tk 1 6 rfl rfl ?_ ?_ ?_
   rotate_left
   ·intro wq hSw; obtain ⟨⟨_,_,_⟩,⟨_,_,_⟩,⟨_,_,_⟩,⟨_,_,_⟩,⟨_,_,_⟩,⟨_,_,_⟩,_⟩ := hSw.2; go_simp; (try with_reducible rfl)
   try go_frame
   refine tv 2 7 rfl rfl ?_
   try go_frame
   refine tv 3 8 rfl rfl ?_
   try go_frame
   refine tk 4 9 rfl rfl ?_ ?_ ?_
   rotate_left
   ·intro wq hSw; obtain ⟨⟨_,_,_⟩,⟨_,_,_⟩,⟨_,_,_⟩,⟨_,_,_⟩,⟨_,_,_⟩,⟨_,_,_⟩,_⟩ := hSw.2; go_simp; (try with_reducible rfl)
   try go_frame
   refine tv 6 11 rfl rfl ?_
   try go_frame
   refine tk 7 12 rfl rfl ?_ ?_ ?_
   rotate_left
   ·intro wq hSw; obtain ⟨⟨_,_,_⟩,⟨_,_,_⟩,⟨_,_,_⟩,⟨_,_,_⟩,⟨_,_,_⟩,⟨_,_,_⟩,_⟩ := hSw.2; go_simp; (try with_reducible rfl)
   try go_frame
   refine ty [5] ?_
   refine AllReadyH.cons rfl (fun K hK => ?_) AllReadyH.nil
   go_simp
   (first | (with_reducible refine (LA.out _).mono ?_) | (with_reducible refine (NT.out _).mono ?_)); rintro e w5 ⟨rfl, hb⟩
   refine hK.out _ _ (hHeld0.next hb) (fun hHeld1 => ?_)
   clear hK K; try clear hb
   try go_frame
   refine tv 8 13 rfl rfl ?_
   try go_frame
   refine tv 9 14 rfl rfl ?_
   try go_frame
   refine tv 10 15 rfl rfl ?_
   try go_frame
   refine tu 11 16 rfl rfl ?_
   try go_frame
   refine tu 12 17 rfl rfl ?_
   try go_frame
   refine tu 13 18 rfl rfl ?_
   try go_frame
   refine tu 14 19 rfl rfl ?_
   try go_frame
   refine tu 15 20 rfl rfl ?_
   try go_frame
   refine tu 16 21 rfl rfl ?_
   try go_frame
   refine tu 17 22 rfl rfl ?_
   try go_frame
   refine tv 18 23 rfl rfl ?_
   try go_frame
   refine tv 19 4 rfl rfl ?_
   try go_frame
   refine wpAnyH_done (by kernel_rfl) ?_ _
   have hHeld := hHeld1
   obtain ⟨⟨_,_,_⟩,⟨_,_,_⟩,⟨_,_,_⟩,⟨_,_,_⟩,⟨_,_,_⟩,⟨_,_,_⟩,_⟩ := hHeld.2
   all_goals
    go_wp2
    go_ret
    exact ⟨rfl, hHeld.1⟩
 ·have e : behindB ⟨f, s, c⟩ ⟨g, t, d⟩ = false := by simp [behindB, g1]
  rw [e]
  clear e e1 e2 a1 a2 a3 a4 a5 a6 a7
  go_enter Tryz.func164, Tryz.ntmps164
  go_wp2
  have g3 : ¬ 2 ≤ c := by omega
  refine region_keeps (w0 := w) (L := [(w.heap.size, 0, .int .i64 f), (w.heap.size, 1, .int .i64 s), (w.heap.size, 2, .int .i64 c), (w.heap.size + 1, 0, .int .i64 g), (w.heap.size + 1, 1, .int .i64 t), (w.heap.size + 1, 2, .int .i64 d)]) (by kernel_rfl) (by first | exact hHeld | (refine ⟨by go_grown, ?_⟩; simp [Cells, go_sem]; done)) (fun hHeld0 => ?_)
  refine tv 0 5 rfl rfl ?_
  try go_frame
  refine tk 1 6 rfl rfl ?_ ?_ ?_
  rotate_left
  ·intro wq hSw; obtain ⟨⟨_,_,_⟩,⟨_,_,_⟩,⟨_,_,_⟩,⟨_,_,_⟩,⟨_,_,_⟩,⟨_,_,_⟩,_⟩ := hSw.2; go_simp; (try with_reducible rfl)
  try go_frame
  refine tv 2 7 rfl rfl ?_
  try go_frame
  refine tv 3 8 rfl rfl ?_
  try go_frame
  refine tu 4 9 rfl rfl ?_
  try go_frame
  refine tu 5 10 rfl rfl ?_
  try go_frame
  refine tu 6 11 rfl rfl ?_
  try go_frame
  refine tu 7 12 rfl rfl ?_
  try go_frame
  refine tu 8 13 rfl rfl ?_
  try go_frame
  refine tv 9 14 rfl rfl ?_
  try go_frame
  refine tv 10 15 rfl rfl ?_
  try go_frame
  refine tu 11 16 rfl rfl ?_
  try go_frame
  refine tu 12 17 rfl rfl ?_
  try go_frame
  refine tu 13 18 rfl rfl ?_
  try go_frame
  refine tu 14 19 rfl rfl ?_
  try go_frame
  refine tu 15 20 rfl rfl ?_
  try go_frame
  refine tu 16 21 rfl rfl ?_
  try go_frame
  refine tu 17 22 rfl rfl ?_
  try go_frame
  refine tv 18 23 rfl rfl ?_
  try go_frame
  refine tv 19 4 rfl rfl ?_
  try go_frame
  refine wpAnyH_done (by kernel_rfl) ?_ _
  have hHeld := hHeld0
  obtain ⟨⟨_,_,_⟩,⟨_,_,_⟩,⟨_,_,_⟩,⟨_,_,_⟩,⟨_,_,_⟩,⟨_,_,_⟩,_⟩ := hHeld.2
  all_goals
   go_wp2
   go_ret
   exact ⟨rfl, hHeld.1⟩
end Go.Proofs.YtcfidimnbamnkaaGreat.P7

/-
 Layer 7: runs: how many times runs have, if they may be. Conditions: those written at each fact.
-/
namespace Go.Proofs.YtcfidimnbamnkaaGreat.P7
open Go.RowKit

def ReadsR (w : World) (v : Value) (l : List Rn) : Prop :=
 ∃ A c, v = .slice A l.length c ∧ l.length ≤ c ∧ ∀ i r, l[i]? = some r → ∃ b off, A = some ⟨b, off, none⟩ ∧ b < w.heap.size ∧ w.cell? ⟨b, off + i * 3, none⟩ = some (.int .i64 r.f) ∧ w.cell? ⟨b, off + i * 3 + 1, none⟩ = some (.int .i64 r.s) ∧ w.cell? ⟨b, off + i * 3 + 2, none⟩ = some (.int .i64 r.c)
theorem ReadsR.below {w w' : World} {v : Value} {l : List Rn} (h : ReadsR w v l) (hb : Below w.heap.size w w') : ReadsR w' v l := by
 obtain ⟨A, c, e, hc, hk⟩ := h
 refine ⟨A, c, e, hc, fun i s hi => ?_⟩
 obtain ⟨b, off, e1, e2, e3, e4, e5⟩ := hk i s hi
 exact ⟨b, off, e1, Nat.lt_of_lt_of_le e2 hb.size, (hb.cell (by exact e2)).trans e3, (hb.cell (by exact e2)).trans e4, (hb.cell (by exact e2)).trans e5⟩
def totalR : List Rn → Int
 | [] => 0
 | r :: l => r.c + totalR l
def restB : Option Rn → Int → List Rn → Bool
 | _, _, [] => true
 | p, n, r :: l => runB r (256 - n) && ((match p with | none => true | some a => behindB a r) && restB (some r) (n + r.c) l)
def okB (l : List Rn) : Bool := decide (l ≠ []) && restB none 0 l
theorem totalR_take {l : List Rn} {k : Nat} {r : Rn} (h : l[k]? = some r) : totalR (l.take (k + 1)) = totalR (l.take k) + r.c := by
 induction l generalizing k with
 | nil => simp at h
 | cons a l ih =>
  cases k with
  | zero => simp at h; subst h; simp [totalR]
  | succ k => simp at h; have := ih h; simp only [List.take_succ_cons, totalR] at *; omega
def aheadR (l : List Rn) : Nat → Option Rn
 | 0 => none
 | k + 1 => l[k]?
theorem restB_drop {l : List Rn} {k : Nat} {r : Rn} (h : l[k]? = some r) (p : Option Rn) (n : Int) : restB p n (l.drop k) = (runB r (256 - n) && ((match p with | none => true | some a => behindB a r) && restB (some r) (n + r.c) (l.drop (k + 1)))) := by
 obtain ⟨a1, e1⟩ := List.getElem?_eq_some_iff.1 h
 rw [List.drop_eq_getElem_cons a1, e1]
 rfl
abbrev CountEnd (w : World) (l : List Rn) (e : Ending) (w' : World) : Prop := e = (if okB l then .returned (.int .i64 (totalR l)) else thrown 170) ∧ Below w.heap.size w w'
theorem countEnd_bad {w w' : World} {l : List Rn} {e : Ending} (h : okB l = false) (he : e = thrown 170) (hb : Below w.heap.size w w') : CountEnd w l e w' := ⟨by rw [h, he]; rfl, hb⟩

set_option maxRecDepth 100000 in
set_option maxHeartbeats 2000000 in
theorem count_any (l : List Rn) (hl : l.length ≤ 9223372036854775807) (v : Value) (w : World) (h : ReadsR w v l) : Calls Tryz.prog 117 #[v] w (CountEnd w l) := by
 obtain ⟨A, c, rfl, hc, hk⟩ := h
 have HK := Lib.hid hk
 clear hk
 by_cases g0 : l = []
 ·subst g0
  have hO : okB [] = false := by simp [okB]
  have MF := fun W => must_false 170 W
  go_enter Tryz.func117, Tryz.ntmps117
  go_wp2_with (go_at_call 125; refine (MF _).mono ?_; rintro e w1 ⟨rfl, hb⟩)
  exact ⟨rfl, countEnd_bad hO rfl hb⟩
 have hl0 : 0 < l.length := List.length_pos_iff.2 g0
 have MT := fun W => must_true 170 W
 have OE : okB l = restB none 0 l := by simp [okB, g0]
 have i0 : (0 : Int) < (l.length : Int) := by omega
 go_enter Tryz.func117, Tryz.ntmps117
 go_wp2_with (go_at_call 125; refine (MT _).mono ?_; rintro e w1 ⟨rfl, hb⟩)
 go_loopw [12, 3] (fun i n wr => ∃ (k : Nat) (m : Int), i = .int .i64 k ∧ n = .int .i64 m ∧ k ≤ l.length ∧ 0 ≤ m ∧ m ≤ 256 ∧ Hid (m = totalR (l.take k)) ∧ Hid (okB l = restB (aheadR l k) m (l.drop k)) ∧ Hid (∀ a, aheadR l k = some a → RunOk a) ∧ Below w.heap.size w wr) (fun i _ _ => l.length - (intOf i).toNat)
 case atStart => exact ⟨0, 0, rfl, rfl, by omega, by omega, by omega, Lib.hid (by simp [totalR]), Lib.hid (by simpa [aheadR] using OE), Lib.hid (by simp [aheadR]), hb⟩
 case round =>
  obtain ⟨k, m, rfl, rfl, hkl, hm0, hm1, hT, hO, hA, hB⟩ := hrel
  have hHeld : Keeps w [] wr := ⟨hB, trivial⟩
  by_cases gk : k < l.length
  ·obtain ⟨⟨f, s, d⟩, hx⟩ : ∃ s, l[k]? = some s := ⟨_, List.getElem?_eq_getElem gk⟩
   obtain ⟨bb, off, rfl, hbw, hc1, hc2, hc3⟩ := HK.out k _ hx
   have c1 := (hB.cell (p := ⟨bb, off + k * 3, none⟩) hbw).trans hc1
   have c2 := (hB.cell (p := ⟨bb, off + k * 3 + 1, none⟩) hbw).trans hc2
   have c3 := (hB.cell (p := ⟨bb, off + k * 3 + 2, none⟩) hbw).trans hc3
   have i1 : (k : Int) < (l.length : Int) := by omega
   have i0 : (0 : Int) ≤ (k : Int) := by omega
   have e256 : wrap64 (256 - m) = 256 - m := i64_keeps (by omega) (by omega)
   have HX := Lib.hid hx
   have RD := Lib.hid (restB_drop hx (aheadR l k) m)
   have IR := Lib.hid (fun W => isRun_any f s d (256 - m) (by omega) W)
   simp only at c1 c2 c3
   clear hc1 hc2 hc3 hx hB OE
   cases gr : runB ⟨f, s, d⟩ (256 - m)
   ·have hO2 : okB l = false := by rw [hO.out, RD.out, gr]; rfl
    rw [gr] at IR
    have MF := Lib.hid (fun W => must_false 170 W)
    clear hO gr
    go_wp2_with fail
    refine (IR.out _).mono ?_
    rintro en w1 ⟨rfl, hb1⟩
    replace hHeld := Keeps.next (hHeld.alloc (.cells #[.int .i64 f, .int .i64 s, .int .i64 d] 44)) hb1
    clear hb1 c1 c2 c3
    go_wp2_with fail
    refine (MF.out _).mono ?_
    rintro en w2 ⟨rfl, hb2⟩
    go_wp2_with fail
    exact ⟨rfl, countEnd_bad hO2 rfl (hHeld.next hb2).1⟩
   ·rw [gr] at IR
    have hR := runB_ok (by omega) gr
    have hd1 : 1 ≤ d := hR.1
    have hd2 : d ≤ 256 - m := by unfold runB at gr; simp only [Bool.and_eq_true, decide_eq_true_eq] at gr; exact gr.2.1
    have em : wrap64 (m + d) = m + d := i64_keeps (by omega) (by omega)
    have AN : Hid (∀ a, aheadR l (k + 1) = some a → RunOk a) := Lib.hid (fun a ha => by
     have e : l[k]? = some a := ha
     rw [HX.out] at e
     cases e
     exact hR)
    have RD2 := RD.out
    rw [gr, Bool.true_and] at RD2
    replace RD := Lib.hid RD2
    clear RD2 gr hR
    replace MT := Lib.hid MT
    by_cases g1 : k = 0
    ·have ON : Hid (okB l = restB (aheadR l (k + 1)) (m + d) (l.drop (k + 1))) := Lib.hid (by
      rw [hO.out, RD.out, g1]
      have e : aheadR l (0 + 1) = some ⟨f, s, d⟩ := by have := HX.out; rw [g1] at this; exact this
      rw [e]; rfl)
     subst g1
     simp only [Nat.zero_mul, Nat.add_zero] at c1 c2 c3
     have MM := MT
     have IB := Lib.hid True.intro
     go_wp2_with fail
     refine (IR.out _).mono ?_
     rintro en w1 ⟨rfl, hb1⟩
     replace hHeld := Keeps.next ((hHeld.alloc (.cells #[.int .i64 f, .int .i64 s, .int .i64 d] 44)).app (newK3 (hHeld.alloc (.cells #[.int .i64 f, .int .i64 s, .int .i64 d] 44)))) hb1
     clear hb1 c1 c2 c3
     go_wp2_with fail
     refine (MT.out _).mono ?_
     rintro en w2 ⟨rfl, hb2⟩
     replace hHeld := hHeld.next hb2
     clear hb2
     go_wp2_with fail
     refine region_keeps (w0 := w) (L := [(wr.heap.size, 0, .int .i64 f), (wr.heap.size, 1, .int .i64 s), (wr.heap.size, 2, .int .i64 d)]) (by kernel_rfl) hHeld (fun hHeld0 => ?_)
     refine tv 0 22 rfl rfl ?_
     try go_frame
     refine tv 1 23 rfl rfl ?_
     try go_frame
     refine tv 2 24 rfl rfl ?_
     try go_frame
     refine tu 3 25 rfl rfl ?_
     try go_frame
     refine tu 4 26 rfl rfl ?_
     try go_frame
     refine tu 5 27 rfl rfl ?_
     try go_frame
     refine tu 6 28 rfl rfl ?_
     try go_frame
     refine tu 7 29 rfl rfl ?_
     try go_frame
     refine tu 8 30 rfl rfl ?_
     try go_frame
     refine tu 9 31 rfl rfl ?_
     try go_frame
     refine tv 10 32 rfl rfl ?_
     try go_frame
     refine ty [11] ?_
     refine AllReadyH.cons rfl (fun K hK => ?_) AllReadyH.nil
     go_simp
     (first | ((with_reducible refine (IB.out _).mono ?_); rintro e w5 ⟨rfl, hb⟩) | ((with_reducible refine (MM.out _).mono ?_); rintro e w6 ⟨rfl, hb⟩))
     refine hK.out _ _ (hHeld0.next hb) (fun hHeld1 => ?_)
     clear hK K; try clear hb
     try go_frame
     refine wpAnyH_done (by kernel_rfl) ?_ _
     have hHeld := hHeld1
     obtain ⟨⟨kz0, kc0, kf0⟩, ⟨kz1, kc1, kf1⟩, ⟨kz2, kc2, kf2⟩, _⟩ := hHeld.2
     all_goals
      go_wp2_with fail
      go_roundw
      case rel => exact ⟨1, m + d, by simp, rfl, by omega, by omega, by omega, Lib.hid (by rw [totalR_take HX.out, ← hT.out]), Lib.hid ON.out, Lib.hid AN.out, hHeld.1⟩
      case measure => simp [intOf]; omega
    ·obtain ⟨j, hj⟩ : ∃ j, k = j + 1 := ⟨k - 1, by omega⟩
     obtain ⟨⟨f0, s0, d0⟩, hy⟩ : ∃ s, l[j]? = some s := ⟨_, List.getElem?_eq_getElem (by omega)⟩
     obtain ⟨bb', off', hbe, hbw', hp1, hp2, hp3⟩ := HK.out j _ hy
     cases hbe
     have hak : aheadR l k = some ⟨f0, s0, d0⟩ := by rw [hj]; exact hy
     have IB := Lib.hid (fun W => isBehind_any ⟨f0, s0, d0⟩ ⟨f, s, d⟩ (hA.out _ hak) W)
     have ej : wrap64 ((k : Int) - 1) = (j : Int) := by rw [hj]; exact (i64_keeps (by omega) (by omega)).trans (by omega)
     have ek : IntKind.i64.wrap ((k : Int) - 1) = (j : Int) := (by rw [IntKind.wrap_i64]; omega)
     have ij : (j : Int) < (l.length : Int) := by omega
     have j0 : (0 : Int) ≤ (j : Int) := by omega
     have hk0 : ¬ (k : Int) = 0 := by omega
     have HP := Lib.hid (And.intro hp1 (And.intro hp2 hp3))
     simp only at hp1 hp2 hp3
     replace hp1 := Lib.hid hp1; replace hp2 := Lib.hid hp2; replace hp3 := Lib.hid hp3
     clear hy HP
     rw [hak] at RD
     cases gb : behindB ⟨f0, s0, d0⟩ ⟨f, s, d⟩
     ·have hO2 : okB l = false := by rw [hO.out, hak, RD.out]; show (behindB _ _ && _) = _; rw [gb]; rfl
      have MM := Lib.hid (fun W => must_false 170 W)
      rw [gb] at IB
      clear hO RD hak gb hj
      go_wp2_with fail
      refine (IR.out _).mono ?_
      rintro en w1 ⟨rfl, hb1⟩
      replace hHeld := Keeps.next ((hHeld.alloc (.cells #[.int .i64 f, .int .i64 s, .int .i64 d] 44)).app (newK3 (hHeld.alloc (.cells #[.int .i64 f, .int .i64 s, .int .i64 d] 44)))) hb1
      clear hb1 c1 c2 c3
      go_wp2_with fail
      refine (MT.out _).mono ?_
      rintro en w2 ⟨rfl, hb2⟩
      replace hHeld := hHeld.next hb2
      clear hb2
      go_wp2_with fail
      have hk1 : ((k : Int) == 0) = false := beq_eq_false_iff_ne.2 (by omega)
      refine region_keeps (w0 := w) (L := [(wr.heap.size, 0, .int .i64 f), (wr.heap.size, 1, .int .i64 s), (wr.heap.size, 2, .int .i64 d)]) (by kernel_rfl) hHeld (fun hHeld0 => ?_)
      refine tv 0 22 rfl rfl ?_
      try go_frame
      refine tv 1 23 rfl rfl ?_
      try go_frame
      refine tv 2 24 rfl rfl ?_
      try go_frame
      refine tv 3 25 rfl rfl ?_
      try go_frame
      refine tv 4 26 rfl rfl ?_
      try go_frame
      refine tv 5 27 rfl rfl ?_
      try go_frame
      refine tv 6 28 rfl rfl ?_
      try go_frame
      refine tk 7 29 rfl rfl ?_ ?_ ?_
      rotate_left
      ·intro wq hSw; obtain ⟨⟨qz0, qc0, qf0⟩, ⟨qz1, qc1, qf1⟩, ⟨qz2, qc2, qf2⟩, _⟩ := hSw.2; have hp4 := (hSw.1.cell (p := ⟨bb, off + j * 3, none⟩) hbw).trans hp1.out; have hp5 := (hSw.1.cell (p := ⟨bb, off + j * 3 + 1, none⟩) hbw).trans hp2.out; have hp6 := (hSw.1.cell (p := ⟨bb, off + j * 3 + 2, none⟩) hbw).trans hp3.out; go_simp; (try with_reducible rfl)
      try go_frame
      refine tk 8 30 rfl rfl ?_ ?_ ?_
      rotate_left
      ·intro wq hSw; obtain ⟨⟨qz0, qc0, qf0⟩, ⟨qz1, qc1, qf1⟩, ⟨qz2, qc2, qf2⟩, _⟩ := hSw.2; have hp4 := (hSw.1.cell (p := ⟨bb, off + j * 3, none⟩) hbw).trans hp1.out; have hp5 := (hSw.1.cell (p := ⟨bb, off + j * 3 + 1, none⟩) hbw).trans hp2.out; have hp6 := (hSw.1.cell (p := ⟨bb, off + j * 3 + 2, none⟩) hbw).trans hp3.out; go_simp; (try with_reducible rfl)
      try go_frame
      refine ty [9] ?_
      refine AllReadyH.cons rfl (fun K hK => ?_) AllReadyH.nil
      go_simp
      (first | ((with_reducible refine (IB.out _).mono ?_); rintro e w5 ⟨rfl, hb⟩) | ((with_reducible refine (MM.out _).mono ?_); rintro e w6 ⟨rfl, hb⟩))
      refine hK.out _ _ (hHeld0.next hb) (fun hHeld1 => ?_)
      clear hK K; try clear hb
      try go_frame
      refine tv 10 32 rfl rfl ?_
      try go_frame
      refine ty [11] ?_
      refine AllReadyH.cons rfl (fun K hK => ?_) AllReadyH.nil
      go_simp
      (first | ((with_reducible refine (IB.out _).mono ?_); rintro e w5 ⟨rfl, hb⟩) | ((with_reducible refine (MM.out _).mono ?_); rintro e w6 ⟨rfl, hb⟩))
      have hHeld := hHeld1
      all_goals
       exact ⟨rfl, countEnd_bad hO2 rfl (hHeld.next hb).1⟩
     ·have ON : Hid (okB l = restB (aheadR l (k + 1)) (m + d) (l.drop (k + 1))) := Lib.hid (by
       rw [hO.out, hak, RD.out]; show (behindB _ _ && _) = _; rw [gb, Bool.true_and]
       have e : aheadR l (k + 1) = some ⟨f, s, d⟩ := HX.out
       rw [e])
      have MM := MT
      rw [gb] at IB
      clear hO RD hak gb hj
      go_wp2_with fail
      refine (IR.out _).mono ?_
      rintro en w1 ⟨rfl, hb1⟩
      replace hHeld := Keeps.next ((hHeld.alloc (.cells #[.int .i64 f, .int .i64 s, .int .i64 d] 44)).app (newK3 (hHeld.alloc (.cells #[.int .i64 f, .int .i64 s, .int .i64 d] 44)))) hb1
      clear hb1 c1 c2 c3
      go_wp2_with fail
      refine (MT.out _).mono ?_
      rintro en w2 ⟨rfl, hb2⟩
      replace hHeld := hHeld.next hb2
      clear hb2
      go_wp2_with fail
      have hk1 : ((k : Int) == 0) = false := beq_eq_false_iff_ne.2 (by omega)
      refine region_keeps (w0 := w) (L := [(wr.heap.size, 0, .int .i64 f), (wr.heap.size, 1, .int .i64 s), (wr.heap.size, 2, .int .i64 d)]) (by kernel_rfl) hHeld (fun hHeld0 => ?_)
      refine tv 0 22 rfl rfl ?_
      try go_frame
      refine tv 1 23 rfl rfl ?_
      try go_frame
      refine tv 2 24 rfl rfl ?_
      try go_frame
      refine tv 3 25 rfl rfl ?_
      try go_frame
      refine tv 4 26 rfl rfl ?_
      try go_frame
      refine tv 5 27 rfl rfl ?_
      try go_frame
      refine tv 6 28 rfl rfl ?_
      try go_frame
      refine tk 7 29 rfl rfl ?_ ?_ ?_
      rotate_left
      ·intro wq hSw; obtain ⟨⟨qz0, qc0, qf0⟩, ⟨qz1, qc1, qf1⟩, ⟨qz2, qc2, qf2⟩, _⟩ := hSw.2; have hp4 := (hSw.1.cell (p := ⟨bb, off + j * 3, none⟩) hbw).trans hp1.out; have hp5 := (hSw.1.cell (p := ⟨bb, off + j * 3 + 1, none⟩) hbw).trans hp2.out; have hp6 := (hSw.1.cell (p := ⟨bb, off + j * 3 + 2, none⟩) hbw).trans hp3.out; go_simp; (try with_reducible rfl)
      try go_frame
      refine tk 8 30 rfl rfl ?_ ?_ ?_
      rotate_left
      ·intro wq hSw; obtain ⟨⟨qz0, qc0, qf0⟩, ⟨qz1, qc1, qf1⟩, ⟨qz2, qc2, qf2⟩, _⟩ := hSw.2; have hp4 := (hSw.1.cell (p := ⟨bb, off + j * 3, none⟩) hbw).trans hp1.out; have hp5 := (hSw.1.cell (p := ⟨bb, off + j * 3 + 1, none⟩) hbw).trans hp2.out; have hp6 := (hSw.1.cell (p := ⟨bb, off + j * 3 + 2, none⟩) hbw).trans hp3.out; go_simp; (try with_reducible rfl)
      try go_frame
      refine ty [9] ?_
      refine AllReadyH.cons rfl (fun K hK => ?_) AllReadyH.nil
      go_simp
      (first | ((with_reducible refine (IB.out _).mono ?_); rintro e w5 ⟨rfl, hb⟩) | ((with_reducible refine (MM.out _).mono ?_); rintro e w6 ⟨rfl, hb⟩))
      refine hK.out _ _ (hHeld0.next hb) (fun hHeld1 => ?_)
      clear hK K; try clear hb
      try go_frame
      refine tv 10 32 rfl rfl ?_
      try go_frame
      refine ty [11] ?_
      refine AllReadyH.cons rfl (fun K hK => ?_) AllReadyH.nil
      go_simp
      (first | ((with_reducible refine (IB.out _).mono ?_); rintro e w5 ⟨rfl, hb⟩) | ((with_reducible refine (MM.out _).mono ?_); rintro e w6 ⟨rfl, hb⟩))
      refine hK.out _ _ (hHeld1.next hb) (fun hHeld2 => ?_)
      clear hK K; try clear hb
      try go_frame
      refine wpAnyH_done (by kernel_rfl) ?_ _
      have hHeld := hHeld2
      obtain ⟨⟨kz0, kc0, kf0⟩, ⟨kz1, kc1, kf1⟩, ⟨kz2, kc2, kf2⟩, _⟩ := hHeld.2
      all_goals
       go_wp2_with fail
       go_roundw
       case rel => exact ⟨k + 1, m + d, by simp, rfl, by omega, by omega, by omega, Lib.hid (by rw [totalR_take HX.out, ← hT.out]), Lib.hid ON.out, Lib.hid AN.out, hHeld.1⟩
       case measure => simp [intOf]; omega
  ·have hkl2 : k = l.length := by omega
   have hO2 : okB l = true := by rw [hO.out, hkl2, List.drop_length]; rfl
   have hT2 : m = totalR l := by have := hT.out; rwa [hkl2, List.take_length] at this
   have i1 : ¬ (k : Int) < (l.length : Int) := by omega
   clear hT hO hA OE hkl2
   go_wp2_with fail
   go_ret
   exact ⟨by rw [hO2, ← hT2]; rfl, hB⟩
end Go.Proofs.YtcfidimnbamnkaaGreat.P7

/-
 Layer 7: runs: in which run a place is; may these be times? Conditions: those written at each fact.
-/
namespace Go.Proofs.YtcfidimnbamnkaaGreat.P7
open Go.RowKit

def whereR : List Rn → Int → Nat × Int
 | [], p => (0, p)
 | r :: l, p => if p < r.c then (0, p) else ((whereR l (p - r.c)).1 + 1, (whereR l (p - r.c)).2)
theorem totalR_pos : ∀ {l : List Rn}, (∀ r ∈ l, 0 ≤ r.c) → 0 ≤ totalR l
 | [], _ => Int.le_refl _
 | r :: l, h => by
  have h1 := h r (List.mem_cons_self ..)
  have h2 := totalR_pos (l := l) fun x hx => h x (List.mem_cons_of_mem _ hx)
  simp only [totalR]; omega
theorem drop_of {l : List Rn} {k : Nat} {r : Rn} (hx : l[k]? = some r) : l.drop k = r :: l.drop (k + 1) := by
 obtain ⟨hlt, e⟩ := List.getElem?_eq_some_iff.1 hx
 rw [List.drop_eq_getElem_cons hlt, e]

set_option maxRecDepth 100000 in
set_option maxHeartbeats 1000000 in
theorem where_any (l : List Rn) (hl : l.length ≤ 1000000) (hR : ∀ r ∈ l, RunOk r) (p : Int) (h0 : 0 ≤ p) (h1 : p < totalR l) (h2 : totalR l ≤ 1000000) (v : Value) (w : World) (h : ReadsR w v l) :
  Calls Tryz.prog 126 #[v, .int .i64 p] w (Ret w (.tuple #[.int .i64 (whereR l p).1, .int .i64 (whereR l p).2])) := by
 obtain ⟨A, c, rfl, hc, hk⟩ := h
 have HK := Lib.hid hk
 have HR := Lib.hid hR
 have hne : 0 < l.length := by
  cases l with
  | nil => simp [totalR] at h1; omega
  | cons => simp
 obtain ⟨R, hRs⟩ : ∃ R, R = whereR l p := ⟨_, rfl⟩
 rw [← hRs]
 have AS : Hid (R = (0 + (whereR (l.drop 0) p).1, (whereR (l.drop 0) p).2)) := Lib.hid (by rw [hRs]; simp)
 have T0 : Hid (p < totalR (l.drop 0)) := Lib.hid (by simpa using h1)
 have hp1 : p ≤ 1000000 := by omega
 clear hk hR h1 h2 hRs
 go_enter Tryz.func126, Tryz.ntmps126
 go_wp2_with fail
 go_loopw [1, 4] (fun x i wr => ∃ (k : Nat) (q : Int), x = .int .i64 q ∧ i = .int .i64 k ∧ k < l.length ∧ 0 ≤ q ∧ q ≤ p ∧ Hid (q < totalR (l.drop k)) ∧ Hid (R = (k + (whereR (l.drop k) q).1, (whereR (l.drop k) q).2)) ∧ Below w.heap.size w wr) (fun _ i => fun _ => l.length - (intOf i).toNat)
 case atStart => exact ⟨0, p, rfl, rfl, hne, h0, Int.le_refl _, T0, AS, by go_grown⟩
 case round =>
  obtain ⟨k, q, rfl, rfl, hkl, hq0, hqp, hT, hA, hB⟩ := hrel
  obtain ⟨⟨f, s, d⟩, hx⟩ : ∃ s, l[k]? = some s := ⟨_, List.getElem?_eq_getElem hkl⟩
  obtain ⟨bb, off, rfl, hbw, hc1, hc2, hc3⟩ := HK.out k _ hx
  have c3 := (hB.cell (p := ⟨bb, off + k * 3 + 2, none⟩) hbw).trans hc3
  simp only at c3
  have i1 : (k : Int) < (l.length : Int) := by omega
  have i0 : (0 : Int) ≤ (k : Int) := by omega
  have hd1 : 1 ≤ d := (HR.out _ (List.mem_of_getElem? hx)).1
  have hdr := drop_of hx
  have hT2 : q < d + totalR (l.drop (k + 1)) := by have := hT.out; rw [hdr] at this; exact this
  have hA2 := hA.out
  rw [hdr] at hA2
  clear hc1 hc2 hc3 hT hA T0 AS hdr
  by_cases g : q < d
  ·have E : Hid (R = (k, q)) := Lib.hid (by rw [hA2, whereR, if_pos g]; simp)
   clear hA2 hx hT2
   go_wp2_with fail
   go_returns
   exact ⟨(by rw [E.out]; try rfl), hB⟩
  ·have E : Hid (R = ((k + 1 : Nat) + (whereR (l.drop (k + 1)) (q - d)).1, (whereR (l.drop (k + 1)) (q - d)).2)) := Lib.hid (by
    rw [hA2, whereR, if_neg g]
    simp only
    rw [Prod.mk.injEq]
    exact ⟨by omega, rfl⟩)
   have em : wrap64 (q - d) = q - d := i64_keeps (by omega) (by omega)
   have E2 : Hid (q - d < totalR (l.drop (k + 1)) ∧ k + 1 < l.length ∧ 0 ≤ q - d ∧ q - d ≤ p) := Lib.hid (by
    refine ⟨by omega, ?_, by omega, by omega⟩
    by_cases hk2 : k + 1 < l.length
    ·exact hk2
    ·rw [List.drop_eq_nil_of_le (by omega)] at hT2
     simp only [totalR] at hT2
     omega)
   clear hA2 hx hT2
   go_wp2_with fail
   go_roundw
   case rel => exact ⟨k + 1, q - d, rfl, by simp, E2.out.2.1, E2.out.2.2.1, E2.out.2.2.2, Lib.hid E2.out.1, E, hB⟩
   case measure => simp [intOf]; omega

def upB : Option Int → List Int → Bool
 | _, [] => true
 | p, t :: l => timeR t && ((match p with | none => true | some a => decide (a < t)) && upB (some t) l)
def areB (l : List Int) : Bool := decide (1 ≤ l.length) && (decide (l.length ≤ 256) && upB none l)
theorem index_less7 {k n : Nat} (h : k < n) : n - (intOf (Value.int .i64 ((k : Int) + 1))).toNat < n - (intOf (Value.int .i64 (k : Int))).toNat := by simp [intOf]; omega

end Go.Proofs.YtcfidimnbamnkaaGreat.P7

/-
 Layer 7: runs: the times of runs, one by one, with their places. Conditions: those written at each fact.
-/
namespace Go.Proofs.YtcfidimnbamnkaaGreat.P7
open Go.RowKit Go.Shelf
attribute [local go_sem] Oper.semAt_some

def KeepsC (X : World → Nat → Prop) (W W' : World) : Prop :=
 W.heap.size ≤ W'.heap.size ∧ (∀ k, X W' k → X W k ∨ (W.heap.size ≤ k ∧ k < W'.heap.size)) ∧ ∀ (k : Nat) (o : Obj), W.heap[k]? = some o → o.isCells = true → ¬ X W k → W'.heap[k]? = some o
theorem KeepsC.trans {X : World → Nat → Prop} {A B C : World} (h : KeepsC X A B) (k : KeepsC X B C) : KeepsC X A C := by
 refine ⟨Nat.le_trans h.1 k.1, fun j hj => ?_, fun j o ho hc hx => ?_⟩
 ·rcases k.2.1 j hj with h1 | h1
  ·rcases h.2.1 j h1 with h2 | h2
   ·exact .inl h2
   ·exact .inr ⟨h2.1, Nat.lt_of_lt_of_le h2.2 k.1⟩
  ·exact .inr ⟨Nat.le_trans h.1 h1.1, h1.2⟩
 ·refine k.2.2 j o (h.2.2 j o ho hc hx) hc fun hx2 => ?_
  rcases h.2.1 j hx2 with h3 | h3
  ·exact hx h3
  ·have := (Array.getElem?_eq_some_iff.1 ho).1; omega
def Hangs (X : World → Nat → Prop) (b : Nat) : Prop := ∀ W W' k, W'.heap[b]? = W.heap[b]? → X W' k → X W k
theorem KeepsC.put {X : World → Nat → Prop} {b : Nat} (hX : Hangs X b) {w : World} (hb : b < w.heap.size) (W : World) (l : Nat) (o o' : Obj) (hl : w.heap.size ≤ l) (h : W.heap[l]? = some o) (hc : o.isCells = false) (_ : o.isWalk = false) : KeepsC X W (W.putObj l o') :=
 ⟨by simp, fun k hk => .inl (hX W _ k (World.putObj_heap_other (by omega)) hk), fun k o2 ho hc2 _ => (World.putObj_heap_other (fun e => by subst e; rw [h] at ho; cases ho; rw [hc] at hc2; cases hc2)).trans ho⟩
def stepsR (f s : Int) : Nat → List Int
 | 0 => []
 | n + 1 => f :: stepsR (f + s) s n
def timesR : List Rn → List Int
 | [] => []
 | r :: l => stepsR r.f r.s r.c.toNat ++ timesR l
theorem steps_length (f s : Int) (n : Nat) : (stepsR f s n).length = n := by
 induction n generalizing f with
 | zero => rfl
 | succ n ih => simp [stepsR, ih]
theorem timesR_length : ∀ {l : List Rn}, (∀ r ∈ l, 0 ≤ r.c) → ((timesR l).length : Int) = totalR l
 | [], _ => rfl
 | r :: l, h => by
  have h1 := h r (List.mem_cons_self ..)
  have h2 := timesR_length (l := l) fun x hx => h x (List.mem_cons_of_mem _ hx)
  simp only [timesR, totalR, List.length_append, steps_length]
  omega
structure Stand (X : World → Nat → Prop) (A : Option Addr) (c : Nat) (l : List Rn) (W : World) : Prop where
 reads : ReadsR W (.slice A l.length c) l
 lies : ∀ b off, l ≠ [] → A = some ⟨b, off, none⟩ → ¬ X W b
 small : ∀ k, X W k → k < W.heap.size
theorem ReadsR.kept {W W' : World} {X : World → Nat → Prop} {A : Option Addr} {c : Nat} {l : List Rn} (h : ReadsR W (.slice A l.length c) l) (hx : ∀ b off, l ≠ [] → A = some ⟨b, off, none⟩ → ¬ X W b) (k : KeepsC X W W') : ReadsR W' (.slice A l.length c) l := by
 obtain ⟨A', c', e, hc, hk⟩ := h
 cases e
 refine ⟨A, c, rfl, hc, fun i r hi => ?_⟩
 obtain ⟨b, off, e1, e2, e3, e4, e5⟩ := hk i r hi
 have hne : l ≠ [] := by rintro rfl; simp at hi
 obtain ⟨o, ho⟩ : ∃ o, W.heap[b]? = some o := ⟨_, Array.getElem?_eq_getElem e2⟩
 have hoc : o.isCells = true := by
  cases o with
  | cells _ _ _ => rfl
  | _ => simp [World.cell?, ho] at e3
 have hb := (k.2.2 b o ho hoc (hx b off hne e1)).trans ho.symm
 exact ⟨b, off, e1, Nat.lt_of_lt_of_le e2 k.1, (World.cell?_of_block (w := W) hb).trans e3, (World.cell?_of_block (w := W) hb).trans e4, (World.cell?_of_block (w := W) hb).trans e5⟩
theorem Stand.next {X : World → Nat → Prop} {A : Option Addr} {c : Nat} {l : List Rn} {W W' : World} (h : Stand X A c l W) (k : KeepsC X W W') : Stand X A c l W' :=
 ⟨h.reads.kept h.lies k, fun b off hne e hx => by
  rcases k.2.1 b hx with h1 | h1
  ·exact h.lies b off hne e h1
  ·obtain ⟨r, l', rfl⟩ := List.exists_cons_of_ne_nil hne
   obtain ⟨A', c', e', _, hk⟩ := h.reads
   cases e'
   obtain ⟨b', off', e1, e2, _⟩ := hk 0 r rfl
   rw [e] at e1
   cases e1
   omega, fun j hj => by
  rcases k.2.1 j hj with h1 | h1
  ·exact Nat.lt_of_lt_of_le (h.small j h1) k.1
  ·exact h1.2⟩
end Go.Proofs.YtcfidimnbamnkaaGreat.P7

/-
 Layer 7: runs: rows of runs of the call's own; a row that grows, with the run that is open still. Conditions: those written at each fact.
-/
namespace Go.Proofs.YtcfidimnbamnkaaGreat.P7
open Go.RowKit Go.Shelf

theorem infoRun : (Tryz.prog.info? 44).map (fun i => (i.zero, i.size, i.bytes)) = some (some (.agg #[.int .i64 0, .int .i64 0, .int .i64 0]), 3, 24) := by kernel_rfl
theorem infoI64 : (Tryz.prog.info? 2).map (fun i => (i.zero, i.size, i.bytes)) = some (some (.int .i64 0), 1, 8) := by kernel_rfl
theorem new_cells3 {W : World} {a b c : Value} {t : TypeId} {n : Nat} (hn : n = W.heap.size) : ∀ (j : Nat) (u : Value), [a, b, c][j]? = some u → (W.alloc (.cells #[a, b, c] t)).cell? ((⟨n, 0, none⟩ : Addr).add j) = some u := by
 subst hn
 intro j u h
 match j, h with
 | 0, h => cases h; simp [Addr.add, go_sem]
 | 1, h => cases h; simp [Addr.add, go_sem]
 | 2, h => cases h; simp [Addr.add, go_sem]
 | j + 3, h => simp at h
def flatR : List Rn → List Value
 | [] => []
 | r :: l => .int .i64 r.f :: .int .i64 r.s :: .int .i64 r.c :: flatR l
theorem flatR_app : ∀ l m : List Rn, flatR (l ++ m) = flatR l ++ flatR m
 | [], _ => rfl
 | s :: l, m => by simp [flatR, flatR_app l m]
theorem flatR_length : ∀ l : List Rn, (flatR l).length = l.length * 3
 | [] => rfl
 | s :: l => by simp [flatR, flatR_length l]; omega
theorem flatR_at : ∀ (l : List Rn) (i : Nat) (r : Rn), l[i]? = some r → (flatR l)[i * 3]? = some (.int .i64 r.f) ∧ (flatR l)[i * 3 + 1]? = some (.int .i64 r.s) ∧ (flatR l)[i * 3 + 2]? = some (.int .i64 r.c)
 | [], i, s, h => by simp at h
 | x :: l, 0, s, h => by simp at h; subst h; exact ⟨rfl, rfl, rfl⟩
 | x :: l, i + 1, s, h => by
  have := flatR_at l i s (by simpa using h)
  rw [show (i + 1) * 3 = i * 3 + 3 by omega]
  exact this
theorem readsR_own {w : World} {B : Nat} {t : TypeId} {v : Value} {l : List Rn} (h : w.ownsRow B t 3 v l.length (flatR l)) : ReadsR w v l := by
 obtain ⟨hl, h⟩ := h
 rcases h with ⟨rfl, h0⟩ | ⟨g, cap, cur, rfl, hB, hg, hn, _, hs, ht⟩
 ·rw [List.eq_nil_of_length_eq_zero h0]
  exact ⟨none, 0, rfl, Nat.le_refl _, fun i r hi => by simp at hi⟩
 ·refine ⟨_, _, rfl, hn, fun i r hi => ⟨g, 0, rfl, (Array.getElem?_eq_some_iff.1 hg).1, ?_⟩⟩
  have hi' : i < l.length := (List.getElem?_eq_some_iff.1 hi).1
  obtain ⟨e1, e2, e3⟩ := flatR_at l i r hi
  rw [← ht, List.getElem?_take, if_pos (by omega)] at e1
  rw [← ht, List.getElem?_take, if_pos (by omega)] at e2
  rw [← ht, List.getElem?_take, if_pos (by omega)] at e3
  refine ⟨?_, ?_, ?_⟩
  ·simp [World.cell?, hg]; simpa using e1
  ·simp [World.cell?, hg]; simpa using e2
  ·simp [World.cell?, hg]; simpa using e3

def XG (g : Nat) (W : World) (k : Nat) : Prop := k = g ∨ ∃ off n c s, W.cell? ⟨g, 3, none⟩ = some (.slice (some ⟨k, off, s⟩) n c)
structure Took (B g : Nat) (W W' : World) : Prop where
 below : Below B W W'
 others : KeepsOthers W W'
 cells : KeepsC (XG g) W W'
theorem Took.trans {B g : Nat} {X Y Z : World} (h : Took B g X Y) (k : Took B g Y Z) : Took B g X Z := ⟨h.below.trans k.below, h.others.trans k.others, h.cells.trans k.cells⟩
end Go.Proofs.YtcfidimnbamnkaaGreat.P7

/-
 Layer 7: runs: a time comes to a row that grows. Conditions: those written at each fact.
-/
namespace Go.Proofs.YtcfidimnbamnkaaGreat.P7
open Go.RowKit Go.Shelf

def takeR (st : Rn × List Rn) (t : Int) : Rn × List Rn :=
 if st.1.c = 0 then (⟨t, st.1.s, 1⟩, st.2) else if st.1.c = 1 then (⟨st.1.f, t - st.1.f, 2⟩, st.2)
 else if t = st.1.f + st.1.c * st.1.s then (⟨st.1.f, st.1.s, st.1.c + 1⟩, st.2) else (⟨t, 0, 1⟩, st.2 ++ [st.1])
structure OpenOk (o : Rn) (n : Nat) : Prop where
 c0 : 0 ≤ o.c
 c1 : o.c ≤ n
 f0 : 0 ≤ o.f
 f1 : o.f ≤ 281474976710656
 s0 : -281474976710656 ≤ o.s
 s1 : o.s ≤ 281474976710656
theorem OpenOk.next {st : Rn × List Rn} {n : Nat} (h : OpenOk st.1 n) (hs : st.2.length ≤ n) {t : Int} (ht : 0 ≤ t ∧ t ≤ 281474976710656) : OpenOk (takeR st t).1 (n + 1) ∧ (takeR st t).2.length ≤ n + 1 := by
 obtain ⟨⟨f, s, c⟩, sh⟩ := st
 obtain ⟨a1, a2, a3, a4, a5, a6⟩ := h
 simp only at a1 a2 a3 a4 a5 a6 hs
 unfold takeR
 simp only
 split
 ·exact ⟨⟨by simp only; omega, by simp only; omega, ht.1, ht.2, a5, a6⟩, by simp only; omega⟩
 ·split
  ·exact ⟨⟨by simp only; omega, by simp only; omega, a3, a4, by simp only; omega, by simp only; omega⟩, by simp only; omega⟩
  ·split
   ·exact ⟨⟨by simp only; omega, by simp only; omega, a3, a4, a5, a6⟩, by simp only; omega⟩
   ·exact ⟨⟨by simp only; omega, by simp only; omega, ht.1, ht.2, by simp only; omega, by simp only; omega⟩, by simp only [List.length_append, List.length_singleton]; omega⟩
end Go.Proofs.YtcfidimnbamnkaaGreat.P7

/-
 Layer 7: runs: the runs of times, laid one by one: what holds of the open run. Conditions: those written at each fact.
-/
namespace Go.Proofs.YtcfidimnbamnkaaGreat.P7
open Go.RowKit Go.Shelf

def iniR : Rn × List Rn := (⟨0, 0, 0⟩, [])
def goR (l : List Int) : Rn × List Rn := l.foldl takeR iniR
def laidR (l : List Int) : List Rn := (goR l).2 ++ [(goR l).1]
def Up (l : List Int) : Prop := (∀ t ∈ l, 0 ≤ t ∧ t ≤ 281474976710656) ∧ l.Pairwise (· < ·)
theorem Up.cons {t : Int} {l : List Int} (h : Up (t :: l)) : (0 ≤ t ∧ t ≤ 281474976710656) ∧ (∀ x ∈ l, t < x) ∧ Up l :=
 ⟨h.1 t (List.mem_cons_self ..), (List.pairwise_cons.1 h.2).1, fun x hx => h.1 x (List.mem_cons_of_mem _ hx), (List.pairwise_cons.1 h.2).2⟩
theorem Up.mk {t : Int} {l : List Int} (h1 : 0 ≤ t ∧ t ≤ 281474976710656) (h2 : ∀ x ∈ l, t < x) (h3 : Up l) : Up (t :: l) :=
 ⟨fun x hx => by rcases List.mem_cons.1 hx with rfl | hx; exact h1; exact h3.1 x hx, List.pairwise_cons.2 ⟨h2, h3.2⟩⟩
theorem Up.take {l : List Int} (h : Up l) (k : Nat) : Up (l.take k) := ⟨fun t ht => h.1 t (List.mem_of_mem_take ht), h.2.sublist (List.take_sublist k l)⟩
theorem Up.drop {l : List Int} (h : Up l) (k : Nat) : Up (l.drop k) := ⟨fun t ht => h.1 t (List.mem_of_mem_drop ht), h.2.sublist (List.drop_sublist k l)⟩
theorem upB_iff : ∀ (l : List Int) (p : Option Int), upB p l = true ↔ (∀ a, p = some a → ∀ x ∈ l, a < x) ∧ Up l
 | [], p => by simp [upB, Up]
 | t :: l, p => by
  have ih := upB_iff l (some t)
  have e : upB p (t :: l) = true ↔ timeR t = true ∧ (∀ a, p = some a → a < t) ∧ upB (some t) l = true := by
   cases p <;> simp [upB]
  rw [e, ih, timeR_iff]
  constructor
  ·rintro ⟨h1, h2, h3, h4⟩
   refine ⟨fun a ha x hx => ?_, Up.mk h1 (h3 t rfl) h4⟩
   rcases List.mem_cons.1 hx with rfl | hx
   ·exact h2 a ha
   ·exact Int.lt_trans (h2 a ha) (h3 t rfl x hx)
  ·rintro ⟨h1, h2⟩
   obtain ⟨h3, h4, h5⟩ := h2.cons
   exact ⟨h3, fun a ha => h1 a ha t (List.mem_cons_self ..), fun a ha => by cases ha; exact h4, h5⟩
theorem areB_iff (l : List Int) : areB l = true ↔ 1 ≤ l.length ∧ l.length ≤ 256 ∧ Up l := by
 unfold areB
 simp only [Bool.and_eq_true, decide_eq_true_eq, upB_iff]
 simp

structure OpenInv (st : Rn × List Rn) (z : Int) (k : Nat) : Prop where
 c0 : 1 ≤ st.1.c
 c1 : st.1.c ≤ k
 f0 : 0 ≤ st.1.f
 z1 : z ≤ 281474976710656
 fz : st.1.f ≤ z
 at_ : (st.1.c = 1 ∧ st.1.s = 0 ∧ st.1.f = z) ∨ (2 ≤ st.1.c ∧ 1 ≤ st.1.s ∧ st.1.f + (st.1.c - 1) * st.1.s = z)
 len : st.2.length < k
theorem mul_pred (c s : Int) : c * s = (c - 1) * s + s := by rw [Int.sub_mul]; omega
theorem OpenInv.next {st : Rn × List Rn} {z : Int} {k : Nat} (h : OpenInv st z k) {t : Int} (h1 : z < t) (h2 : t ≤ 281474976710656) : OpenInv (takeR st t) t (k + 1) := by
 obtain ⟨⟨f, s, c⟩, sh⟩ := st
 obtain ⟨a1, a2, a3, a4, a5, a6, a7⟩ := h
 simp only at a1 a2 a3 a4 a5 a6 a7
 unfold takeR
 simp only
 rw [if_neg (by omega)]
 split
 ·next e =>
  rcases a6 with ⟨_, b2, b3⟩ | ⟨b1, _⟩
  ·exact ⟨by simp only; omega, by simp only; omega, a3, h2, by simp only; omega, .inr ⟨by simp only; omega, by simp only; omega, by simp only; omega⟩, by simp only; omega⟩
  ·omega
 ·next e =>
  rcases a6 with ⟨b1, _⟩ | ⟨b1, b2, b3⟩
  ·omega
  ·have hm := mul_pred c s
   split
   ·next e2 =>
    refine ⟨by simp only; omega, by simp only; omega, a3, h2, by simp only; omega, .inr ⟨by simp only; omega, b2, ?_⟩, by simp only; omega⟩
    simp only
    rw [show c + 1 - 1 = c by omega]
    omega
   ·exact ⟨by simp only; omega, by simp only; omega, by simp only; omega, h2, by simp only; omega, .inl ⟨rfl, rfl, rfl⟩, by simp only [List.length_append, List.length_singleton]; omega⟩
end Go.Proofs.YtcfidimnbamnkaaGreat.P7

/-
 Layer 7: runs: the runs of a row of times are laid. Conditions: those written at each fact.
-/
namespace Go.Proofs.YtcfidimnbamnkaaGreat.P7
open Go.RowKit Go.Shelf

end Go.Proofs.YtcfidimnbamnkaaGreat.P7

/-
 Layer 7: runs: tools for the pieces: a row of runs that is copied and trimmed. Conditions: those written at each fact.
-/
namespace Go.Proofs.YtcfidimnbamnkaaGreat.P7
open Go.RowKit Go.Shelf

theorem whereR_lt : ∀ {l : List Rn} {p : Int}, (∀ r ∈ l, 1 ≤ r.c) → 0 ≤ p → p < totalR l → ∃ r, l[(whereR l p).1]? = some r ∧ 0 ≤ (whereR l p).2 ∧ (whereR l p).2 < r.c
 | [], p, _, h0, h1 => by simp only [totalR] at h1; omega
 | r :: l, p, h, h0, h1 => by
  simp only [totalR] at h1
  unfold whereR
  split
  ·next e => exact ⟨r, rfl, h0, e⟩
  ·next e =>
   obtain ⟨r2, a1, a2, a3⟩ := whereR_lt (l := l) (p := p - r.c) (fun x hx => h x (List.mem_cons_of_mem _ hx)) (by omega) (by omega)
   exact ⟨r2, by simpa using a1, a2, a3⟩
def RowAt (W : World) (g : Nat) (m : List Rn) : Prop := W.heap[g]? = some (.cells (flatR m).toArray 44 (0, 0))
theorem RowAt.cells {W : World} {g : Nat} {m : List Rn} (h : RowAt W g m) {k : Nat} {r : Rn} (hk : m[k]? = some r) :
  g < W.heap.size ∧ W.cell? ⟨g, k * 3, none⟩ = some (.int .i64 r.f) ∧ W.cell? ⟨g, k * 3 + 1, none⟩ = some (.int .i64 r.s) ∧ W.cell? ⟨g, k * 3 + 2, none⟩ = some (.int .i64 r.c) ∧ ∀ j, W.frozen? ⟨g, j, none⟩ = false := by
 obtain ⟨a1, a2, a3⟩ := flatR_at m k r hk
 have e : W.heap[g]? = _ := h
 refine ⟨(Array.getElem?_eq_some_iff.1 e).1, ?_, ?_, ?_, fun j => ?_⟩
 ·simp [World.cell?, e]; exact a1
 ·simp [World.cell?, e]; exact a2
 ·simp [World.cell?, e]; exact a3
 ·simp [World.frozen?, e]
theorem flatR_one (l : List Rn) : ∀ u ∈ flatR l, u.oneCell' = true := by
 induction l with
 | nil => intro u hu; simp [flatR] at hu
 | cons a l ih =>
  intro u hu
  simp only [flatR, List.mem_cons] at hu
  rcases hu with rfl | rfl | rfl | hu
  ·rfl
  ·rfl
  ·rfl
  ·exact ih u hu
theorem reads_flat {W : World} {b off : Nat} : ∀ {m : List Rn}, (∀ i r, m[i]? = some r → W.cell? ⟨b, off + i * 3, none⟩ = some (.int .i64 r.f) ∧ W.cell? ⟨b, off + i * 3 + 1, none⟩ = some (.int .i64 r.s) ∧ W.cell? ⟨b, off + i * 3 + 2, none⟩ = some (.int .i64 r.c)) →
  ∀ (j : Nat) (u : Value), (flatR m)[j]? = some u → W.cell? ((⟨b, off, none⟩ : Addr).add j) = some u := by
 intro m h j u hj
 have hadd : (⟨b, off, none⟩ : Addr).add j = ⟨b, off + j, none⟩ := by unfold Addr.add; split <;> simp_all
 rw [hadd]
 have hlt : j < m.length * 3 := by rw [← flatR_length]; exact (List.getElem?_eq_some_iff.1 hj).1
 obtain ⟨r, hr⟩ : ∃ r, m[j / 3]? = some r := ⟨_, List.getElem?_eq_getElem (by omega)⟩
 obtain ⟨a1, a2, a3⟩ := flatR_at m (j / 3) r hr
 obtain ⟨b1, b2, b3⟩ := h (j / 3) r hr
 have h3 : j % 3 = 0 ∨ j % 3 = 1 ∨ j % 3 = 2 := by omega
 rcases h3 with h3 | h3 | h3
 ·rw [show j / 3 * 3 = j by omega] at a1 b1
  rw [b1, ← hj, a1]
 ·rw [show j / 3 * 3 + 1 = j by omega] at a2
  rw [show off + j / 3 * 3 + 1 = off + j by omega] at b2
  rw [b2, ← hj, a2]
 ·rw [show j / 3 * 3 + 2 = j by omega] at a3
  rw [show off + j / 3 * 3 + 2 = off + j by omega] at b3
  rw [b3, ← hj, a3]
end Go.Proofs.YtcfidimnbamnkaaGreat.P7
