/-
  Layer 3: of which kind a reading is, and its digits. Conditions: those written at each fact.
-/
import Derived.Test.YtinppckjolkhpaaVal
import Derived.Laws.EntriesVeiled
namespace Go.Proofs.Ytinppckjolkhpaa
open Go.RowKit Go.Shelf

/-- A reading lies in this block. -/
def Lies (w : World) (B : Nat) (s : Bool) (e f : Nat) : Prop := w.cell? ⟨B, 0, none⟩ = some (.bool s) ∧ w.cell? ⟨B, 1, none⟩ = some (.int .i64 e) ∧ w.cell? ⟨B, 2, none⟩ = some (.int .u64 f)
set_option maxHeartbeats 400000 in
theorem asked1 (w : World) (B : Nat) (s : Bool) (e f : Nat) (h : Lies w B s e f) (b : Bool) (hb : (decide (e = 2047) && decide (f ≠ 0)) = b) :
    Calls Try.prog 53 #[.pointer (some ⟨B, 0, none⟩)] w fun en w' => en = .returned (.bool b) ∧ w' = w := by
  obtain ⟨h0, h1, h2⟩ := h
  by_cases g : e = 2047
  · subst g
    by_cases k : f = 0
    · subst k
      obtain rfl : b = false := by rw [← hb]; rfl
      clear hb
      go_enter Try.func53, Try.ntmps53
      go_wp2
      go_ret
      exact ⟨rfl, rfl⟩
    · obtain rfl : b = true := by rw [← hb]; simp [k]
      clear hb
      have k1 : ((f : Int) != 0) = true := by simp [k]
      go_enter Try.func53, Try.ntmps53
      go_wp2
      go_ret
      exact ⟨rfl, rfl⟩
  · obtain rfl : b = false := by rw [← hb]; simp [g]
    clear hb
    have k1 : ((e : Int) == 2047) = false := by simp; omega
    go_enter Try.func53, Try.ntmps53
    go_wp2
    go_ret
    exact ⟨rfl, rfl⟩
set_option maxHeartbeats 400000 in
theorem asked2 (w : World) (B : Nat) (s : Bool) (e f : Nat) (h : Lies w B s e f) (b : Bool) (hb : decide (e = 2047) = b) :
    Calls Try.prog 54 #[.pointer (some ⟨B, 0, none⟩)] w fun en w' => en = .returned (.bool b) ∧ w' = w := by
  obtain ⟨h0, h1, h2⟩ := h
  have k1 : ((e : Int) == 2047) = b := by rw [← hb, Bool.eq_iff_iff]; simp; omega
  clear hb
  go_enter Try.func54, Try.ntmps54
  go_wp2
  go_ret
  exact ⟨rfl, rfl⟩
set_option maxHeartbeats 400000 in
theorem asked3 (w : World) (B : Nat) (s : Bool) (e f : Nat) (h : Lies w B s e f) (b : Bool) (hb : (decide (e = 0) && decide (f = 0)) = b) :
    Calls Try.prog 55 #[.pointer (some ⟨B, 0, none⟩)] w fun en w' => en = .returned (.bool b) ∧ w' = w := by
  obtain ⟨h0, h1, h2⟩ := h
  by_cases g : e = 0
  · subst g
    by_cases k : f = 0
    · subst k
      obtain rfl : b = true := by rw [← hb]; rfl
      clear hb
      go_enter Try.func55, Try.ntmps55
      go_wp2
      go_ret
      exact ⟨rfl, rfl⟩
    · obtain rfl : b = false := by rw [← hb]; simp [k]
      clear hb
      have k1 : ((f : Int) == 0) = false := by simp [k]
      go_enter Try.func55, Try.ntmps55
      go_wp2
      go_ret
      exact ⟨rfl, rfl⟩
  · obtain rfl : b = false := by rw [← hb]; simp [g]
    clear hb
    have k1 : ((e : Int) == 0) = false := by simp; omega
    go_enter Try.func55, Try.ntmps55
    go_wp2
    go_ret
    exact ⟨rfl, rfl⟩
set_option maxHeartbeats 400000 in
theorem asked4 (w : World) (B : Nat) (s : Bool) (e f : Nat) (h : Lies w B s e f) (b : Bool) (hb : decide (e = 0) = b) :
    Calls Try.prog 56 #[.pointer (some ⟨B, 0, none⟩)] w fun en w' => en = .returned (.bool b) ∧ w' = w := by
  obtain ⟨h0, h1, h2⟩ := h
  have k1 : ((e : Int) == 0) = b := by rw [← hb, Bool.eq_iff_iff]; simp
  clear hb
  go_enter Try.func56, Try.ntmps56
  go_wp2
  go_ret
  exact ⟨rfl, rfl⟩

theorem run_index_arr {P : Program} (w : World) (t e : TypeId) (n : Nat) (cs : Array Value) (i : Nat) (v : Value) (h : P.underlying t = some (.array n e)) (ha : (isAgg e).run P w = .ok false w) (hs : (sizeOf e).run P w = .ok 1 w)
    (hi : i < n) (hv : cs[i]? = some v) : (Instr.index t (.agg cs) (.int .i64 i)).run P w = .ok v w := by
  simp [Instr.index, run_underlying h, asIntOf, hi, go_sem, part, ha, hs, hv]
abbrev askV (B : Nat) : Array Value := #[.func (.func 53) #[] #[.pointer (some ⟨B, 0, none⟩)], .func (.func 54) #[] #[.pointer (some ⟨B, 0, none⟩)], .func (.func 55) #[] #[.pointer (some ⟨B, 0, none⟩)], .func (.func 56) #[] #[.pointer (some ⟨B, 0, none⟩)]]
theorem index1 (B : Nat) (W : World) : (Instr.index 93 (.agg #[.func (.func 53) #[] #[.pointer (some ⟨B, 0, none⟩)], .func (.func 54) #[] #[.pointer (some ⟨B, 0, none⟩)], .func (.func 55) #[] #[.pointer (some ⟨B, 0, none⟩)], .func (.func 56) #[] #[.pointer (some ⟨B, 0, none⟩)]]) (.int .i64 0)).run Try.prog W = .ok (.func (.func 53) #[] #[.pointer (some ⟨B, 0, none⟩)]) W :=
  run_index_arr W _ _ 4 (askV B) 0 _ Try.underlying93 (Try.isAgg23 W) (Try.sizeOf23 W) (by decide) rfl
theorem index2 (B : Nat) (W : World) : (Instr.index 93 (.agg #[.func (.func 53) #[] #[.pointer (some ⟨B, 0, none⟩)], .func (.func 54) #[] #[.pointer (some ⟨B, 0, none⟩)], .func (.func 55) #[] #[.pointer (some ⟨B, 0, none⟩)], .func (.func 56) #[] #[.pointer (some ⟨B, 0, none⟩)]]) (.int .i64 1)).run Try.prog W = .ok (.func (.func 54) #[] #[.pointer (some ⟨B, 0, none⟩)]) W :=
  run_index_arr W _ _ 4 (askV B) 1 _ Try.underlying93 (Try.isAgg23 W) (Try.sizeOf23 W) (by decide) rfl
theorem index3 (B : Nat) (W : World) : (Instr.index 93 (.agg #[.func (.func 53) #[] #[.pointer (some ⟨B, 0, none⟩)], .func (.func 54) #[] #[.pointer (some ⟨B, 0, none⟩)], .func (.func 55) #[] #[.pointer (some ⟨B, 0, none⟩)], .func (.func 56) #[] #[.pointer (some ⟨B, 0, none⟩)]]) (.int .i64 2)).run Try.prog W = .ok (.func (.func 55) #[] #[.pointer (some ⟨B, 0, none⟩)]) W :=
  run_index_arr W _ _ 4 (askV B) 2 _ Try.underlying93 (Try.isAgg23 W) (Try.sizeOf23 W) (by decide) rfl
theorem index4 (B : Nat) (W : World) : (Instr.index 93 (.agg #[.func (.func 53) #[] #[.pointer (some ⟨B, 0, none⟩)], .func (.func 54) #[] #[.pointer (some ⟨B, 0, none⟩)], .func (.func 55) #[] #[.pointer (some ⟨B, 0, none⟩)], .func (.func 56) #[] #[.pointer (some ⟨B, 0, none⟩)]]) (.int .i64 3)).run Try.prog W = .ok (.func (.func 56) #[] #[.pointer (some ⟨B, 0, none⟩)]) W :=
  run_index_arr W _ _ 4 (askV B) 3 _ Try.underlying93 (Try.isAgg23 W) (Try.sizeOf23 W) (by decide) rfl
attribute [local go_sem] index1 index2 index3 index4

/-- The kind of what has these parts. -/
def kindP (e f : Nat) : Int := if e = 2047 then (if f = 0 then 2 else 1) else if e = 0 then (if f = 0 then 3 else 4) else 5
theorem kindP_F (b : Nat) : kindP (expo b) (frac b) = kindF b := by unfold kindP kindF; rfl
abbrev readV (s : Bool) (e f : Nat) (k : Int) : Value := .agg #[.bool s, .int .i64 e, .int .u64 f, .int .i64 k]

set_option maxRecDepth 100000 in
set_option maxHeartbeats 2000000 in
theorem kindOf_any (s : Bool) (e f : Nat) (k : Int) (w : World) : Calls Try.prog 43 #[readV s e f k] w (Ret w (.int .i64 (kindP e f))) := by
  unfold kindP
  by_cases g : e = 2047
  · rw [if_pos g]
    by_cases k0 : f = 0
    · rw [if_pos k0]
      have A1 := Lib.hid (fun W B (h : Lies W B s e f) => asked1 W B s e f h false (by simp [k0]))
      have A2 := Lib.hid (fun W B (h : Lies W B s e f) => asked2 W B s e f h true (by simp [g]))
      clear g k0
      go_enter Try.func43, Try.ntmps43
      go_wp2_with fail
      refine wp_loop_rounds 5 ?_
      rw [rounds_succ]
      go_wp2_with fail
      refine (A1.out _ w.heap.size ?_).mono ?_
      · exact ⟨by simp [go_sem], by simp [go_sem], by simp [go_sem]⟩
      rintro en w1 ⟨rfl, rfl⟩
      go_wp2_with fail
      rw [rounds_succ]
      go_wp2_with fail
      refine (A2.out _ w.heap.size ?_).mono ?_
      · exact ⟨by simp [go_sem], by simp [go_sem], by simp [go_sem]⟩
      rintro en w1 ⟨rfl, rfl⟩
      go_wp2_with fail
      go_ret
      exact ⟨rfl, by go_grown⟩
    · rw [if_neg k0]
      have A1 := Lib.hid (fun W B (h : Lies W B s e f) => asked1 W B s e f h true (by simp [g, k0]))
      clear g k0
      go_enter Try.func43, Try.ntmps43
      go_wp2_with fail
      refine wp_loop_rounds 5 ?_
      rw [rounds_succ]
      go_wp2_with fail
      refine (A1.out _ w.heap.size ?_).mono ?_
      · exact ⟨by simp [go_sem], by simp [go_sem], by simp [go_sem]⟩
      rintro en w1 ⟨rfl, rfl⟩
      go_wp2_with fail
      go_ret
      exact ⟨rfl, by go_grown⟩
  · rw [if_neg g]
    have A1 := Lib.hid (fun W B (h : Lies W B s e f) => asked1 W B s e f h false (by simp [g]))
    have A2 := Lib.hid (fun W B (h : Lies W B s e f) => asked2 W B s e f h false (by simp [g]))
    by_cases e0 : e = 0
    · rw [if_pos e0]
      by_cases k0 : f = 0
      · rw [if_pos k0]
        have A3 := Lib.hid (fun W B (h : Lies W B s e f) => asked3 W B s e f h true (by simp [e0, k0]))
        clear g k0 e0
        go_enter Try.func43, Try.ntmps43
        go_wp2_with fail
        refine wp_loop_rounds 5 ?_
        rw [rounds_succ]
        go_wp2_with fail
        refine (A1.out _ w.heap.size ?_).mono ?_
        · exact ⟨by simp [go_sem], by simp [go_sem], by simp [go_sem]⟩
        rintro en w1 ⟨rfl, rfl⟩
        go_wp2_with fail
        rw [rounds_succ]
        go_wp2_with fail
        refine (A2.out _ w.heap.size ?_).mono ?_
        · exact ⟨by simp [go_sem], by simp [go_sem], by simp [go_sem]⟩
        rintro en w1 ⟨rfl, rfl⟩
        go_wp2_with fail
        rw [rounds_succ]
        go_wp2_with fail
        refine (A3.out _ w.heap.size ?_).mono ?_
        · exact ⟨by simp [go_sem], by simp [go_sem], by simp [go_sem]⟩
        rintro en w1 ⟨rfl, rfl⟩
        go_wp2_with fail
        go_ret
        exact ⟨rfl, by go_grown⟩
      · rw [if_neg k0]
        have A3 := Lib.hid (fun W B (h : Lies W B s e f) => asked3 W B s e f h false (by simp [k0]))
        have A4 := Lib.hid (fun W B (h : Lies W B s e f) => asked4 W B s e f h true (by simp [e0]))
        clear g k0 e0
        go_enter Try.func43, Try.ntmps43
        go_wp2_with fail
        refine wp_loop_rounds 5 ?_
        rw [rounds_succ]
        go_wp2_with fail
        refine (A1.out _ w.heap.size ?_).mono ?_
        · exact ⟨by simp [go_sem], by simp [go_sem], by simp [go_sem]⟩
        rintro en w1 ⟨rfl, rfl⟩
        go_wp2_with fail
        rw [rounds_succ]
        go_wp2_with fail
        refine (A2.out _ w.heap.size ?_).mono ?_
        · exact ⟨by simp [go_sem], by simp [go_sem], by simp [go_sem]⟩
        rintro en w1 ⟨rfl, rfl⟩
        go_wp2_with fail
        rw [rounds_succ]
        go_wp2_with fail
        refine (A3.out _ w.heap.size ?_).mono ?_
        · exact ⟨by simp [go_sem], by simp [go_sem], by simp [go_sem]⟩
        rintro en w1 ⟨rfl, rfl⟩
        go_wp2_with fail
        rw [rounds_succ]
        go_wp2_with fail
        refine (A4.out _ w.heap.size ?_).mono ?_
        · exact ⟨by simp [go_sem], by simp [go_sem], by simp [go_sem]⟩
        rintro en w1 ⟨rfl, rfl⟩
        go_wp2_with fail
        go_ret
        exact ⟨rfl, by go_grown⟩
    · rw [if_neg e0]
      have A3 := Lib.hid (fun W B (h : Lies W B s e f) => asked3 W B s e f h false (by simp [e0]))
      have A4 := Lib.hid (fun W B (h : Lies W B s e f) => asked4 W B s e f h false (by simp [e0]))
      clear g e0
      go_enter Try.func43, Try.ntmps43
      go_wp2_with fail
      refine wp_loop_rounds 5 ?_
      rw [rounds_succ]
      go_wp2_with fail
      refine (A1.out _ w.heap.size ?_).mono ?_
      · exact ⟨by simp [go_sem], by simp [go_sem], by simp [go_sem]⟩
      rintro en w1 ⟨rfl, rfl⟩
      go_wp2_with fail
      rw [rounds_succ]
      go_wp2_with fail
      refine (A2.out _ w.heap.size ?_).mono ?_
      · exact ⟨by simp [go_sem], by simp [go_sem], by simp [go_sem]⟩
      rintro en w1 ⟨rfl, rfl⟩
      go_wp2_with fail
      rw [rounds_succ]
      go_wp2_with fail
      refine (A3.out _ w.heap.size ?_).mono ?_
      · exact ⟨by simp [go_sem], by simp [go_sem], by simp [go_sem]⟩
      rintro en w1 ⟨rfl, rfl⟩
      go_wp2_with fail
      rw [rounds_succ]
      go_wp2_with fail
      refine (A4.out _ w.heap.size ?_).mono ?_
      · exact ⟨by simp [go_sem], by simp [go_sem], by simp [go_sem]⟩
      rintro en w1 ⟨rfl, rfl⟩
      go_wp2_with fail
      rw [rounds_succ]
      go_wp2_with fail
      go_ret
      exact ⟨rfl, by go_grown⟩
end Go.Proofs.Ytinppckjolkhpaa
