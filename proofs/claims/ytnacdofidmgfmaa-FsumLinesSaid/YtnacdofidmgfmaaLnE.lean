/-
  Layer 5: At and Within. Conditions: the numbers are of 64 bits.
-/
import Derived.Test.YtnacdofidmgfmaaLnD
namespace Go.Proofs.Ytnacdofidmgfmaa
open Go.RowKit

set_option maxRecDepth 100000 in
theorem unlessI_no (e : Int) (f : Value) (h : (e == 0) = false) (w : World) : Calls Try.prog 56 #[.int .i64 e, f] w (Ret w (.tuple #[.int .i64 0, .int .i64 e])) := by
  go_enter Try.func56, Try.ntmps56
  go_wp2
  go_returns
  exact ⟨rfl, by go_grown⟩
set_option maxRecDepth 100000 in
theorem unlessI_at (p1 p2 : Value) (q c : Int) (w : World) (C : ∀ W, Below w.heap.size w W → Calls Try.prog 58 #[p1, p2] W (Ret W (.tuple #[.int .i64 q, .int .i64 c]))) :
    Calls Try.prog 56 #[.int .i64 0, .func (.func 58) #[] #[p1, p2]] w (Ret w (.tuple #[.int .i64 q, .int .i64 c])) := by
  replace C := Lib.hid C
  go_enter Try.func56, Try.ntmps56
  go_wp2_with fail
  refine (C.out _ (by go_grown)).mono ?_
  rintro e w1 ⟨rfl, hb⟩
  go_wp2_with fail
  go_returns
  exact ⟨rfl, hb⟩
set_option maxRecDepth 100000 in
theorem at1_any (a r n d t : Int) (h : lineB a r n d = true) (B1 B2 : Nat) (w : World) (hc : Cells [(B1, 0, .int .i64 a), (B1, 1, .int .i64 r), (B1, 2, .int .i64 n), (B1, 3, .int .i64 d), (B2, 0, .int .i64 t)] w) :
    Calls Try.prog 58 #[.pointer (some ⟨B1, 0, none⟩), .pointer (some ⟨B2, 0, none⟩)] w (Ret w (.tuple #[.int .i64 (atQ a r n d t), .int .i64 (atE a r n d t)])) := by
  have AA := fun W => aat_any a r n d t h W
  generalize atQ a r n d t = q at *
  generalize atE a r n d t = c at *
  replace AA := Lib.hid AA
  clear h
  obtain ⟨⟨kz0, kc0, kf0⟩, ⟨kz1, kc1, kf1⟩, ⟨kz2, kc2, kf2⟩, ⟨kz3, kc3, kf3⟩, ⟨kz4, kc4, kf4⟩, _⟩ := hc
  go_enter Try.func58, Try.ntmps58
  go_wp2_with fail
  refine (AA.out _).mono ?_
  rintro e w1 ⟨rfl, hb⟩
  go_wp2_with fail
  go_returns
  exact ⟨rfl, hb⟩
/-- What At tells. -/
def tlQ (a r n d t : Int) : Int := if lineB a r n d then atQ a r n d t else 0
def tlE (a r n d t : Int) : Int := if lineB a r n d then atE a r n d t else 150
set_option maxRecDepth 100000 in
set_option maxHeartbeats 2000000 in
theorem at_any (a r n d t : Int) (w : World) :
    Calls Try.prog 23 #[lnV a r n d, .int .i64 t] w (Ret w (.tuple #[.int .i64 (tlQ a r n d t), .int .i64 (tlE a r n d t)])) := by
  have CK := fun W => lcheck_any a r n d W
  unfold tlQ tlE
  by_cases h : lineB a r n d = true
  · rw [if_pos h] at CK ⊢
    rw [if_pos h]
    have A1 := fun B1 B2 W k => at1_any a r n d t h B1 B2 W k
    generalize atQ a r n d t = q at *
    generalize atE a r n d t = c at *
    replace CK := Lib.hid CK
    replace A1 := Lib.hid A1
    have UN := Lib.hid (fun p1 p2 W k => unlessI_at p1 p2 q c W k)
    clear h
    go_enter Try.func23, Try.ntmps23
    go_wp2_with fail
    refine (CK.out _).mono ?_
    rintro e w1 ⟨rfl, hb⟩
    have hHeld : Keeps w [(w.heap.size, 0, .int .i64 a), (w.heap.size, 1, .int .i64 r), (w.heap.size, 2, .int .i64 n), (w.heap.size, 3, .int .i64 d), (w.heap.size + 1, 0, .int .i64 t)] _ := Keeps.next (by refine ⟨by go_grown, ?_⟩; simp [Cells, go_sem]) hb
    clear hb
    obtain ⟨⟨kz0, kc0, kf0⟩, ⟨kz1, kc1, kf1⟩, ⟨kz2, kc2, kf2⟩, ⟨kz3, kc3, kf3⟩, ⟨kz4, kc4, kf4⟩, _⟩ := hHeld.2
    go_wp2_with fail
    refine Calls.mono (UN.out _ _ _ ?_) ?_
    · intro W hW
      exact A1.out _ _ _ (hHeld.2.next hW)
    rintro e w2 ⟨rfl, hb⟩
    replace hHeld := Keeps.next (hHeld) hb
    clear hb kz0 kc0 kf0 kz1 kc1 kf1 kz2 kc2 kf2 kz3 kc3 kf3 kz4 kc4 kf4
    obtain ⟨⟨kz0, kc0, kf0⟩, ⟨kz1, kc1, kf1⟩, ⟨kz2, kc2, kf2⟩, ⟨kz3, kc3, kf3⟩, ⟨kz4, kc4, kf4⟩, _⟩ := hHeld.2
    go_wp2_with fail
    go_returns
    exact ⟨rfl, hHeld.1⟩
  · rw [if_neg h] at CK ⊢
    rw [if_neg h]
    replace CK := Lib.hid CK
    have UN := Lib.hid (fun f W => unlessI_no 150 f (by decide) W)
    clear h
    go_enter Try.func23, Try.ntmps23
    go_wp2_with fail
    refine (CK.out _).mono ?_
    rintro e w1 ⟨rfl, hb⟩
    have hHeld : Keeps w [(w.heap.size, 0, .int .i64 a), (w.heap.size, 1, .int .i64 r), (w.heap.size, 2, .int .i64 n), (w.heap.size, 3, .int .i64 d), (w.heap.size + 1, 0, .int .i64 t)] _ := Keeps.next (by refine ⟨by go_grown, ?_⟩; simp [Cells, go_sem]) hb
    clear hb
    obtain ⟨⟨kz0, kc0, kf0⟩, ⟨kz1, kc1, kf1⟩, ⟨kz2, kc2, kf2⟩, ⟨kz3, kc3, kf3⟩, ⟨kz4, kc4, kf4⟩, _⟩ := hHeld.2
    go_wp2_with fail
    refine (UN.out _ _).mono ?_
    rintro e w2 ⟨rfl, hb⟩
    replace hHeld := Keeps.next (hHeld) hb
    clear hb kz0 kc0 kf0 kz1 kc1 kf1 kz2 kc2 kf2 kz3 kc3 kf3 kz4 kc4 kf4
    obtain ⟨⟨kz0, kc0, kf0⟩, ⟨kz1, kc1, kf1⟩, ⟨kz2, kc2, kf2⟩, ⟨kz3, kc3, kf3⟩, ⟨kz4, kc4, kf4⟩, _⟩ := hHeld.2
    go_wp2_with fail
    go_returns
    exact ⟨rfl, hHeld.1⟩
def cmpI (x y : Int) : Int := if x = y then 0 else if x < y then -1 else 1
theorem compare_fits (x y : Int) (fx : Fits x) (fy : Fits y) (w : World) : Calls Try.prog 97 #[wideV (rhi x) (rlo x), wideV (rhi y) (rlo y)] w (Ret w (.int .i64 (cmpI x y))) := by
  have h := compare_any (rhi x) (rlo x) (rhi y) (rlo y) w
  have e : (if rhi x = rhi y ∧ rlo x = rlo y then (0 : Int) else if rhi x < rhi y ∨ rhi x = rhi y ∧ rlo x < rlo y then -1 else 1) = cmpI x y := by
    have e1 := val_r fx
    have e2 := val_r fy
    have u1 := rlo_u64 x
    have u2 := rlo_u64 y
    unfold val at e1 e2
    unfold U64 at u1 u2
    unfold cmpI
    generalize rhi x = a at *
    generalize rlo x = b at *
    generalize rhi y = c at *
    generalize rlo y = d at *
    by_cases g : a = c ∧ b = d
    · rw [if_pos g, if_pos (by omega)]
    · have ne : ¬ x = y := by omega
      by_cases g2 : a < c ∨ a = c ∧ b < d
      · have lt : x < y := by omega
        rw [if_neg g, if_pos g2, if_neg ne, if_pos lt]
      · have lt : ¬ x < y := by omega
        rw [if_neg g, if_neg g2, if_neg ne, if_neg lt]
  rw [← e]
  exact h
/-- What Within tells. -/
def wnB (a r n d t lo hi : Int) : Bool := (lineB a r n d && timeB t) && (decide (lo * d ≤ exV a r n d t) && decide (exV a r n d t ≤ hi * d))
theorem cmpI_le (x y : Int) : decide (cmpI x y ≤ 0) = decide (x ≤ y) := by
  unfold cmpI
  by_cases g : x = y
  · rw [if_pos g]; simp; omega
  · rw [if_neg g]
    by_cases g2 : x < y
    · rw [if_pos g2]; simp; omega
    · rw [if_neg g2]; simp; omega
end Go.Proofs.Ytnacdofidmgfmaa
