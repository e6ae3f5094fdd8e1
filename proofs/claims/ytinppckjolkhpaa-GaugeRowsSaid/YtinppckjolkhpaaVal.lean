/-
  Layer 3: a reading's digits, moved. Conditions: those written at each fact.
-/
import Derived.Test.YtinppckjolkhpaaCut
import Derived.StillTactics
namespace Go.Proofs.Ytinppckjolkhpaa
open Go.RowKit Go.Shelf

theorem len_any (x : Nat) (hx : x < 18446744073709551616) (w : World) : Calls Try.prog 46 #[.int .u64 x] w fun e w' => e = .returned (.int .i64 (Lib.bitLen x)) ∧ w' = w := by
  have h := Try.bits_Len64 x w (by omega) (by omega)
  rwa [show ((x : Int)).toNat = x from rfl] at h
set_option maxRecDepth 100000 in
set_option maxHeartbeats 1000000 in
theorem shifted_neg (x n : Nat) (hx : x < 18446744073709551616) (h1 : 1 ≤ n) (h2 : n ≤ 2000) (w : World) :
    Calls Try.prog 45 #[.int .u64 x, .int .i64 (-(n : Int))] w (Ret w (.tuple #[.int .u64 (cutN x n), .bool true])) := by
  have g1 : -(n : Int) < 0 := by omega
  have g2 : - -(n : Int) = (n : Int) := by omega
  have g3 : IntKind.i64.wrap (n : Int) = (n : Int) := by rw [IntKind.wrap_i64]; omega
  have C := Lib.hid (fun W => cutOff_any x n hx h1 W)
  clear hx
  go_enter Try.func45, Try.ntmps45
  go_wp2_with fail
  refine (C.out _).mono ?_
  rintro e w1 ⟨rfl, hb⟩
  have HB := Lib.hid hb
  clear hb g2 g3
  go_wp2_with fail
  go_ret2
  exact ⟨rfl, HB.out⟩
set_option maxRecDepth 100000 in
set_option maxHeartbeats 1000000 in
theorem shifted_pos (x p : Nat) (hx : x < 18446744073709551616) (h2 : p ≤ 2000) (b : Bool) (hb : decide (Lib.bitLen x + p ≤ 64) = b) (w : World) :
    Calls Try.prog 45 #[.int .u64 x, .int .i64 (p : Int)] w (Ret w (.tuple #[.int .u64 (IntKind.u64.wrap ((x : Int) * 2 ^ min p 64)), .bool b])) := by
  have g1 : ¬ (p : Int) < 0 := by omega
  have L := Lib.hid (fun W => len_any x hx W)
  have hl := bitLen_64 x hx
  clear hx
  obtain ⟨k, hk⟩ : ∃ k, Lib.bitLen x = k := ⟨_, rfl⟩
  rw [hk] at L hb hl
  clear hk
  obtain ⟨y, hy⟩ : ∃ y, IntKind.u64.wrap ((x : Int) * 2 ^ min p 64) = y := ⟨_, rfl⟩
  rw [hy]
  have g4 : ((p : Int)).toNat = p := rfl
  have g5 : IntKind.i64.wrap ((k : Int) + (p : Int)) = (k : Int) + (p : Int) := by rw [IntKind.wrap_i64]; omega
  have g6 : decide ((k : Int) + (p : Int) ≤ 64) = b := by rw [← hb]; exact decide_eq_decide.2 (by omega)
  clear hb
  go_enter Try.func45, Try.ntmps45
  go_wp2_with fail
  go_quiet ((go_at_call 46; exact Calls.quiet_of_same (L.out _)))
  go_wp2_with fail
  go_ret2
  exact ⟨rfl, drewN_below (Below.refl _ _) _⟩
end Go.Proofs.Ytinppckjolkhpaa
