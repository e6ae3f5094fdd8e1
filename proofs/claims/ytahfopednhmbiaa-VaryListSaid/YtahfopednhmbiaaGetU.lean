/-
  Layer 2: GetU, Get. Conditions: those written at each fact.
-/
import Derived.Test.YtahfopednhmbiaaReadG
import Derived.Deep.QuietTactic
import Derived.BigQuiet
namespace Go.Proofs.Ytahfopednhmbiaa
open Go.RowKit Go.Shelf

/-- The number with a sign that has some number's bytes. -/
def unz (n : Int) : Int := if n % 2 = 0 then n / 2 else -(n / 2) - 1

set_option maxHeartbeats 400000 in
theorem plain_any (G : Nat) (n s : Int) (w : World) (hG : Gath w G n s) : Calls Try.prog 40 #[.pointer (some ⟨G, 0, none⟩)] w fun e w' => e = .returned (.int .u64 n) ∧ w' = w := by
  have h0 := hG.cell0
  go_enter Try.func40, Try.ntmps40
  go_wp2
  go_ret
  exact ⟨rfl, rfl⟩
set_option maxHeartbeats 400000 in
theorem signed_any (G : Nat) (n s : Int) (hn0 : 0 ≤ n) (hn : n < 18446744073709551616) (w : World) (hG : Gath w G n s) : Calls Try.prog 42 #[.pointer (some ⟨G, 0, none⟩)] w fun e w' => e = .returned (.int .i64 (unz n)) ∧ w' = w := by
  have h0 := hG.cell0
  by_cases g : n % 2 = 1
  · have t : (n % 2 == 1) = true := beq_iff_eq.2 g
    have E : Hid (bits .xor .i64 (-1) (n / 2) = unz n) := Lib.hid (by
      have e := Lib.i64_not (n / 2).toNat (by omega)
      rw [show (((n / 2).toNat : Nat) : Int) = n / 2 from by omega] at e
      rw [e, unz, if_neg (by omega)])
    clear g
    go_enter Try.func42, Try.ntmps42
    go_wp2
    go_ret
    exact ⟨by rw [← E.out]; rfl, rfl⟩
  · have t : (n % 2 == 1) = false := beq_eq_false_iff_ne.2 g
    have E : Hid (unz n = n / 2) := Lib.hid (by rw [unz, if_pos (by omega)])
    clear g
    go_enter Try.func42, Try.ntmps42
    go_wp2
    go_ret
    exact ⟨by rw [E.out]; rfl, rfl⟩

set_option maxRecDepth 100000 in
set_option maxHeartbeats 1000000 in
theorem read_bad (l : Nat) (a : Int) (ha : a < 0 ∨ (l : Int) < a) (g A : Option Addr) (c : Nat) (w : World) :
    Calls Try.prog 47 #[.pointer g, .slice A l c, .int .i64 a] w (Ret w (.int .i64 2)) := by
  by_cases g0 : a < 0
  · clear ha
    go_enter Try.func47, Try.ntmps47
    go_wp2_with fail
    go_step3
    go_wp2_with fail
    rw [Exit.noGoto_ret]
    go_ret
    exact ⟨rfl, by have := below_alloc w (.cells #[.pointer g] 64); exact this⟩
  · have g1 : (l : Int) < a := by omega
    clear ha
    go_enter Try.func47, Try.ntmps47
    go_wp2_with fail
    go_step3
    go_wp2_with fail
    rw [Exit.noGoto_ret]
    go_ret
    exact ⟨rfl, by have := below_alloc w (.cells #[.pointer g] 64); exact this⟩
end Go.Proofs.Ytahfopednhmbiaa
