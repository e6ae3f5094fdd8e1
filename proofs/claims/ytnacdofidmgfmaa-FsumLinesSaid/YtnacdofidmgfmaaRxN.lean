/-
  Layer 6, the document's own answers: the numbers of a round have few digits. Conditions: what may be asked for.
-/
import Derived.Test.YtnacdofidmgfmaaRxA
import Derived.Test.YtnacdofidmgfmaaFsJ
import Derived.Test.YtnacdofidmgfmaaLdC
namespace Go.Proofs.Ytnacdofidmgfmaa
open Go.RowKit

theorem numZ_zero (w : World) : NumZ w (.agg #[.bool false, .slice none 0 0]) 0 := ⟨.slice none 0 0, rfl, none, 0, by rw [show (0 : Int).natAbs = 0 from rfl, sizeL_zero]; rfl, ⟨by rw [show (0 : Int).natAbs = 0 from rfl, sizeL_zero]; simp, fun _ => rfl⟩, fun k hk => by rw [show (0 : Int).natAbs = 0 from rfl, sizeL_zero] at hk; simp at hk⟩
/-- The numbers of the rounds have few digits. -/
structure Short (a b m : Int) (k : Nat) : Prop where
  x : (sizeL (a * k + b).natAbs).length ≤ 130
  s : (sizeL (floorS k a b m).natAbs).length ≤ 130
  l : (sizeL (restS k a b m).natAbs).length ≤ 130
  q : (sizeL ((a * k + b) / m).natAbs).length ≤ 130
  r : (sizeL ((a * k + b) % m).natAbs).length ≤ 130
theorem short {a b m : Int} {k : Nat} (hk : k ≤ 256) (ha : termB a = true) (hb : termB b = true) (hm0 : 1 ≤ m) (hm1 : m ≤ 281474976710656) : Short a b m k := by
  have ta := (termB_iff a).1 ha
  have tb := (termB_iff b).1 hb
  have ma := mul_in ta ⟨(show (0 : Int) ≤ k by omega), (show (k : Int) ≤ 256 by omega)⟩ (by omega)
  have fs := (room hk ha hb hm0).all
  have rb := rest_bounds hm0 k a b
  have rc : (k : Int) * (m - 1) ≤ 256 * 281474976710656 := Int.mul_le_mul (by omega) (by omega) (by omega) (by omega)
  have fx : Fits (a * k + b) := by unfold Fits; omega
  have fq : Fits ((a * k + b) / m) := div_fits fx (by omega)
  have r0 := Int.emod_nonneg (a * k + b) (show m ≠ 0 by omega)
  have r1 := Int.emod_lt_of_pos (a * k + b) (show 0 < m by omega)
  exact ⟨fits_len fx, fits_len fs, fits_len (by unfold Fits; omega), fits_len fq, fits_len (by unfold Fits; omega)⟩
/-- A round is left fewer. (Shown apart: within a long walk the kernel wants too much memory for it.) -/
theorem fewer_left {N k : Nat} (wk : wrap64 ((k : Int) + 1) = (k : Int) + 1) (gk : k < N) : N - (intOf (.int .i64 (wrap64 ((k : Int) + 1)))).toNat < N - (intOf (.int .i64 (k : Int))).toNat := by
  rw [wk]; simp [intOf]; omega
end Go.Proofs.Ytnacdofidmgfmaa
