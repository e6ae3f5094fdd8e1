/-
  The document's own answers for layer 5: a line's value, and whether its exact one is in a span. Conditions: the numbers are of 64 bits.
-/
import Derived.Test.YtmdhgiaaofdjiaaGreatLdB
namespace Go.Proofs.YtmdhgiaaofdjiaaGreat
open Go.RowKit

theorem divD_any (x d : Int) (hd : 1 ≤ d) (hx : (sizeL x.natAbs).length ≤ 3980) (hy : (sizeL d.natAbs).length ≤ 3980) (v v' : Value) (w : World) (h : NumZ w v x) (h' : NumZ w v' d) : Calls Tryz.prog 97 #[v, v'] w (RetZZ w (x / d) (x % d)) := by
  obtain ⟨m, rfl⟩ : ∃ m : Nat, d = m := ⟨d.toNat, by omega⟩
  exact divZ_any x m (by omega) hx (by simpa using hy) v v' w h h'
theorem abs_div_le {x d : Int} (hd : 1 ≤ d) : (x / d).natAbs ≤ x.natAbs := by
  have h1 := Int.mul_ediv_add_emod x d
  have h2 := Int.emod_nonneg x (show d ≠ 0 by omega)
  have h3 := Int.emod_lt_of_pos x (show 0 < d by omega)
  generalize x / d = q at *
  generalize x % d = r at *
  by_cases g : 0 ≤ q
  · have : 1 * q ≤ d * q := Int.mul_le_mul_of_nonneg_right hd g
    omega
  · have e : d * q = d * (q + 1) - d := by rw [Int.mul_add]; omega
    have : d * (q + 1) ≤ 1 * (q + 1) := by
      have := Int.mul_le_mul_of_nonpos_right hd (show q + 1 ≤ 0 by omega)
      exact this
    omega
end Go.Proofs.YtmdhgiaaofdjiaaGreat
