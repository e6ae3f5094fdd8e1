/-
  Layer 2: the law VaryAlone, put together. Conditions: those written at each fact.
-/
import Derived.Test.YtahfopednhmbiaaAlone
namespace Go.Proofs.Ytahfopednhmbiaa
open Go.RowKit Go.Shelf

theorem alone_any (b : List Int) (hbl : b.length ≤ 9223372036854775807) (hbb : ∀ z ∈ b, 0 ≤ z ∧ z < 256) (a : Int) (n : Nat) (hn : n < 18446744073709551616) (v : Value) (w : World) (h : Reads .u8 w v b) :
    Calls Try.prog 7 #[v, .int .i64 a, .int .u64 n] w (Ret w (.bool true)) := by
  by_cases he : gotE (b.take 400) a = 0
  · by_cases hx : a < 0 ∨ ((b.take 400).length : Int) < a
    · have := (got_bad hx).2.2; rw [this] at he; cases he
    · obtain ⟨a', rfl⟩ : ∃ a' : Nat, a = a' := ⟨a.toNat, by omega⟩
      exact alone_ok b hbl hbb a' n hn v w h (by omega) he
  · exact alone_err b hbl hbb a n hn v w h he
end Go.Proofs.Ytahfopednhmbiaa
