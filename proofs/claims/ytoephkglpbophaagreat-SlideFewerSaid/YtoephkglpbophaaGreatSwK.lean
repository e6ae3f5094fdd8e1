/-
  Layer 9: swing: the parts of bands, and their doors. Conditions: those written at each fact.
-/
import Derived.Test.YtoephkglpbophaaGreatSwJ
import Derived.Test.YtoephkglpbophaaGreatHA
namespace Go.Proofs.YtoephkglpbophaaGreat.P9
open Go.RowKit Go.Shelf Go.Proofs.YtoephkglpbophaaGreat.P8

theorem firN_cons (b : Bd) (t : List Bd) : firN (b :: t) = goS (open0 b) t + 1 := by
  rw [firN, goS, step_own, open_unshut, if_neg (by simp)]
/-- The parts of bands, each with its door. -/
def partsS : List Bd → List (List Bd × Dr)
  | [] => []
  | b :: t => ((b :: t).take (firN (b :: t)), firX (b :: t)) :: partsS (t.drop (goS (open0 b) t))
termination_by l => l.length
decreasing_by simp; omega
theorem partsS_nil : partsS [] = [] := by rw [partsS]
theorem partsS_next {l : List Bd} (hne : l ≠ []) : partsS l = (l.take (firN l), firX l) :: partsS (l.drop (firN l)) := by
  obtain ⟨b, t, rfl⟩ := List.exists_cons_of_ne_nil hne
  rw [partsS]
  congr 1
  rw [firN_cons, List.drop_succ_cons]
theorem firN_le {l : List Bd} (hne : l ≠ []) : 1 ≤ firN l ∧ firN l ≤ l.length := by
  obtain ⟨b, t, rfl⟩ := List.exists_cons_of_ne_nil hne
  exact ⟨goS_one b t, goS_le _ _⟩
def lenV : Value → Nat
  | .slice _ n _ => n
  | _ => 0
def rowS (l : List Bd) : List (List Bd × Dr) := if okD l then partsS l else []
def codeS (l : List Bd) : Int := if okD l then 0 else 180
/-- What the parts are told as: numbers, or lines. -/
def flatI : List (List Bd × Dr) → List Value
  | [] => []
  | p :: l => .int .i64 (p.1.length : Int) :: flatI l
def flatX : List (List Bd × Dr) → List Value
  | [] => []
  | p :: l => .int .i64 p.2.v :: .int .i64 0 :: .int .i64 (flatN p.2) :: .int .i64 (flatE p.2) :: flatX l
theorem flatI_app : ∀ l m : List (List Bd × Dr), flatI (l ++ m) = flatI l ++ flatI m
  | [], _ => rfl
  | p :: l, m => by simp [flatI, flatI_app l m]
set_option maxHeartbeats 1000000 in
theorem tellI_any (A : Option Addr) (n c : Nat) (x : Dr) (W : World) : Calls Tryz.prog 25 #[.slice A n c, drV x] W (Ret W (.int .i64 (n : Int))) := by
  go_enter Tryz.func25, Tryz.ntmps25
  go_wp2_with fail
  go_returns
  exact ⟨rfl, below_alloc W _⟩
end Go.Proofs.YtoephkglpbophaaGreat.P9
