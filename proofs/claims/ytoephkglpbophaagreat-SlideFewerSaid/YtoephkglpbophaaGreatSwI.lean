/-
  Layer 9: swing: Hinge and Fit. Conditions: those written at each fact.
-/
import Derived.Test.YtoephkglpbophaaGreatSwH
namespace Go.Proofs.YtoephkglpbophaaGreat.P9
open Go.RowKit Go.Shelf Go.Proofs.YtoephkglpbophaaGreat.P8

/-- What Fit tells. -/
def fitE (l : List Bd) : Int := if okD l then (if firN l < l.length then 4 else 0) else 180
def fitA (l : List Bd) : Int := if fitE l = 0 then (firX l).v else 0
def fitN (l : List Bd) : Int := if fitE l = 0 then flatN (firX l) else 0
theorem field1 (t v : Int) (W : World) : (Instr.field 61 (hgV t v) 1).run Tryz.prog W = .ok (.int .i64 v) W :=
  run_field W _ _ _ 1 _ _ Tryz.underlying61 rfl (Tryz.isAgg2 W) rfl
theorem tv_step (x : Dr) (b : Bd) : (stepD x b).t = x.t ∧ (stepD x b).v = x.v := by
  unfold stepD
  split <;> exact ⟨rfl, rfl⟩
theorem tv_fold : ∀ (l : List Bd) (x : Dr), (fD x l).t = x.t ∧ (fD x l).v = x.v
  | [], _ => ⟨rfl, rfl⟩
  | b :: l, x => by
    have h := tv_fold l (stepD x b)
    obtain ⟨h1, h2⟩ := tv_step x b
    exact ⟨h.1.trans h1, h.2.trans h2⟩
theorem firX_ok {l : List Bd} (hne : l ≠ []) (hR : ∀ r ∈ l, BdOk r) : DrOk (firX l) := by
  cases l with
  | nil => exact absurd rfl hne
  | cons b l => exact fD_ok _ (open_ok (hR b (List.mem_cons_self ..))) (fun c hc => hR c (List.mem_of_mem_take hc))
theorem goS_open : ∀ (l : List Bd) (x : Dr), shutD x = false → shutD (fD x (l.take (goS x l))) = false
  | [], _, h => h
  | b :: l, x, h => by
    rw [goS]
    split
    · exact h
    · rename_i g
      exact goS_open l (stepD x b) (by simpa using g)
theorem firX_open {l : List Bd} (hne : l ≠ []) : shutD (firX l) = false := by
  cases l with
  | nil => exact absurd rfl hne
  | cons b l => exact goS_open (b :: l) (open0 b) (open_unshut b)
section
attribute [local go_sem] field1
end
end Go.Proofs.YtoephkglpbophaaGreat.P9
