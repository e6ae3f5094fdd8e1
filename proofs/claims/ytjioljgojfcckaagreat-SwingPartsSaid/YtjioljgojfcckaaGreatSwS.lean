/-
  Layer 9: swing: Door. Conditions: those written at each fact.
-/
import Derived.Test.YtjioljgojfcckaaGreatSwO
namespace Go.Proofs.YtjioljgojfcckaaGreat.P9
open Go.RowKit Go.Shelf Go.Proofs.YtjioljgojfcckaaGreat.P8

theorem fD_next {l : List Bd} {k : Nat} {b : Bd} (h : l[k]? = some b) (x : Dr) : fD x (l.take (k + 1)) = stepD (fD x (l.take k)) b := by
  rw [List.take_add_one, h]
  unfold fD
  rw [List.foldl_append]
  rfl
theorem run_field_agg {P : Program} (w : World) (t : TypeId) (fields : Array Field) (cs : Array Value) (i s : Nat) (f : Field) (vs : Array Value) (h : P.underlying t = some (.struct fields)) (hf : fields[i]? = some f) (ha : (isAgg f.type).run P w = .ok true w) (hs : (sizeOf f.type).run P w = .ok s w)
    (hv : cs.extract f.offset (f.offset + s) = vs) : (Instr.field t (.agg cs) i).run P w = .ok (.agg vs) w := by
  simp [Instr.field, run_underlying h, hf, asAgg, part, ha, hs, hv, go_sem]
theorem field_ends (x : Dr) (W : World) : (Instr.field 52 (drV x) 1).run Tryz.prog W = .ok (arV x.a x.b x.c x.d) W :=
  run_field_agg W _ _ _ 1 4 _ _ Tryz.underlying52 rfl (Tryz.isAgg50 W) (Tryz.sizeOf50 W) rfl
/-- What Door tells. -/
def allD : List Bd → Dr
  | [] => ⟨0, 0, 0, 0, 0, 0⟩
  | b :: l => fD (open0 b) (b :: l)
section
attribute [local go_sem] field_ends
end
end Go.Proofs.YtjioljgojfcckaaGreat.P9
