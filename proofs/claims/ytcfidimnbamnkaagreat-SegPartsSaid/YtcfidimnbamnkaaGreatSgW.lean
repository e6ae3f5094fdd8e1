/-
 Layer 11: all points of a segment, in a row of their own (Points). Conditions: those written at each fact.
-/
import Derived.Test.YtcfidimnbamnkaaGreatSgV
import Derived.Test.YtcfidimnbamnkaaGreatSgO
import Derived.Test.YtcfidimnbamnkaaGreatNB
import Derived.RangeFuncNested
import Derived.Maps.AppendAt
import Derived.Maps.OwnIn
namespace Go.Proofs.YtcfidimnbamnkaaGreat.P11
open Go.RowKit Go.Shelf Go.Proofs.YtcfidimnbamnkaaGreat.P7
attribute [local go_sem] Oper.semAt_some

def flatP : List Pn → List Value
 | [] => []
 | p :: l => .int .i64 p.t :: .int .i64 p.v :: flatP l
theorem flatP_app : ∀ (l m : List Pn), flatP (l ++ m) = flatP l ++ flatP m
 | [], m => rfl
 | p :: l, m => by simp only [List.cons_append, flatP, flatP_app l m]
theorem infoPoint : (Tryz.prog.info? 53).map (fun i => (i.zero, i.size, i.bytes)) = some (some (.agg #[.int .i64 0, .int .i64 0]), 2, 16) := by kernel_rfl
def PointAt (W : World) (B : Nat) (t v : Int) : Prop := W.heap[B]? = some (.cells #[.int .i64 t, .int .i64 v] 53 (0, 0))
theorem PointAt.cells {W : World} {B : Nat} {t v : Int} (h : PointAt W B t v) : W.cell? ⟨B, 0, none⟩ = some (.int .i64 t) ∧ W.cell? ⟨B, 1, none⟩ = some (.int .i64 v) ∧ B < W.heap.size := by
 have e : W.heap[B]? = _ := h
 exact ⟨by simp [World.cell?, e], by simp [World.cell?, e], (Array.getElem?_eq_some_iff.1 e).1⟩
theorem new_cells2 {W : World} {a b : Value} {t : TypeId} {n : Nat} (hn : n = W.heap.size) : ∀ (j : Nat) (u : Value), [a, b][j]? = some u → (W.alloc (.cells #[a, b] t)).cell? ((⟨n, 0, none⟩ : Addr).add j) = some u := by
 subst hn
 intro j u h
 match j, h with
 | 0, h => cases h; simp [Addr.add, go_sem]
 | 1, h => cases h; simp [Addr.add, go_sem]
 | j + 2, h => simp at h
theorem own_slw {w : World} {B : Nat} {e : TypeId} {s n : Nat} {v : Value} {xs : List Value} (h : w.ownsRow B e s v n xs) : ∃ A m c, v = .slice A m c := by
 rcases h.2 with ⟨rfl, _⟩ | ⟨g, cap, cur, rfl, _⟩
 ·exact ⟨_, _, _, rfl⟩
 ·exact ⟨_, _, _, rfl⟩
end Go.Proofs.YtcfidimnbamnkaaGreat.P11
