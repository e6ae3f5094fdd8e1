/-
  Layer 4: rows of spans, gone through. Conditions: those written at each fact.
-/
import Derived.Test.YtnacdofidmgfmaaSpA
import Derived.Test.YtnacdofidmgfmaaStruct
import Derived.Deep.QuietTactic
import Derived.BigQuiet
import Derived.WalkSmall
namespace Go.Proofs.Ytnacdofidmgfmaa
open Go.RowKit

/-- The slice v reads as these spans. -/
def ReadsS (w : World) (v : Value) (l : List (Int × Int)) : Prop :=
  ∃ A c, v = .slice A l.length c ∧ ∀ i s, l[i]? = some s → ∃ b off, A = some ⟨b, off, none⟩ ∧ b < w.heap.size ∧ w.cell? ⟨b, off + i * 2, none⟩ = some (.int .i64 s.1) ∧ w.cell? ⟨b, off + i * 2 + 1, none⟩ = some (.int .i64 s.2)
theorem ReadsS.below {w w' : World} {v : Value} {l : List (Int × Int)} (h : ReadsS w v l) (hb : Below w.heap.size w w') : ReadsS w' v l := by
  obtain ⟨A, c, e, hk⟩ := h
  refine ⟨A, c, e, fun i s hi => ?_⟩
  obtain ⟨b, off, e1, e2, e3, e4⟩ := hk i s hi
  exact ⟨b, off, e1, Nat.lt_of_lt_of_le e2 hb.size, (hb.cell (by exact e2)).trans e3, (hb.cell (by exact e2)).trans e4⟩
/-- May one of them not be? -/
def badS (l : List (Int × Int)) : Bool := l.any fun s => decide (s.2 < s.1)
/-- What a row of ends comes to. -/
def foldS (f : Int → Int → Int) (g : Int → Int → Int) (a : Int × Int) (l : List (Int × Int)) : Int × Int := l.foldl (fun m s => (f m.1 s.1, g m.2 s.2)) a
theorem foldS_next {f g : Int → Int → Int} {a s : Int × Int} {l : List (Int × Int)} {k : Nat} (h : l[k]? = some s) : foldS f g a (l.take (k + 1)) = (f (foldS f g a (l.take k)).1 s.1, g (foldS f g a (l.take k)).2 s.2) := by
  obtain ⟨a1, e1⟩ := List.getElem?_eq_some_iff.1 h
  rw [List.take_succ_eq_append_getElem a1, e1, foldS, foldS, List.foldl_append]
  rfl
theorem badS_next {s : Int × Int} {l : List (Int × Int)} {k : Nat} (h : l[k]? = some s) (h1 : badS (l.take k) = false) (h2 : ¬ s.2 < s.1) : badS (l.take (k + 1)) = false := by
  obtain ⟨a1, e1⟩ := List.getElem?_eq_some_iff.1 h
  unfold badS at *
  rw [List.take_succ_eq_append_getElem a1, e1, List.any_append, h1]
  simpa using h2
theorem badS_here {s : Int × Int} {l : List (Int × Int)} {k : Nat} (h : l[k]? = some s) (h2 : s.2 < s.1) : badS l = true := by
  obtain ⟨a1, e1⟩ := List.getElem?_eq_some_iff.1 h
  unfold badS
  rw [List.any_eq_true]
  exact ⟨s, e1 ▸ List.getElem_mem a1, by simpa using h2⟩

end Go.Proofs.Ytnacdofidmgfmaa
