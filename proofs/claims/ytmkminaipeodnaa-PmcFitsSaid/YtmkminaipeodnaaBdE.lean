/-
  Layer 8: pmc: the parts of bands, one by one. Conditions: those written at each fact.
-/
import Derived.Test.YtmkminaipeodnaaBdD
import Derived.Test.YtmkminaipeodnaaRgC
import Derived.Shelf.RegionOpen
namespace Go.Proofs.Ytmkminaipeodnaa.P8
open Go.RowKit Go.Shelf
attribute [local go_sem] Oper.semAt_some

/-- A part: from which band on, of how many, and what is common to them. -/
structure Pt where
  f : Nat
  n : Nat
  lo : Int
  hi : Int
/-- The parts of bands, from place k on. -/
def partsD : Nat → List Bd → List Pt
  | _, [] => []
  | k, b :: l => ⟨k, (goM b.lo b.hi l).1 + 1, (goM b.lo b.hi l).2.1, (goM b.lo b.hi l).2.2⟩ :: partsD (k + ((goM b.lo b.hi l).1 + 1)) (l.drop (goM b.lo b.hi l).1)
termination_by _ l => l.length
decreasing_by simp; omega
theorem partsD_nil (k : Nat) : partsD k [] = [] := by rw [partsD]
theorem partsD_cons (k : Nat) (b : Bd) (l : List Bd) : partsD k (b :: l) = ⟨k, (goM b.lo b.hi l).1 + 1, (goM b.lo b.hi l).2.1, (goM b.lo b.hi l).2.2⟩ :: partsD (k + ((goM b.lo b.hi l).1 + 1)) (l.drop (goM b.lo b.hi l).1) := by rw [partsD]
theorem goM_first {b : Bd} {l : List Bd} (h : BdOk b) : goM (-2305844108725321728) 2305844108725321728 (b :: l) = ((goM b.lo b.hi l).1 + 1, (goM b.lo b.hi l).2) := by
  obtain ⟨_, _, h1, h2, h3⟩ := h
  have e1 : max (-2305844108725321728) b.lo = b.lo := by omega
  have e2 : min 2305844108725321728 b.hi = b.hi := by omega
  rw [goM_next (by rw [e1, e2]; omega), e1, e2]

/-- The world of a range over the parts of bands: what it needs lies on. -/
structure Stand (X : World → Nat → Prop) (bb off c : Nat) (l : List Bd) (Bl : Nat) (W : World) : Prop where
  reads : ReadsD W (.slice (some ⟨bb, off, none⟩) l.length c) l
  low : bb < W.heap.size
  cells : ∃ o, W.heap[bb]? = some o ∧ o.isCells = true
  lies : ¬ X W bb
  box : Boxed W Bl 22 (.slice (some ⟨bb, off, none⟩) l.length c)
  boxes : ¬ X W Bl
theorem Stand.next {X : World → Nat → Prop} {bb off c Bl : Nat} {l : List Bd} {W W' : World} (h : Stand X bb off c l Bl W) (k : KeepsC X W W') : Stand X bb off c l Bl W' := by
  obtain ⟨o, ho, hoc⟩ := h.cells
  have hb := k.2.2 bb o ho hoc h.lies
  refine ⟨?_, Nat.lt_of_lt_of_le h.low k.1, ⟨o, hb, hoc⟩, fun hx => ?_, k.2.2 Bl _ h.box rfl h.boxes, fun hx => ?_⟩
  · obtain ⟨A', c', e, hc, hk⟩ := h.reads
    cases e
    refine ⟨_, c, rfl, hc, fun i r hi => ?_⟩
    obtain ⟨b, off', e1, e2, e3, e4, e5⟩ := hk i r hi
    cases e1
    have hb2 := hb.trans ho.symm
    exact ⟨bb, off, rfl, Nat.lt_of_lt_of_le e2 k.1, (World.cell?_of_block (w := W) hb2).trans e3, (World.cell?_of_block (w := W) hb2).trans e4, (World.cell?_of_block (w := W) hb2).trans e5⟩
  · rcases k.2.1 bb hx with h1 | h1
    · exact h.lies h1
    · have := h.low; omega
  · rcases k.2.1 Bl hx with h1 | h1
    · exact h.boxes h1
    · have := h.box.lt; omega
theorem ReadsD.drop {W : World} {bb off c : Nat} {l : List Bd} (h : ReadsD W (.slice (some ⟨bb, off, none⟩) l.length c) l) (k : Nat) (hk : k ≤ l.length) : ReadsD W (.slice (some ⟨bb, off + k * 3, none⟩) (l.length - k) (c - k)) (l.drop k) := by
  obtain ⟨A', c', e, hc, hr⟩ := h
  cases e
  refine ⟨_, c - k, by rw [List.length_drop], by rw [List.length_drop]; omega, fun i r hi => ?_⟩
  rw [List.getElem?_drop] at hi
  obtain ⟨b, off', e1, e2, e3, e4, e5⟩ := hr _ r hi
  cases e1
  have e : off + k * 3 + i * 3 = off + (k + i) * 3 := by omega
  exact ⟨bb, off + k * 3, rfl, e2, by rw [e]; exact e3, by rw [e]; exact e4, by rw [e]; exact e5⟩
/-- What the parts are handed over as. -/
def encP (bb off : Nat) (p : Pt) : Array Value := #[.slice (some ⟨bb, off + p.f * 3, none⟩) p.n p.n, spV p.lo p.hi]
set_option maxHeartbeats 1000000 in
theorem parts_any (v : Value) (w : World) (A : Option Addr) (n c : Nat) (hv : v = .slice A n c) :
    Calls Try.prog 38 #[v] w fun e w' => e = .returned (.func (.func 48) #[] #[.pointer (some ⟨w.heap.size, 0, none⟩)]) ∧ w' = w.alloc (.cells #[v] 22) := by
  subst hv
  have hmf : ∀ (fn : Fn) (first cap : Array Value) (w : World), (Instr.makeFunc fn first cap).run Try.prog w = .ok (.func fn first cap) w := fun _ _ _ _ => rfl
  go_enter Try.func38, Try.ntmps38
  go_wp2
  go_ret
  exact ⟨rfl, rfl⟩
end Go.Proofs.Ytmkminaipeodnaa.P8
