/-
  The document's own answers for layer 9: Door. Conditions: those written at each fact.
-/
import Derived.Test.YtjioljgojfcckaaGreatSwV
namespace Go.Proofs.YtjioljgojfcckaaGreat.P9
open Go.RowKit Go.Shelf Go.Proofs.YtjioljgojfcckaaGreat.P8

/-- What is held of the door behind i bands. -/
def atD (b0 : Bd) (l : List Bd) (i : Nat) : Dr := fD (open0 b0) ((b0 :: l).take i)
theorem atD_next {b0 b : Bd} {l : List Bd} {i : Nat} (h : (b0 :: l)[i]? = some b) : atD b0 l (i + 1) = stepD (atD b0 l i) b := fD_next h _
theorem atD_ok {b0 : Bd} {l : List Bd} (hR : ∀ b ∈ b0 :: l, BdOk b) (i : Nat) : DrOk (atD b0 l i) :=
  fD_ok _ (open_ok (hR b0 (List.mem_cons_self ..))) (fun b h => hR b (List.mem_of_mem_take h))
theorem atD_tv (b0 : Bd) (l : List Bd) (i : Nat) : (atD b0 l i).t = b0.t ∧ (atD b0 l i).v = mid b0 := tv_fold _ _
theorem atD_two {b0 b : Bd} {l : List Bd} (hR : ∀ b ∈ b0 :: l, BdOk b) (h : (b0 :: l)[1]? = some b) (ht : b0.t < b.t) :
    atD b0 l 2 = ⟨b0.t, mid b0, slN b0.t (mid b0) b.t b.lo, slD b0.t (mid b0) b.t b.lo, slN b0.t (mid b0) b.t b.hi, slD b0.t (mid b0) b.t b.hi⟩ := by
  have e1 : atD b0 l 1 = open0 b0 := step_own b0
  rw [atD_next h, e1]
  exact step_first (hR b0 (List.mem_cons_self ..)) (hR b (List.mem_of_getElem? h)) ht
theorem atD_all (b0 : Bd) (l : List Bd) : atD b0 l (b0 :: l).length = allD (b0 :: l) := by
  unfold atD allD
  rw [List.take_length]
/-- A band more, as the document takes it. -/
theorem atD_more {b0 b : Bd} {l : List Bd} (hR : ∀ b ∈ b0 :: l, BdOk b) {i : Nat} (h : (b0 :: l)[i]? = some b) (ht : b0.t < b.t) :
    (atD b0 l (i + 1)).a = (if (atD b0 l i).a * slD b0.t (mid b0) b.t b.lo < slN b0.t (mid b0) b.t b.lo * (atD b0 l i).b then slN b0.t (mid b0) b.t b.lo else (atD b0 l i).a) ∧
    (atD b0 l (i + 1)).b = (if (atD b0 l i).a * slD b0.t (mid b0) b.t b.lo < slN b0.t (mid b0) b.t b.lo * (atD b0 l i).b then slD b0.t (mid b0) b.t b.lo else (atD b0 l i).b) ∧
    (atD b0 l (i + 1)).c = (if slN b0.t (mid b0) b.t b.hi * (atD b0 l i).d < (atD b0 l i).c * slD b0.t (mid b0) b.t b.hi then slN b0.t (mid b0) b.t b.hi else (atD b0 l i).c) ∧
    (atD b0 l (i + 1)).d = (if slN b0.t (mid b0) b.t b.hi * (atD b0 l i).d < (atD b0 l i).c * slD b0.t (mid b0) b.t b.hi then slD b0.t (mid b0) b.t b.hi else (atD b0 l i).d) := by
  obtain ⟨h1, h2⟩ := atD_tv b0 l i
  have hs := step_ref (atD_ok hR i) (hR b (List.mem_of_getElem? h)) (by rw [h1]; exact ht)
  rw [h1, h2] at hs
  rw [atD_next h, hs]
  exact ⟨rfl, rfl, rfl, rfl⟩
theorem I64_of_slope {n d : Int} (h : slopeB n d = true) : I64 n ∧ I64 d := by
  have := (slopeB_iff _ _).1 h
  unfold I64
  omega
/-- A band more: what the document's Door asks, and what it holds then. -/
theorem atD_less {b0 b : Bd} {l : List Bd} (hR : ∀ b ∈ b0 :: l, BdOk b) {i : Nat} (h : (b0 :: l)[i]? = some b) (ht : b0.t < b.t) :
    (I64 (atD b0 l i).a ∧ I64 (atD b0 l i).b ∧ I64 (atD b0 l i).c ∧ I64 (atD b0 l i).d) ∧
      (I64 (slN b0.t (mid b0) b.t b.lo) ∧ I64 (slD b0.t (mid b0) b.t b.lo)) ∧ (I64 (slN b0.t (mid b0) b.t b.hi) ∧ I64 (slD b0.t (mid b0) b.t b.hi)) := by
  have hx := atD_ok hR i
  have hb0 := hR b0 (List.mem_cons_self ..)
  have hb := hR b (List.mem_of_getElem? h)
  obtain ⟨h1, h2, h3⟩ := band_ok hb
  obtain ⟨g1, _, _⟩ := band_ok hb0
  have hm : backB (mid b0) = true := (open_ok hb0).v
  exact ⟨⟨(I64_of_slope hx.lo).1, (I64_of_slope hx.lo).2, (I64_of_slope hx.hi).1, (I64_of_slope hx.hi).2⟩, I64_of_slope (sl_ok hm h2 g1 h1 ht).1, I64_of_slope (sl_ok hm h3 g1 h1 ht).1⟩
end Go.Proofs.YtjioljgojfcckaaGreat.P9
