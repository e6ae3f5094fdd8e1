/-
  Layer 8: pmc: what is common to bands takes one more. Conditions: those written at each fact.
-/
import Derived.Test.YtmkminaipeodnaaBdB
namespace Go.Proofs.Ytmkminaipeodnaa.P8
open Go.RowKit

/-- What is common, at block C. -/
def Com (W : World) (C : Nat) (lo hi : Int) : Prop := W.heap[C]? = some (.cells #[.int .i64 lo, .int .i64 hi] 89 (0, 0))
theorem Com.lt {w : World} {G : Nat} {n s : Int} (h : Com w G n s) : G < w.heap.size := (Array.getElem?_eq_some_iff.1 h).1
theorem Com.cells {w : World} {G : Nat} {n s : Int} (h : Com w G n s) : w.cell? ⟨G, 0, none⟩ = some (.int .i64 n) ∧ w.cell? ⟨G, 1, none⟩ = some (.int .i64 s) ∧ w.frozen? ⟨G, 0, none⟩ = false ∧ w.frozen? ⟨G, 1, none⟩ = false := by
  have e : w.heap[G]? = _ := h
  simp [World.cell?, World.frozen?, e]
theorem Com.below {w w' : World} {G : Nat} {n s : Int} (h : Com w G n s) (hb : Below w.heap.size w w') : Com w' G n s := (hb.block G h.lt).trans h
theorem Com.set0 {w : World} {G : Nat} {n s : Int} (h : Com w G n s) (x : Int) : Com (w.setCell ⟨G, 0, none⟩ (.int .i64 x)) G x s := by
  obtain ⟨hlt, hk⟩ := Array.getElem?_eq_some_iff.1 h
  show (w.heap.modify G _)[G]? = _
  rw [Array.getElem?_eq_getElem (by rw [Array.size_modify]; exact hlt), Array.getElem_modify_self, hk]
  rfl
theorem Com.set1 {w : World} {G : Nat} {n s : Int} (h : Com w G n s) (x : Int) : Com (w.setCell ⟨G, 1, none⟩ (.int .i64 x)) G n x := by
  obtain ⟨hlt, hk⟩ := Array.getElem?_eq_some_iff.1 h
  show (w.heap.modify G _)[G]? = _
  rw [Array.getElem?_eq_getElem (by rw [Array.size_modify]; exact hlt), Array.getElem_modify_self, hk]
  rfl
/-- How many bands are taken, from what is common on; and what is common behind them. -/
def goM : Int → Int → List Bd → Nat × Int × Int
  | lo, hi, [] => (0, lo, hi)
  | lo, hi, b :: l => if min hi b.hi < max lo b.lo then (0, lo, hi) else ((goM (max lo b.lo) (min hi b.hi) l).1 + 1, (goM (max lo b.lo) (min hi b.hi) l).2)
/-- What take leaves. -/
def Took8 (w : World) (C : Nat) (r : Bool) (lo hi : Int) (e : Ending) (w' : World) : Prop := e = .returned (.bool r) ∧ Near C w w' ∧ Com w' C lo hi

set_option maxRecDepth 100000 in
set_option maxHeartbeats 2000000 in
theorem take_no (C : Nat) (lo hi : Int) (t a c : Int) (h : min hi c < max lo a) (w : World) (hC : Com w C lo hi) : Calls Try.prog 50 #[.pointer (some ⟨C, 0, none⟩), bandV ⟨t, a, c⟩] w (Took8 w C false lo hi) := by
  obtain ⟨k0, k1, f0, f1⟩ := hC.cells
  have hlt := hC.lt
  have HC := Lib.hid hC
  clear hC
  obtain ⟨M, hM⟩ : ∃ M, M = max lo a := ⟨_, rfl⟩
  obtain ⟨m, hm⟩ : ∃ m, m = min hi c := ⟨_, rfl⟩
  rw [← hM, ← hm] at h
  by_cases g1 : lo < a
  · have e1 : M = a := by omega
    by_cases g2 : c < hi
    · have e2 : m = c := by omega
      clear hM hm
      subst e1 e2
      go_enter Try.func50, Try.ntmps50
      go_wp2_with fail
      go_quiet (fail)
      go_wp2_with fail
      go_ret
      exact ⟨rfl, Near.of (below_drewN (below_alloc w _) _), HC.out.below (below_drewN (below_alloc w _) _)⟩
    · have e2 : m = hi := by omega
      clear hM hm
      subst e1 e2
      go_enter Try.func50, Try.ntmps50
      go_wp2_with fail
      go_quiet (fail)
      go_wp2_with fail
      go_ret
      exact ⟨rfl, Near.of (below_drewN (below_alloc w _) _), HC.out.below (below_drewN (below_alloc w _) _)⟩
  · have e1 : M = lo := by omega
    by_cases g2 : c < hi
    · have e2 : m = c := by omega
      clear hM hm
      subst e1 e2
      go_enter Try.func50, Try.ntmps50
      go_wp2_with fail
      go_quiet (fail)
      go_wp2_with fail
      go_ret
      exact ⟨rfl, Near.of (below_drewN (below_alloc w _) _), HC.out.below (below_drewN (below_alloc w _) _)⟩
    · have e2 : m = hi := by omega
      clear hM hm
      subst e1 e2
      go_enter Try.func50, Try.ntmps50
      go_wp2_with fail
      go_quiet (fail)
      go_wp2_with fail
      go_ret
      exact ⟨rfl, Near.of (below_drewN (below_alloc w _) _), HC.out.below (below_drewN (below_alloc w _) _)⟩

set_option maxRecDepth 100000 in
set_option maxHeartbeats 2000000 in
theorem take_yes (C : Nat) (lo hi : Int) (t a c : Int) (M m : Int) (hM : M = max lo a) (hm : m = min hi c) (h : ¬ m < M) (w : World) (hC : Com w C lo hi) : Calls Try.prog 50 #[.pointer (some ⟨C, 0, none⟩), bandV ⟨t, a, c⟩] w (Took8 w C true M m) := by
  obtain ⟨k0, k1, f0, f1⟩ := hC.cells
  have hlt := hC.lt
  have HC := Lib.hid hC
  clear hC
  by_cases g1 : lo < a
  · have e1 : M = a := by omega
    by_cases g2 : c < hi
    · have e2 : m = c := by omega
      clear hM hm
      subst e1 e2
      go_enter Try.func50, Try.ntmps50
      go_wp2_with fail
      go_quiet (fail)
      go_wp2_with fail
      go_ret
      exact ⟨rfl, ((Near.of (below_drewN (below_alloc w _) _)).set (p := ⟨C, 0, none⟩) (.inl rfl) _).set (p := ⟨C, 1, none⟩) (.inl rfl) _, ((HC.out.below (below_drewN (below_alloc w _) _)).set0 _).set1 _⟩
    · have e2 : m = hi := by omega
      clear hM hm
      subst e1 e2
      go_enter Try.func50, Try.ntmps50
      go_wp2_with fail
      go_quiet (fail)
      go_wp2_with fail
      go_ret
      exact ⟨rfl, ((Near.of (below_drewN (below_alloc w _) _)).set (p := ⟨C, 0, none⟩) (.inl rfl) _).set (p := ⟨C, 1, none⟩) (.inl rfl) _, ((HC.out.below (below_drewN (below_alloc w _) _)).set0 _).set1 _⟩
  · have e1 : M = lo := by omega
    by_cases g2 : c < hi
    · have e2 : m = c := by omega
      clear hM hm
      subst e1 e2
      go_enter Try.func50, Try.ntmps50
      go_wp2_with fail
      go_quiet (fail)
      go_wp2_with fail
      go_ret
      exact ⟨rfl, ((Near.of (below_drewN (below_alloc w _) _)).set (p := ⟨C, 0, none⟩) (.inl rfl) _).set (p := ⟨C, 1, none⟩) (.inl rfl) _, ((HC.out.below (below_drewN (below_alloc w _) _)).set0 _).set1 _⟩
    · have e2 : m = hi := by omega
      clear hM hm
      subst e1 e2
      go_enter Try.func50, Try.ntmps50
      go_wp2_with fail
      go_quiet (fail)
      go_wp2_with fail
      go_ret
      exact ⟨rfl, ((Near.of (below_drewN (below_alloc w _) _)).set (p := ⟨C, 0, none⟩) (.inl rfl) _).set (p := ⟨C, 1, none⟩) (.inl rfl) _, ((HC.out.below (below_drewN (below_alloc w _) _)).set0 _).set1 _⟩
end Go.Proofs.Ytmkminaipeodnaa.P8
