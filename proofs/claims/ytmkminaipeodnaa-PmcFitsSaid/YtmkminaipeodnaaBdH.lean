/-
  Layer 8: pmc: Common, Fit and Longest. Conditions: those written at each fact.
-/
import Derived.Test.YtmkminaipeodnaaBdG
import Derived.Test.YtmkminaipeodnaaSpM
namespace Go.Proofs.Ytmkminaipeodnaa.P8
open Go.RowKit Go.Shelf

theorem makes_func (fn : Fn) (first cap : Array Value) (w : World) : (Instr.makeFunc fn first cap).run Try.prog w = .ok (.func fn first cap) w := rfl
/-- What Common, Longest and Fit tell. -/
def codeC (l : List Bd) : Int := if okD l then (if (firstD l).n < l.length then 181 else 0) else 180
def comLo (l : List Bd) : Int := if codeC l = 0 then (firstD l).lo else 0
def comHi (l : List Bd) : Int := if codeC l = 0 then (firstD l).hi else 0
def lenD (l : List Bd) : Int := if okD l then ((firstD l).n : Int) else 0
theorem okD_ne {l : List Bd} (h : okD l = true) : l ≠ [] := by
  rintro rfl
  simp [okD] at h
/-- A slice of bands that may be has a place. -/
theorem readsD_some {w : World} {A : Option Addr} {c : Nat} {l : List Bd} (h : ReadsD w (.slice A l.length c) l) (hne : l ≠ []) : ∃ bb off, A = some ⟨bb, off, none⟩ := by
  obtain ⟨_, _, e, _, hk⟩ := h
  cases e
  obtain ⟨r, l', rfl⟩ := List.exists_cons_of_ne_nil hne
  obtain ⟨bb, off, e1, _⟩ := hk 0 r rfl
  exact ⟨bb, off, e1⟩
set_option maxHeartbeats 1000000 in
theorem common1_any (l : List Bd) (hk : okD l = true) (v : Value) (W : World) (B : Nat) (hb : Boxed W B 22 v) (h : ReadsD W v l) :
    Calls Try.prog 28 #[.pointer (some ⟨B, 0, none⟩)] W (Ret W (.tuple #[spV (comLo l) (comHi l), .int .i64 (codeC l)])) := by
  obtain ⟨h1, h2, hR⟩ := okD_facts hk
  have hne := okD_ne hk
  have hr := h
  obtain ⟨A, c, rfl, _, _⟩ := h
  obtain ⟨bb, off, rfl⟩ := readsD_some hr hne
  have FA := Lib.hid (fun W' (hb' : Below W.heap.size W W') => first_any l (by omega) hR hne bb off c W' (hr.below hb'))
  have hc := hb.cell
  have hbl := hb.lt
  have HE : Hid (codeC l = (if (firstD l).n < l.length then 181 else 0) ∧ comLo l = (if codeC l = 0 then (firstD l).lo else 0) ∧ comHi l = (if codeC l = 0 then (firstD l).hi else 0)) := Lib.hid ⟨by simp [codeC, hk], rfl, rfl⟩
  clear hr hR h1 h2 hne hk hb
  generalize comLo l = x at *
  generalize comHi l = y at *
  generalize codeC l = e at *
  generalize firstD l = q at *
  obtain ⟨f, n, lo, hi⟩ := q
  simp only at FA HE
  by_cases g : n < l.length
  · have E : Hid (e = 181 ∧ x = 0 ∧ y = 0) := Lib.hid (by
      obtain ⟨h1, h2, h3⟩ := HE.out
      rw [if_pos g] at h1
      subst h1
      exact ⟨rfl, h2, h3⟩)
    have i1 : (n : Int) < (l.length : Int) := by omega
    clear HE
    go_enter Try.func28, Try.ntmps28
    go_wp2_with fail
    refine (FA.out _ (below_alloc W _)).mono ?_
    rintro en w1 ⟨rfl, hb1⟩
    have hHeld : Keeps W [(W.heap.size, 0, .int .i64 0), (W.heap.size, 1, .int .i64 0)] w1 := Keeps.next (by refine ⟨below_alloc W _, ?_⟩; simp [Cells, go_sem]) hb1
    have hc1 := (hHeld.1.cell (p := ⟨B, 0, none⟩) hbl).trans hc
    have hbl1 := Nat.lt_of_lt_of_le hbl hHeld.1.size
    have hBne : ¬ B = W.heap.size := by omega
    clear hb1
    obtain ⟨⟨kz0, kc0, kf0⟩, ⟨kz1, kc1, kf1⟩, _⟩ := hHeld.2
    go_wp2_with fail
    obtain ⟨d0, d1⟩ := set2 (W := w1) (B := W.heap.size) (u0 := .int .i64 0) (u1 := .int .i64 0) kc0 kc1
    refine bodyPost_ret (v := .tuple #[spV 0 0, .int .i64 181]) (by simp [results, Try.results28, go_sem, d0, d1, kz0]) rfl ?_
    exact ⟨by rw [E.out.1, E.out.2.1, E.out.2.2], under ((hHeld.1.setCell (p := ⟨W.heap.size, 0, none⟩) (Nat.le_refl _) _).setCell (p := ⟨W.heap.size, 1, none⟩) (Nat.le_refl _) _) (below_alloc _ _)⟩
  · have E : Hid (e = 0 ∧ x = lo ∧ y = hi) := Lib.hid (by
      obtain ⟨h1, h2, h3⟩ := HE.out
      rw [if_neg g] at h1
      subst h1
      exact ⟨rfl, h2, h3⟩)
    have i1 : ¬ (n : Int) < (l.length : Int) := by omega
    clear HE
    go_enter Try.func28, Try.ntmps28
    go_wp2_with fail
    refine (FA.out _ (below_alloc W _)).mono ?_
    rintro en w1 ⟨rfl, hb1⟩
    have hHeld : Keeps W [(W.heap.size, 0, .int .i64 0), (W.heap.size, 1, .int .i64 0)] w1 := Keeps.next (by refine ⟨below_alloc W _, ?_⟩; simp [Cells, go_sem]) hb1
    have hc1 := (hHeld.1.cell (p := ⟨B, 0, none⟩) hbl).trans hc
    have hbl1 := Nat.lt_of_lt_of_le hbl hHeld.1.size
    have hBne : ¬ B = W.heap.size := by omega
    clear hb1
    obtain ⟨⟨kz0, kc0, kf0⟩, ⟨kz1, kc1, kf1⟩, _⟩ := hHeld.2
    go_wp2_with fail
    obtain ⟨d0, d1⟩ := set2 (W := w1) (B := W.heap.size) (u0 := .int .i64 lo) (u1 := .int .i64 hi) kc0 kc1
    refine bodyPost_ret (v := .tuple #[spV lo hi, .int .i64 0]) (by simp [results, Try.results28, go_sem, d0, d1, kz0]) rfl ?_
    exact ⟨by rw [E.out.1, E.out.2.1, E.out.2.2], under ((hHeld.1.setCell (p := ⟨W.heap.size, 0, none⟩) (Nat.le_refl _) _).setCell (p := ⟨W.heap.size, 1, none⟩) (Nat.le_refl _) _) (below_alloc _ _)⟩
end Go.Proofs.Ytmkminaipeodnaa.P8
