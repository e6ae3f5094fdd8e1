/-
  Layer 4: the law SpanJoins: is a span the one that is wanted? Conditions: those written at each fact.
-/
import Derived.Test.YtmnndbafljngiaaJoA
import Derived.Test.YtmnndbafljngiaaJoB
namespace Go.Proofs.Ytmnndbafljngiaa
open Go.RowKit

set_option maxRecDepth 100000 in
set_option maxHeartbeats 400000 in
theorem ended_any (P : List (Int × Int)) (hl : P.length ≤ 10000000) (q0 q1 cd lo hi : Int) (hc : (badS P = true ∧ q0 = 0 ∧ q1 = 0 ∧ cd = 140) ∨ (badS P = false ∧ (P = [] ∨ hi < lo) ∧ q0 = 0 ∧ q1 = 0 ∧ cd = 9) ∨ (badS P = false ∧ P ≠ [] ∧ lo ≤ hi ∧ q0 = lo ∧ q1 = hi ∧ cd = 0)) (v : Value) (w : World) (h : ReadsS w v P) :
    Calls Try.prog 31 #[spV q0 q1, .int .i64 cd, v, .int .i64 lo, .int .i64 hi] w (Ret w (.bool true)) := by
  have AL := fun W k => all_any P hl v W k
  obtain ⟨A, n, c, rfl, hn⟩ : ∃ A n c, v = .slice A n c ∧ n = P.length := by obtain ⟨A, c, e, _⟩ := h; exact ⟨_, _, _, e, rfl⟩
  have hnil : P = [] ↔ n = 0 := by rw [hn, List.length_eq_zero_iff]
  have HR := Lib.hid h
  clear h
  rcases hc with ⟨g, rfl, rfl, rfl⟩ | ⟨g, k, rfl, rfl, rfl⟩ | ⟨g, k, k2, rfl, rfl, rfl⟩
  · rw [g] at AL
    replace AL := Lib.hid AL
    clear hnil hn g
    go_enter Try.func31, Try.ntmps31
    go_wp2_with fail
    refine (AL.out _ (HR.out.below (by go_grown))).mono ?_
    rintro e w1 ⟨rfl, hb⟩
    have hHeld : Keeps w [(w.heap.size, 0, .int .i64 0), (w.heap.size, 1, .int .i64 0)] _ := Keeps.next (by refine ⟨by go_grown, ?_⟩; simp [Cells, go_sem]) hb
    clear hb
    obtain ⟨⟨kz0, kc0, kf0⟩, ⟨kz1, kc1, kf1⟩, _⟩ := hHeld.2
    go_wp2_with fail
    go_ret
    exact ⟨rfl, hHeld.1⟩
  · rw [g] at AL
    replace AL := Lib.hid AL
    by_cases gn : n = 0
    · clear hnil hn g k
      subst gn
      go_enter Try.func31, Try.ntmps31
      go_wp2_with fail
      refine (AL.out _ (HR.out.below (by go_grown))).mono ?_
      rintro e w1 ⟨rfl, hb⟩
      have hHeld : Keeps w [(w.heap.size, 0, .int .i64 0), (w.heap.size, 1, .int .i64 0)] _ := Keeps.next (by refine ⟨by go_grown, ?_⟩; simp [Cells, go_sem]) hb
      clear hb
      obtain ⟨⟨kz0, kc0, kf0⟩, ⟨kz1, kc1, kf1⟩, _⟩ := hHeld.2
      go_wp2_with fail
      go_ret
      exact ⟨rfl, hHeld.1⟩
    · have b1 : ((n : Int) == 0) = false := by rw [beq_eq_false_iff_ne]; omega
      have b2 : hi < lo := by
        rcases k with k | k
        · exact absurd (hnil.1 k) gn
        · exact k
      clear hnil hn g k
      go_enter Try.func31, Try.ntmps31
      go_wp2_with fail
      refine (AL.out _ (HR.out.below (by go_grown))).mono ?_
      rintro e w1 ⟨rfl, hb⟩
      have hHeld : Keeps w [(w.heap.size, 0, .int .i64 0), (w.heap.size, 1, .int .i64 0)] _ := Keeps.next (by refine ⟨by go_grown, ?_⟩; simp [Cells, go_sem]) hb
      clear hb
      obtain ⟨⟨kz0, kc0, kf0⟩, ⟨kz1, kc1, kf1⟩, _⟩ := hHeld.2
      go_wp2_with fail
      go_ret
      exact ⟨rfl, hHeld.1⟩
  · rw [g] at AL
    replace AL := Lib.hid AL
    have gn : n ≠ 0 := fun e => k (hnil.2 e)
    have b1 : ((n : Int) == 0) = false := by rw [beq_eq_false_iff_ne]; omega
    clear hnil hn g k
    go_enter Try.func31, Try.ntmps31
    go_wp2_with fail
    refine (AL.out _ (HR.out.below (by go_grown))).mono ?_
    rintro e w1 ⟨rfl, hb⟩
    have hHeld : Keeps w [(w.heap.size, 0, .int .i64 q0), (w.heap.size, 1, .int .i64 q1)] _ := Keeps.next (by refine ⟨by go_grown, ?_⟩; simp [Cells, go_sem]) hb
    clear hb
    obtain ⟨⟨kz0, kc0, kf0⟩, ⟨kz1, kc1, kf1⟩, _⟩ := hHeld.2
    go_wp2_with fail
    go_ret
    exact ⟨rfl, hHeld.1⟩

end Go.Proofs.Ytmnndbafljngiaa
