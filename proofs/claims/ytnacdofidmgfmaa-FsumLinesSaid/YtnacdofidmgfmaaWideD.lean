/-
  More of what package wide answers: the number that is so far from 0, on one side. Conditions: words are of 64 bits.
-/
import Derived.Test.YtnacdofidmgfmaaWideC
namespace Go.Proofs.Ytnacdofidmgfmaa
open Go.RowKit Go.Shelf

set_option maxHeartbeats 1600000 in
theorem signed_any (b : Bool) (h l : Int) (hh : U64 h) (hl : U64 l) (w : World) :
    Calls Try.prog 91 #[distV h l, .bool b] w (Ret w (.tuple #[wideV (shi b h l) (slo b l), .bool (sfit b h l)])) := by
  cases b
  · have e : sfit false h l = decide (h < 9223372036854775808) := by simp [sfit]
    rw [e, show shi false h l = wrap64 h from by simp [shi], show slo false l = l from by simp [slo]]
    clear e
    cases g : decide (h < 9223372036854775808)
    all_goals
      go_enter Try.func91, Try.ntmps91
      go_wp2
      go_returns
      exact ⟨rfl, by go_grown⟩
  · have e0 : shi true h l = wrap64 (nhi h l) := by simp [shi]
    have e1 : slo true l = nlo l := by simp [slo]
    rw [e0, e1]
    clear e0 e1
    cases g : decide (h < 9223372036854775808)
    · have e : sfit true h l = (h == 9223372036854775808 && l == 0) := by simp [sfit, g]
      rw [e]
      clear e
      cases g1 : (h == 9223372036854775808)
      · rw [show (false && l == 0) = false from rfl]
        go_enter Try.func91, Try.ntmps91
        go_wp2_with fail
        refine (negative_any _ _ hh hl _).mono ?_
        rintro e w1 ⟨rfl, hb⟩
        have hHeld : Keeps w [(w.heap.size, 0, .int .u64 h), (w.heap.size, 1, .int .u64 l), (w.heap.size + 1, 0, .int .i64 0), (w.heap.size + 1, 1, .int .u64 0)] _ := Keeps.next (by refine ⟨by go_grown, ?_⟩; simp [Cells, go_sem]) hb
        clear hb
        obtain ⟨⟨kz0, kc0, kf0⟩, ⟨kz1, kc1, kf1⟩, ⟨kz2, kc2, kf2⟩, ⟨kz3, kc3, kf3⟩, _⟩ := hHeld.2
        go_wp2_with fail
        refine bodyPost_ret (v := .tuple #[wideV (wrap64 (nhi h l)) (nlo l), .bool false]) (by simp [results, Try.results91, go_sem, kc2, kc3]) rfl ?_
        exact ⟨rfl, by first | (with_reducible exact hHeld.1) | (have hB := hHeld.1; have hz := hB.size; go_grown)⟩
      · rw [show (true && l == 0) = (l == 0) from rfl]
        cases g2 : (l == 0)
        all_goals
          go_enter Try.func91, Try.ntmps91
          go_wp2_with fail
          refine (negative_any _ _ hh hl _).mono ?_
          rintro e w1 ⟨rfl, hb⟩
          have hHeld : Keeps w [(w.heap.size, 0, .int .u64 h), (w.heap.size, 1, .int .u64 l), (w.heap.size + 1, 0, .int .i64 0), (w.heap.size + 1, 1, .int .u64 0)] _ := Keeps.next (by refine ⟨by go_grown, ?_⟩; simp [Cells, go_sem]) hb
          clear hb
          obtain ⟨⟨kz0, kc0, kf0⟩, ⟨kz1, kc1, kf1⟩, ⟨kz2, kc2, kf2⟩, ⟨kz3, kc3, kf3⟩, _⟩ := hHeld.2
          go_wp2_with fail
          refine bodyPost_ret (by simp [results, Try.results91, go_sem, kc2, kc3]; rfl) rfl ?_
          exact ⟨rfl, by first | (with_reducible exact hHeld.1) | (have hB := hHeld.1; have hz := hB.size; go_grown)⟩
    · rw [show sfit true h l = true from by simp [sfit, g]]
      go_enter Try.func91, Try.ntmps91
      go_wp2_with fail
      refine (negative_any _ _ hh hl _).mono ?_
      rintro e w1 ⟨rfl, hb⟩
      have hHeld : Keeps w [(w.heap.size, 0, .int .u64 h), (w.heap.size, 1, .int .u64 l), (w.heap.size + 1, 0, .int .i64 0), (w.heap.size + 1, 1, .int .u64 0)] _ := Keeps.next (by refine ⟨by go_grown, ?_⟩; simp [Cells, go_sem]) hb
      clear hb
      obtain ⟨⟨kz0, kc0, kf0⟩, ⟨kz1, kc1, kf1⟩, ⟨kz2, kc2, kf2⟩, ⟨kz3, kc3, kf3⟩, _⟩ := hHeld.2
      go_wp2_with fail
      refine bodyPost_ret (v := .tuple #[wideV (wrap64 (nhi h l)) (nlo l), .bool true]) (by simp [results, Try.results91, go_sem, kc2, kc3]) rfl ?_
      exact ⟨rfl, by first | (with_reducible exact hHeld.1) | (have hB := hHeld.1; have hz := hB.size; go_grown)⟩
end Go.Proofs.Ytnacdofidmgfmaa
