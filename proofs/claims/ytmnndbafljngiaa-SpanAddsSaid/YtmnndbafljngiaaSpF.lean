/-
  Layer 4: Plus. Conditions: those written at each fact.
-/
import Derived.Test.YtmnndbafljngiaaSpE
import Derived.WalkMore
namespace Go.Proofs.Ytmnndbafljngiaa
open Go.RowKit

set_option maxRecDepth 100000 in
set_option maxHeartbeats 2000000 in
theorem plusC_any (x y : Int) (B : Nat) (W : World) (hB : B < W.heap.size) (c0 : W.cell? ⟨B, 0, none⟩ = some (.int .i64 (nr x))) (c1 : W.cell? ⟨B, 1, none⟩ = some (.int .i64 (rr x))) (c2 : W.cell? ⟨B, 2, none⟩ = some (.int .i64 (nr y))) (c3 : W.cell? ⟨B, 3, none⟩ = some (.int .i64 (rr y))) :
    Calls Try.prog 64 #[.int .i64 0, .pointer (some ⟨B, 0, none⟩)] W (Ret W (grV x)) ∧ Calls Try.prog 64 #[.int .i64 1, .pointer (some ⟨B, 0, none⟩)] W (Ret W (grV y)) := by
  unfold grV
  generalize nr x = n0 at *
  generalize rr x = r0 at *
  generalize nr y = n1 at *
  generalize rr y = r1 at *
  constructor
  · go_enter Try.func64, Try.ntmps64
    go_wp2
    go_returns
    exact ⟨rfl, by go_grown⟩
  · go_enter Try.func64, Try.ntmps64
    go_wp2
    go_returns
    exact ⟨rfl, by go_grown⟩
/-- What between tells. -/
def betw (x y : Int) : Value := if rr x = 0 ∧ rr y = 0 then .tuple #[spV x y, .int .i64 0] else .tuple #[spV 0 0, .int .i64 5]
set_option maxRecDepth 100000 in
set_option maxHeartbeats 2000000 in
theorem betweenP (x y : Int) (p : Value) (w : World) (C : ∀ W, Below w.heap.size w W → Calls Try.prog 64 #[.int .i64 0, p] W (Ret W (grV x)) ∧ Calls Try.prog 64 #[.int .i64 1, p] W (Ret W (grV y))) :
    Calls Try.prog 63 #[.func (.func 64) #[] #[p]] w (Ret w (betw x y)) := by
  obtain ⟨R, hR⟩ : ∃ R, R = if rr x = 0 ∧ rr y = 0 then (.tuple #[spV (nr x) (nr y), .int .i64 0] : Value) else .tuple #[spV 0 0, .int .i64 5] := ⟨_, rfl⟩
  have e : betw x y = R := by
    rw [hR]
    unfold betw
    split
    · rename_i h
      rw [nr_self x h.1, nr_self y h.2]
    · rfl
  rw [e]
  clear e
  have C0 := Lib.hid (fun W h => (C W h).1)
  have C1 := Lib.hid (fun W h => (C W h).2)
  have ES := Lib.hid (fun x y W => espan_any x y W)
  clear C
  unfold grV at C0 C1
  generalize nr x = n0 at *
  generalize rr x = r0 at *
  generalize nr y = n1 at *
  generalize rr y = r1 at *
  by_cases g0 : r0 = 0
  · subst g0
    by_cases g1 : r1 = 0
    · subst g1
      rw [if_pos ⟨rfl, rfl⟩] at hR
      subst hR
      go_enter Try.func63, Try.ntmps63
      go_wp2_with fail
      go_step3
      go_wp2_with fail
      go_step3
      go_wp2_with fail
      refine wp_loop_rounds 3 ?_
      rw [rounds_succ]
      go_wp2_with fail
      refine (C0.out _ (by go_grown)).mono ?_
      rintro e w1 ⟨rfl, hb⟩
      have hHeld : Keeps w [(w.heap.size, 0, .int .i64 0), (w.heap.size, 1, .int .i64 0), (w.heap.size + 1, 0, .int .i64 0), (w.heap.size + 1, 1, .int .i64 0)] _ := Keeps.next (by refine ⟨by go_grown, ?_⟩; simp [Cells, go_sem]) hb
      clear hb
      obtain ⟨⟨kz0, kc0, kf0⟩, ⟨kz1, kc1, kf1⟩, ⟨kz2, kc2, kf2⟩, ⟨kz3, kc3, kf3⟩, _⟩ := hHeld.2
      go_wp2_with fail
      rw [rounds_succ]
      go_wp2_with fail
      have k1 : Keeps w [(w.heap.size, 0, .int .i64 0), (w.heap.size, 1, .int .i64 0), (w.heap.size + 1, 0, .int .i64 n0), (w.heap.size + 1, 1, .int .i64 0)] (w1.setCell ⟨w.heap.size + 1, 0, none⟩ (.int .i64 n0)) :=
        ⟨hHeld.1.setCell (by simp) _, ⟨by simpa using kz0, off_cell (by simp) kc0, by simpa using kf0⟩, ⟨by simpa using kz0, off_cell (by simp) kc1, by simpa using kf1⟩, ⟨by simpa using kz2, World.cell?_setCell_same' _ _ _ (by rw [kc2]; rfl), by simpa using kf2⟩, ⟨by simpa using kz3, off_cell (by simp) kc3, by simpa using kf3⟩, trivial⟩
      replace hHeld := k1.alloc (.cells #[.int .i64 n0, .int .i64 0] 89)
      refine (C1.out _ (by first | exact hHeld.1 | (have hB := k1.1; have hz := hB.size; go_grown))).mono ?_
      rintro e w2 ⟨rfl, hb⟩
      replace hHeld := hHeld.next (by exact hb)
      clear hb k1 kz0 kc0 kf0 kz1 kc1 kf1 kz2 kc2 kf2 kz3 kc3 kf3
      obtain ⟨⟨kz0, kc0, kf0⟩, ⟨kz1, kc1, kf1⟩, ⟨kz2, kc2, kf2⟩, ⟨kz3, kc3, kf3⟩, _⟩ := hHeld.2
      go_wp2_with fail
      rw [rounds_succ]
      go_wp2_with fail
      have M := ((show Keeps w [(w.heap.size, 0, .int .i64 0), (w.heap.size, 1, .int .i64 0)] w2 from ⟨hHeld.1, ⟨kz0, kc0, kf0⟩, ⟨kz1, kc1, kf1⟩, trivial⟩).set (p := ⟨w.heap.size + 1, 1, none⟩) (by simp) (by simp) (.int .i64 n1)).alloc (.cells #[.int .i64 n1, .int .i64 0] 89)
      refine (ES.out _ _ _).mono ?_
      rintro e w3 ⟨rfl, hb⟩
      replace hHeld := M.next (by exact hb)
      clear hb M kz0 kc0 kf0 kz1 kc1 kf1 kz2 kc2 kf2 kz3 kc3 kf3
      obtain ⟨⟨kz0, kc0, kf0⟩, ⟨kz1, kc1, kf1⟩, _⟩ := hHeld.2
      go_wp2_with fail
      rw [Exit.noGoto_ret]
      obtain ⟨d0, d1⟩ := set2 (W := w3) (B := w.heap.size) (u0 := .int .i64 n0) (u1 := .int .i64 n1) kc0 kc1
      refine bodyPost_ret (v := .tuple #[spV n0 n1, .int .i64 0]) (by simp [results, Try.results63, go_sem, d0, d1]) rfl ?_
      exact ⟨rfl, by first | (with_reducible exact hHeld.1) | (have hB := hHeld.1; have hz := hB.size; go_grown)⟩
    · rw [if_neg (fun h => g1 h.2)] at hR
      subst hR
      have b1 : (r1 == 0) = false := by simpa using g1
      clear g1
      go_enter Try.func63, Try.ntmps63
      go_wp2_with fail
      go_step3
      go_wp2_with fail
      go_step3
      go_wp2_with fail
      refine wp_loop_rounds 3 ?_
      rw [rounds_succ]
      go_wp2_with fail
      refine (C0.out _ (by go_grown)).mono ?_
      rintro e w1 ⟨rfl, hb⟩
      have hHeld : Keeps w [(w.heap.size, 0, .int .i64 0), (w.heap.size, 1, .int .i64 0), (w.heap.size + 1, 0, .int .i64 0), (w.heap.size + 1, 1, .int .i64 0)] _ := Keeps.next (by refine ⟨by go_grown, ?_⟩; simp [Cells, go_sem]) hb
      clear hb
      obtain ⟨⟨kz0, kc0, kf0⟩, ⟨kz1, kc1, kf1⟩, ⟨kz2, kc2, kf2⟩, ⟨kz3, kc3, kf3⟩, _⟩ := hHeld.2
      go_wp2_with fail
      rw [rounds_succ]
      go_wp2_with fail
      have k1 : Keeps w [(w.heap.size, 0, .int .i64 0), (w.heap.size, 1, .int .i64 0), (w.heap.size + 1, 0, .int .i64 n0), (w.heap.size + 1, 1, .int .i64 0)] (w1.setCell ⟨w.heap.size + 1, 0, none⟩ (.int .i64 n0)) :=
        ⟨hHeld.1.setCell (by simp) _, ⟨by simpa using kz0, off_cell (by simp) kc0, by simpa using kf0⟩, ⟨by simpa using kz0, off_cell (by simp) kc1, by simpa using kf1⟩, ⟨by simpa using kz2, World.cell?_setCell_same' _ _ _ (by rw [kc2]; rfl), by simpa using kf2⟩, ⟨by simpa using kz3, off_cell (by simp) kc3, by simpa using kf3⟩, trivial⟩
      replace hHeld := k1.alloc (.cells #[.int .i64 n0, .int .i64 0] 89)
      refine (C1.out _ (by first | exact hHeld.1 | (have hB := k1.1; have hz := hB.size; go_grown))).mono ?_
      rintro e w2 ⟨rfl, hb⟩
      replace hHeld := hHeld.next (by exact hb)
      clear hb k1 kz0 kc0 kf0 kz1 kc1 kf1 kz2 kc2 kf2 kz3 kc3 kf3
      obtain ⟨⟨kz0, kc0, kf0⟩, ⟨kz1, kc1, kf1⟩, ⟨kz2, kc2, kf2⟩, ⟨kz3, kc3, kf3⟩, _⟩ := hHeld.2
      go_wp2_with fail
      have M := (((show Keeps w [(w.heap.size, 0, .int .i64 0), (w.heap.size, 1, .int .i64 0)] w2 from ⟨hHeld.1, ⟨kz0, kc0, kf0⟩, ⟨kz1, kc1, kf1⟩, trivial⟩).set (p := ⟨w.heap.size + 1, 0, none⟩) (by simp) (by simp) (.int .i64 0)).set (p := ⟨w.heap.size + 1, 1, none⟩) (by simp) (by simp) (.int .i64 0)).alloc (.cells #[.int .i64 n1, .int .i64 r1] 89)
      refine (ES.out _ _ _).mono ?_
      rintro e w3 ⟨rfl, hb⟩
      replace hHeld := M.next (by exact hb)
      clear hb M kz0 kc0 kf0 kz1 kc1 kf1 kz2 kc2 kf2 kz3 kc3 kf3
      obtain ⟨⟨kz0, kc0, kf0⟩, ⟨kz1, kc1, kf1⟩, _⟩ := hHeld.2
      go_wp2_with fail
      rw [Exit.noGoto_ret]
      obtain ⟨d0, d1⟩ := set2 (W := w3) (B := w.heap.size) (u0 := .int .i64 0) (u1 := .int .i64 0) kc0 kc1
      refine bodyPost_ret (v := .tuple #[spV 0 0, .int .i64 5]) (by simp [results, Try.results63, go_sem, d0, d1]) rfl ?_
      exact ⟨rfl, by first | (with_reducible exact hHeld.1) | (have hB := hHeld.1; have hz := hB.size; go_grown)⟩
  · rw [if_neg (fun h => g0 h.1)] at hR
    subst hR
    have b0 : (r0 == 0) = false := by simpa using g0
    clear g0
    · skip
      go_enter Try.func63, Try.ntmps63
      go_wp2_with fail
      go_step3
      go_wp2_with fail
      go_step3
      go_wp2_with fail
      refine wp_loop_rounds 3 ?_
      rw [rounds_succ]
      go_wp2_with fail
      refine (C0.out _ (by go_grown)).mono ?_
      rintro e w1 ⟨rfl, hb⟩
      have hHeld : Keeps w [(w.heap.size, 0, .int .i64 0), (w.heap.size, 1, .int .i64 0), (w.heap.size + 1, 0, .int .i64 0), (w.heap.size + 1, 1, .int .i64 0)] _ := Keeps.next (by refine ⟨by go_grown, ?_⟩; simp [Cells, go_sem]) hb
      clear hb
      obtain ⟨⟨kz0, kc0, kf0⟩, ⟨kz1, kc1, kf1⟩, ⟨kz2, kc2, kf2⟩, ⟨kz3, kc3, kf3⟩, _⟩ := hHeld.2
      go_wp2_with fail
      have M := (((show Keeps w [(w.heap.size, 0, .int .i64 0), (w.heap.size, 1, .int .i64 0)] w1 from ⟨hHeld.1, ⟨kz0, kc0, kf0⟩, ⟨kz1, kc1, kf1⟩, trivial⟩).set (p := ⟨w.heap.size + 1, 0, none⟩) (by simp) (by simp) (.int .i64 0)).set (p := ⟨w.heap.size + 1, 1, none⟩) (by simp) (by simp) (.int .i64 0)).alloc (.cells #[.int .i64 n0, .int .i64 r0] 89)
      refine (ES.out _ _ _).mono ?_
      rintro e w3 ⟨rfl, hb⟩
      replace hHeld := M.next (by exact hb)
      clear hb M kz0 kc0 kf0 kz1 kc1 kf1 kz2 kc2 kf2 kz3 kc3 kf3
      obtain ⟨⟨kz0, kc0, kf0⟩, ⟨kz1, kc1, kf1⟩, _⟩ := hHeld.2
      go_wp2_with fail
      rw [Exit.noGoto_ret]
      obtain ⟨d0, d1⟩ := set2 (W := w3) (B := w.heap.size) (u0 := .int .i64 0) (u1 := .int .i64 0) kc0 kc1
      refine bodyPost_ret (v := .tuple #[spV 0 0, .int .i64 5]) (by simp [results, Try.results63, go_sem, d0, d1]) rfl ?_
      exact ⟨rfl, by first | (with_reducible exact hHeld.1) | (have hB := hHeld.1; have hz := hB.size; go_grown)⟩
end Go.Proofs.Ytmnndbafljngiaa
