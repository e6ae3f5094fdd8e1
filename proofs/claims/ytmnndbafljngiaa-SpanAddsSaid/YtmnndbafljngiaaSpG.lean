/-
  Layer 4: Plus, Times, Around. Conditions: those written at each fact.
-/
import Derived.Test.YtmnndbafljngiaaSpF
import Derived.Test.YtmnndbafljngiaaShelf
namespace Go.Proofs.Ytmnndbafljngiaa
open Go.RowKit Go.Shelf

theorem betw_form (x y : Int) : ∃ q0 q1 cd, betw x y = .tuple #[spV q0 q1, .int .i64 cd] := by
  unfold betw
  split
  · exact ⟨_, _, _, rfl⟩
  · exact ⟨_, _, _, rfl⟩
/-- What Plus tells. -/
def plusR (l : List (Int × Int)) : Value := if badS l then .tuple #[spV 0 0, .int .i64 140] else betw (sumS l).1 (sumS l).2
set_option maxRecDepth 100000 in
set_option maxHeartbeats 2000000 in
theorem plus_any (l : List (Int × Int)) (hok : OkS l) (hl : l.length ≤ 10000000) (v : Value) (w : World) (h : ReadsS w v l) : Calls Try.prog 33 #[v] w (Ret w (plusR l)) := by
  have TS := fun W k R hR => through_sums l hok hl v W k R hR
  obtain ⟨A, n, c, rfl⟩ : ∃ A n c, v = .slice A n c := by obtain ⟨A, c, e, _⟩ := h; exact ⟨_, _, _, e⟩
  replace h := Lib.hid h
  unfold plusR
  cases hb : badS l
  · rw [hb] at TS
    simp only [Bool.false_eq_true, if_false] at TS ⊢
    generalize (sumS l).1 = x at *
    generalize (sumS l).2 = y at *
    obtain ⟨q0, q1, cd, hq⟩ := betw_form x y
    have BP := Lib.hid (fun p W C => betweenP x y p W C)
    have PC := Lib.hid (fun B W hB c0 c1 c2 c3 => plusC_any x y B W hB c0 c1 c2 c3)
    rw [hq] at BP ⊢
    replace TS := Lib.hid (fun W k => TS W k _ rfl)
    unfold smV at TS
    clear hb hq hok
    generalize nr x = n0 at *
    generalize rr x = r0 at *
    generalize nr y = n1 at *
    generalize rr y = r1 at *
    go_enter Try.func33, Try.ntmps33
    go_wp2_with fail
    refine (TS.out _ (h.out.below (by go_grown))).mono ?_
    rintro e w1 ⟨rfl, hb⟩
    have hHeld : Keeps w [(w.heap.size, 0, .int .i64 0), (w.heap.size, 1, .int .i64 0)] _ := Keeps.next (by refine ⟨by go_grown, ?_⟩; simp [Cells, go_sem]) hb
    clear hb
    obtain ⟨⟨kz0, kc0, kf0⟩, ⟨kz1, kc1, kf1⟩, _⟩ := hHeld.2
    go_wp2_with fail
    have HA := hHeld.alloc (.cells #[.int .i64 n0, .int .i64 r0, .int .i64 n1, .int .i64 r1] 91)
    refine Calls.mono (BP.out _ _ (fun W' hb' => PC.out _ W' (Nat.lt_of_lt_of_le (by simp) hb'.size) ((hb'.cell (p := ⟨w1.heap.size, 0, none⟩) (by simp)).trans (by simp [go_sem])) ((hb'.cell (p := ⟨w1.heap.size, 1, none⟩) (by simp)).trans (by simp [go_sem])) ((hb'.cell (p := ⟨w1.heap.size, 2, none⟩) (by simp)).trans (by simp [go_sem])) ((hb'.cell (p := ⟨w1.heap.size, 3, none⟩) (by simp)).trans (by simp [go_sem])))) ?_
    rintro e w2 ⟨rfl, hb⟩
    replace hHeld := HA.next hb
    clear hb HA kz0 kc0 kf0 kz1 kc1 kf1
    obtain ⟨⟨kz0, kc0, kf0⟩, ⟨kz1, kc1, kf1⟩, _⟩ := hHeld.2
    go_wp2_with fail
    obtain ⟨d0, d1⟩ := set2 (W := w2) (B := w.heap.size) (u0 := .int .i64 q0) (u1 := .int .i64 q1) kc0 kc1
    refine bodyPost_ret (v := .tuple #[spV q0 q1, .int .i64 cd]) (by simp [results, Try.results33, go_sem, d0, d1]) rfl ?_
    exact ⟨rfl, by first | (with_reducible exact hHeld.1) | (have hB := hHeld.1; have hz := hB.size; go_grown)⟩
  · rw [hb] at TS
    simp only [if_true] at TS ⊢
    replace TS := Lib.hid (fun W k => TS W k _ rfl)
    clear hb hok
    go_enter Try.func33, Try.ntmps33
    go_wp2_with fail
    refine (TS.out _ (h.out.below (by go_grown))).mono ?_
    rintro e w1 ⟨rfl, hb⟩
    have hHeld : Keeps w [(w.heap.size, 0, .int .i64 0), (w.heap.size, 1, .int .i64 0)] _ := Keeps.next (by refine ⟨by go_grown, ?_⟩; simp [Cells, go_sem]) hb
    clear hb
    obtain ⟨⟨kz0, kc0, kf0⟩, ⟨kz1, kc1, kf1⟩, _⟩ := hHeld.2
    go_wp2_with fail
    obtain ⟨d0, d1⟩ := set2a (W := w1) (B := w.heap.size) (u0 := .int .i64 0) (u1 := .int .i64 0) (o := .cells #[.int .i64 0, .int .i64 0, .int .i64 0, .int .i64 0] 91) kz0 kc0 kc1
    refine bodyPost_ret (v := .tuple #[spV 0 0, .int .i64 140]) (by simp [results, Try.results33, go_sem, d0, d1]) rfl ?_
    exact ⟨rfl, by first | (with_reducible exact hHeld.1) | (have hB := hHeld.1; have hz := hB.size; go_grown)⟩
end Go.Proofs.Ytmnndbafljngiaa
