/-
  Layer 4: Times and Around. Conditions: those written at each fact.
-/
import Derived.Test.YtmnndbafljngiaaSpJ
namespace Go.Proofs.Ytmnndbafljngiaa
open Go.RowKit Go.Shelf

/-- What Times tells. -/
def timesR (lo hi n : Int) : Value := if hi < lo then .tuple #[spV 0 0, .int .i64 140] else if n < 0 then betw (hi * n) (lo * n) else betw (lo * n) (hi * n)
set_option maxRecDepth 100000 in
set_option maxHeartbeats 2000000 in
theorem times_any (lo hi n : Int) (l1 : -9223372036854775808 ≤ lo) (l2 : lo ≤ 9223372036854775807) (h1 : -9223372036854775808 ≤ hi) (h2 : hi ≤ 9223372036854775807) (n1 : -9223372036854775808 ≤ n) (n2 : n ≤ 9223372036854775807) (w : World) :
    Calls Try.prog 36 #[spV lo hi, .int .i64 n] w (Ret w (timesR lo hi n)) := by
  have CK := Lib.hid (fun W => check_any lo hi W)
  unfold timesR
  by_cases g : hi < lo
  · rw [if_pos g] at CK ⊢
    clear g
    go_enter Try.func36, Try.ntmps36
    go_wp2_with fail
    refine (CK.out _).mono ?_
    rintro e w1 ⟨rfl, hb⟩
    have hHeld : Keeps w [(w.heap.size + 1 + 1, 0, .int .i64 0), (w.heap.size + 1 + 1, 1, .int .i64 0)] _ := Keeps.next (by refine ⟨by go_grown, ?_⟩; simp [Cells, go_sem]) hb
    clear hb
    obtain ⟨⟨kz0, kc0, kf0⟩, ⟨kz1, kc1, kf1⟩, _⟩ := hHeld.2
    go_wp2_with fail
    obtain ⟨d0, d1⟩ := set2 (W := w1) (B := w.heap.size + 1 + 1) (u0 := .int .i64 0) (u1 := .int .i64 0) kc0 kc1
    refine bodyPost_ret (v := .tuple #[spV 0 0, .int .i64 140]) (by simp [results, Try.results36, go_sem, d0, d1]) rfl ?_
    exact ⟨rfl, by first | (with_reducible exact hHeld.1) | (have hB := hHeld.1; have hz := hB.size; go_grown)⟩
  · rw [if_neg g] at CK ⊢
    have EO := Lib.hid (fun W => endsOf_any lo hi W)
    obtain ⟨x, y, hxy, x1, x2, y1, y2⟩ : ∃ x y, (n < 0 ∧ x = hi ∧ y = lo ∨ ¬ n < 0 ∧ x = lo ∧ y = hi) ∧ -9223372036854775808 ≤ x ∧ x ≤ 9223372036854775807 ∧ -9223372036854775808 ≤ y ∧ y ≤ 9223372036854775807 := by
      by_cases gn : n < 0
      · exact ⟨hi, lo, Or.inl ⟨gn, rfl, rfl⟩, h1, h2, l1, l2⟩
      · exact ⟨lo, hi, Or.inr ⟨gn, rfl, rfl⟩, l1, l2, h1, h2⟩
    have BT := fun p q W C => betweenT (x * n) (y * n) p q W C
    have TC := Lib.hid (fun A N W hk => (⟨timesC_any x y n A N W 0 x (Or.inl ⟨rfl, rfl⟩) hk x1 x2 n1 n2, timesC_any x y n A N W 1 y (Or.inr ⟨rfl, rfl⟩) hk y1 y2 n1 n2⟩ : _ ∧ _))
    obtain ⟨q0, q1, cd, hq⟩ := betw_form (x * n) (y * n)
    rw [hq] at BT
    replace BT := Lib.hid BT
    have hR : (if n < 0 then betw (hi * n) (lo * n) else betw (lo * n) (hi * n)) = .tuple #[spV q0 q1, .int .i64 cd] := by
      rcases hxy with ⟨k, rfl, rfl⟩ | ⟨k, rfl, rfl⟩
      · rw [if_pos k]; exact hq
      · rw [if_neg k]; exact hq
    rw [hR]
    generalize x * n = X at *
    generalize y * n = Y at *
    clear hq hR g l1 l2 h1 h2 n1 n2 x1 x2 y1 y2
    rcases hxy with ⟨k, rfl, rfl⟩ | ⟨k, rfl, rfl⟩
    · go_enter Try.func36, Try.ntmps36
      go_wp2_with fail
      refine (CK.out _).mono ?_
      rintro e w1 ⟨rfl, hb⟩
      have hHeld : Keeps w [(w.heap.size, 0, .int .i64 y), (w.heap.size, 1, .int .i64 x), (w.heap.size + 1, 0, .int .i64 n), (w.heap.size + 1 + 1, 0, .int .i64 0), (w.heap.size + 1 + 1, 1, .int .i64 0)] _ := Keeps.next (by refine ⟨by go_grown, ?_⟩; simp [Cells, go_sem]) hb
      clear hb
      obtain ⟨⟨kz0, kc0, kf0⟩, ⟨kz1, kc1, kf1⟩, ⟨kz2, kc2, kf2⟩, ⟨kz3, kc3, kf3⟩, ⟨kz4, kc4, kf4⟩, _⟩ := hHeld.2
      go_wp2_with fail
      refine (EO.out _).mono ?_
      rintro e w2 ⟨rfl, hb⟩
      replace hHeld := Keeps.next (hHeld) hb
      clear hb kz0 kc0 kf0 kz1 kc1 kf1 kz2 kc2 kf2 kz3 kc3 kf3 kz4 kc4 kf4
      obtain ⟨⟨kz0, kc0, kf0⟩, ⟨kz1, kc1, kf1⟩, ⟨kz2, kc2, kf2⟩, ⟨kz3, kc3, kf3⟩, ⟨kz4, kc4, kf4⟩, _⟩ := hHeld.2
      go_wp2_with fail
      have HA := hHeld.alloc (.cells #[.int .i64 x, .int .i64 y] 87)
      have HC : Cells [(w2.heap.size, 0, .int .i64 x), (w2.heap.size, 1, .int .i64 y), (w.heap.size + 1, 0, .int .i64 n)] (w2.alloc (.cells #[.int .i64 x, .int .i64 y] 87)) :=
        ⟨⟨by simp, by simp [go_sem], by simp [go_sem]⟩, ⟨by simp, by simp [go_sem], by simp [go_sem]⟩, ((show Keeps w [(w.heap.size + 1, 0, .int .i64 n)] w2 from ⟨hHeld.1, ⟨kz2, kc2, kf2⟩, trivial⟩).alloc (.cells #[.int .i64 x, .int .i64 y] 87)).2.1, trivial⟩
      refine Calls.mono (BT.out _ _ _ (fun W' hb' => TC.out _ _ W' (HC.next hb'))) ?_
      rintro e w3 ⟨rfl, hb⟩
      replace hHeld := HA.next hb
      clear hb HA HC kz0 kc0 kf0 kz1 kc1 kf1 kz2 kc2 kf2 kz3 kc3 kf3 kz4 kc4 kf4
      obtain ⟨⟨kz0, kc0, kf0⟩, ⟨kz1, kc1, kf1⟩, ⟨kz2, kc2, kf2⟩, ⟨kz3, kc3, kf3⟩, ⟨kz4, kc4, kf4⟩, _⟩ := hHeld.2
      go_wp2_with fail
      obtain ⟨d0, d1⟩ := set2 (W := w3) (B := w.heap.size + 1 + 1) (u0 := .int .i64 q0) (u1 := .int .i64 q1) kc3 kc4
      refine bodyPost_ret (v := .tuple #[spV q0 q1, .int .i64 cd]) (by simp [results, Try.results36, go_sem, d0, d1]) rfl ?_
      exact ⟨rfl, by first | (with_reducible exact hHeld.1) | (have hB := hHeld.1; have hz := hB.size; go_grown)⟩
    · go_enter Try.func36, Try.ntmps36
      go_wp2_with fail
      refine (CK.out _).mono ?_
      rintro e w1 ⟨rfl, hb⟩
      have hHeld : Keeps w [(w.heap.size, 0, .int .i64 x), (w.heap.size, 1, .int .i64 y), (w.heap.size + 1, 0, .int .i64 n), (w.heap.size + 1 + 1, 0, .int .i64 0), (w.heap.size + 1 + 1, 1, .int .i64 0)] _ := Keeps.next (by refine ⟨by go_grown, ?_⟩; simp [Cells, go_sem]) hb
      clear hb
      obtain ⟨⟨kz0, kc0, kf0⟩, ⟨kz1, kc1, kf1⟩, ⟨kz2, kc2, kf2⟩, ⟨kz3, kc3, kf3⟩, ⟨kz4, kc4, kf4⟩, _⟩ := hHeld.2
      go_wp2_with fail
      refine (EO.out _).mono ?_
      rintro e w2 ⟨rfl, hb⟩
      replace hHeld := Keeps.next (hHeld) hb
      clear hb kz0 kc0 kf0 kz1 kc1 kf1 kz2 kc2 kf2 kz3 kc3 kf3 kz4 kc4 kf4
      obtain ⟨⟨kz0, kc0, kf0⟩, ⟨kz1, kc1, kf1⟩, ⟨kz2, kc2, kf2⟩, ⟨kz3, kc3, kf3⟩, ⟨kz4, kc4, kf4⟩, _⟩ := hHeld.2
      go_wp2_with fail
      have HA := hHeld.alloc (.cells #[.int .i64 x, .int .i64 y] 87)
      have HC : Cells [(w2.heap.size, 0, .int .i64 x), (w2.heap.size, 1, .int .i64 y), (w.heap.size + 1, 0, .int .i64 n)] (w2.alloc (.cells #[.int .i64 x, .int .i64 y] 87)) :=
        ⟨⟨by simp, by simp [go_sem], by simp [go_sem]⟩, ⟨by simp, by simp [go_sem], by simp [go_sem]⟩, ((show Keeps w [(w.heap.size + 1, 0, .int .i64 n)] w2 from ⟨hHeld.1, ⟨kz2, kc2, kf2⟩, trivial⟩).alloc (.cells #[.int .i64 x, .int .i64 y] 87)).2.1, trivial⟩
      refine Calls.mono (BT.out _ _ _ (fun W' hb' => TC.out _ _ W' (HC.next hb'))) ?_
      rintro e w3 ⟨rfl, hb⟩
      replace hHeld := HA.next hb
      clear hb HA HC kz0 kc0 kf0 kz1 kc1 kf1 kz2 kc2 kf2 kz3 kc3 kf3 kz4 kc4 kf4
      obtain ⟨⟨kz0, kc0, kf0⟩, ⟨kz1, kc1, kf1⟩, ⟨kz2, kc2, kf2⟩, ⟨kz3, kc3, kf3⟩, ⟨kz4, kc4, kf4⟩, _⟩ := hHeld.2
      go_wp2_with fail
      obtain ⟨d0, d1⟩ := set2 (W := w3) (B := w.heap.size + 1 + 1) (u0 := .int .i64 q0) (u1 := .int .i64 q1) kc3 kc4
      refine bodyPost_ret (v := .tuple #[spV q0 q1, .int .i64 cd]) (by simp [results, Try.results36, go_sem, d0, d1]) rfl ?_
      exact ⟨rfl, by first | (with_reducible exact hHeld.1) | (have hB := hHeld.1; have hz := hB.size; go_grown)⟩
/-- What Around tells. -/
def aroundR (v far : Int) : Value := if far < 0 then .tuple #[spV 0 0, .int .i64 2] else betw (v + -far) (v + far)
set_option maxRecDepth 100000 in
set_option maxHeartbeats 2000000 in
theorem around_any (v far : Int) (v1 : -9223372036854775808 ≤ v) (v2 : v ≤ 9223372036854775807) (f1 : -9223372036854775808 ≤ far) (f2 : far ≤ 9223372036854775807) (w : World) : Calls Try.prog 38 #[.int .i64 v, .int .i64 far] w (Ret w (aroundR v far)) := by
  unfold aroundR
  by_cases g : far < 0
  · rw [if_pos g]
    go_enter Try.func38, Try.ntmps38
    go_wp2
    go_returns
    exact ⟨rfl, by go_grown⟩
  · rw [if_neg g]
    have BT := fun p q W C => betweenA (v + -far) (v + far) p q W C
    have TC := Lib.hid (fun A N W hk => (⟨aroundC_any (-far) far v A N W 0 (-far) (Or.inl ⟨rfl, rfl⟩) hk (by omega) (by omega) v1 v2, aroundC_any (-far) far v A N W 1 far (Or.inr ⟨rfl, rfl⟩) hk f1 f2 v1 v2⟩ : _ ∧ _))
    obtain ⟨q0, q1, cd, hq⟩ := betw_form (v + -far) (v + far)
    rw [hq] at BT ⊢
    replace BT := Lib.hid BT
    have e : wrap64 (-far) = -far := by unfold wrap64; omega
    obtain ⟨m, hm⟩ : ∃ m, wrap64 (-far) = m := ⟨_, rfl⟩
    have e2 : -far = m := by rw [← hm, e]
    rw [e2] at BT TC
    have HM := Lib.hid hm
    clear e e2 hm
    generalize v + m = X at *
    generalize v + far = Y at *
    clear hq v1 v2 f1 f2
    · go_enter Try.func38, Try.ntmps38
      go_wp2_with fail
      simp only [HM.out]
      have HC : Keeps w [(w.heap.size + 1 + 1, 0, .int .i64 m), (w.heap.size + 1 + 1, 1, .int .i64 far), (w.heap.size, 0, .int .i64 v), (w.heap.size + 1, 0, .int .i64 0), (w.heap.size + 1, 1, .int .i64 0)] (((w.alloc (.cells #[.int .i64 v] 2)).alloc (.cells #[.int .i64 0, .int .i64 0] 23)).alloc (.cells #[.int .i64 m, .int .i64 far] 87)) := ⟨by go_grown, by simp [Cells, go_sem]⟩
      refine Calls.mono (BT.out _ _ _ (fun W' hb' => TC.out _ _ W' ⟨(HC.2.next hb').1, (HC.2.next hb').2.1, (HC.2.next hb').2.2.1, trivial⟩)) ?_
      rintro e w3 ⟨rfl, hb⟩
      have hHeld := HC.next hb
      clear hb HC
      obtain ⟨⟨kz0, kc0, kf0⟩, ⟨kz1, kc1, kf1⟩, ⟨kz2, kc2, kf2⟩, ⟨kz3, kc3, kf3⟩, ⟨kz4, kc4, kf4⟩, _⟩ := hHeld.2
      go_wp2_with fail
      obtain ⟨d0, d1⟩ := set2 (W := w3) (B := w.heap.size + 1) (u0 := .int .i64 q0) (u1 := .int .i64 q1) kc3 kc4
      refine bodyPost_ret (v := .tuple #[spV q0 q1, .int .i64 cd]) (by simp [results, Try.results38, go_sem, d0, d1]) rfl ?_
      exact ⟨rfl, by first | (with_reducible exact hHeld.1) | (have hB := hHeld.1; have hz := hB.size; go_grown)⟩
end Go.Proofs.Ytmnndbafljngiaa
