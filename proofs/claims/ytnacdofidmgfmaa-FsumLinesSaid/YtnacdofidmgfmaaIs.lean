/-
  The document's own answer: a number as two words; whether an answer is the number. Conditions: those written at each fact.
-/
import Derived.Test.YtnacdofidmgfmaaNumB
import Derived.Test.YtnacdofidmgfmaaRB
namespace Go.Proofs.Ytnacdofidmgfmaa
open Go.RowKit

theorem Keeps.bel {w W : World} {L : List (Nat × Nat × Value)} (h : Keeps w L W) : Below w.heap.size w W := h.1
theorem words_pos {z : Int} (h : Fits z) (h0 : 0 ≤ z) : wrap64 ((z.natAbs / 2 ^ 64 % 18446744073709551616 : Nat) : Int) = rhi z ∧ ((z.natAbs / 2 ^ 0 % 18446744073709551616 : Nat) : Int) = rlo z := by
  have e1 : rhi z = z / 18446744073709551616 := by unfold rhi; rw [if_pos h]
  have e2 : rlo z = z % 18446744073709551616 := by unfold rlo; rw [if_pos h]
  unfold Fits at h
  rw [e1, e2]
  unfold wrap64
  omega
theorem words_neg {z : Int} (h : Fits z) (h0 : z < 0) : wrap64 (((2 ^ 128 - z.natAbs) / 2 ^ 64 % 18446744073709551616 : Nat) : Int) = rhi z ∧ (((2 ^ 128 - z.natAbs) / 2 ^ 0 % 18446744073709551616 : Nat) : Int) = rlo z := by
  have e1 : rhi z = z / 18446744073709551616 := by unfold rhi; rw [if_pos h]
  have e2 : rlo z = z % 18446744073709551616 := by unfold rlo; rw [if_pos h]
  unfold Fits at h
  rw [e1, e2]
  unfold wrap64
  omega
set_option maxRecDepth 100000 in
set_option maxHeartbeats 4000000 in
theorem wide_walk (p : Bool) (A : Option Addr) (n c M : Nat) (g0 g1 u0 u1 : Int) (f : Bool) (w : World) (hw : wrap64 u0 = g0) (hv : u1 = g1) (hf : f = false → g0 = 0 ∧ g1 = 0)
    (FT : ∀ W, Below w.heap.size w W → Calls Try.prog 78 #[.agg #[.bool p, .slice A n c], .int .i64 128] W (Ret W (.bool f)))
    (P1 : ∀ W, Calls Try.prog 73 #[.int .i64 128] W (RetN W (2 ^ 128)))
    (MN : ∀ W a, Below w.heap.size w W → Num W a (2 ^ 128) → Calls Try.prog 75 #[a, .slice A n c] W (RetN W M))
    (D1 : ∀ W v, (if p then Num W v M else v = .slice A n c ∧ Below w.heap.size w W) → f = true → Calls Try.prog 79 #[v, .int .i64 64] W (Ret W (.int .u64 u0)))
    (D0 : ∀ W v, (if p then Num W v M else v = .slice A n c ∧ Below w.heap.size w W) → f = true → Calls Try.prog 79 #[v, .int .i64 0] W (Ret W (.int .u64 u1))) :
    Calls Try.prog 38 #[.agg #[.bool p, .slice A n c]] w (Ret w (.tuple #[wideV g0 g1, .bool f])) := by
  subst hv
  replace FT := Lib.hid FT
  replace P1 := Lib.hid P1
  replace MN := Lib.hid MN
  replace hw := Lib.hid hw
  cases f
  · obtain ⟨rfl, rfl⟩ := hf rfl
    clear D1 D0 P1 MN hw
    go_enter Try.func38, Try.ntmps38
    go_wp2_with fail
    refine (FT.out _ (by go_grown)).mono ?_
    rintro e w1 ⟨rfl, hb⟩
    have hHeld : Keeps w [(w.heap.size + 1, 0, .int .i64 0), (w.heap.size + 1, 1, .int .u64 0)] _ := Keeps.next (by refine ⟨by go_grown, ?_⟩; simp [Cells, go_sem]) hb
    clear hb
    obtain ⟨⟨kz0, kc0, kf0⟩, ⟨kz1, kc1, kf1⟩, _⟩ := hHeld.2
    go_wp2_with fail
    obtain ⟨d0, d1⟩ := set2 (W := w1) (B := w.heap.size + 1) (u0 := .int .i64 0) (u1 := .int .u64 0) kc0 kc1
    refine bodyPost_ret (v := .tuple #[wideV 0 0, .bool false]) (by simp [results, Try.results38, go_sem, d0, d1]) rfl ?_
    exact ⟨rfl, by first | (with_reducible exact hHeld.1) | (have hB := hHeld.1; have hz := hB.size; go_grown)⟩
  · clear hf
    cases p
    · clear P1 MN
      have E1 := Lib.hid (fun W (k : Below w.heap.size w W) => D1 W _ ⟨rfl, k⟩ rfl)
      have E0 := Lib.hid (fun W (k : Below w.heap.size w W) => D0 W _ ⟨rfl, k⟩ rfl)
      clear D1 D0
      go_enter Try.func38, Try.ntmps38
      go_wp2_with fail
      refine (FT.out _ (by go_grown)).mono ?_
      rintro e w1 ⟨rfl, hb⟩
      have hHeld : Keeps w [(w.heap.size + 1, 0, .int .i64 0), (w.heap.size + 1, 1, .int .u64 0), (w.heap.size, 0, .bool false), (w.heap.size, 1, .slice A n c)] _ := Keeps.next (by refine ⟨by go_grown, ?_⟩; simp [Cells, go_sem]) hb
      clear hb
      obtain ⟨⟨kz0, kc0, kf0⟩, ⟨kz1, kc1, kf1⟩, ⟨kz2, kc2, kf2⟩, ⟨kz3, kc3, kf3⟩, _⟩ := hHeld.2
      go_wp2_with fail
      refine (E1.out _ hHeld.1).mono ?_
      rintro e w2 ⟨rfl, hb⟩
      replace hHeld := Keeps.next (hHeld) hb
      clear hb kz0 kc0 kf0 kz1 kc1 kf1 kz2 kc2 kf2 kz3 kc3 kf3
      obtain ⟨⟨kz0, kc0, kf0⟩, ⟨kz1, kc1, kf1⟩, ⟨kz2, kc2, kf2⟩, ⟨kz3, kc3, kf3⟩, _⟩ := hHeld.2
      go_wp2_with fail
      refine (E0.out _ hHeld.1).mono ?_
      rintro e w3 ⟨rfl, hb⟩
      replace hHeld := Keeps.next (hHeld) hb
      clear hb kz0 kc0 kf0 kz1 kc1 kf1 kz2 kc2 kf2 kz3 kc3 kf3
      obtain ⟨⟨kz0, kc0, kf0⟩, ⟨kz1, kc1, kf1⟩, ⟨kz2, kc2, kf2⟩, ⟨kz3, kc3, kf3⟩, _⟩ := hHeld.2
      go_wp2_with fail
      obtain ⟨d0, d1⟩ := set2 (W := w3) (B := w.heap.size + 1) (u0 := .int .i64 g0) (u1 := .int .u64 u1) kc0 kc1
      rw [← hw.out] at d0 d1 ⊢
      refine bodyPost_ret (v := .tuple #[wideV (wrap64 u0) u1, .bool true]) (by simp [results, Try.results38, go_sem, d0, d1]) rfl ?_
      exact ⟨rfl, by first | (with_reducible exact hHeld.1) | (have hB := hHeld.1; have hz := hB.size; go_grown)⟩
    · have E1 := Lib.hid (fun W v (k : Num W v M) => D1 W v k rfl)
      have E0 := Lib.hid (fun W v (k : Num W v M) => D0 W v k rfl)
      clear D1 D0
      go_enter Try.func38, Try.ntmps38
      go_wp2_with fail
      refine (FT.out _ (by go_grown)).mono ?_
      rintro e w1 ⟨rfl, hb⟩
      have hHeld : Keeps w [(w.heap.size + 1, 0, .int .i64 0), (w.heap.size + 1, 1, .int .u64 0), (w.heap.size, 0, .bool true), (w.heap.size, 1, .slice A n c)] _ := Keeps.next (by refine ⟨by go_grown, ?_⟩; simp [Cells, go_sem]) hb
      clear hb
      obtain ⟨⟨kz0, kc0, kf0⟩, ⟨kz1, kc1, kf1⟩, ⟨kz2, kc2, kf2⟩, ⟨kz3, kc3, kf3⟩, _⟩ := hHeld.2
      go_wp2_with fail
      refine (P1.out _).mono ?_
      rintro e w2 ⟨A2, n2, c2, rfl, hb, hn2⟩
      replace hHeld := hHeld.next hb
      replace hn2 := Lib.hid hn2
      clear hb kz0 kc0 kf0 kz1 kc1 kf1 kz2 kc2 kf2 kz3 kc3 kf3
      obtain ⟨⟨kz0, kc0, kf0⟩, ⟨kz1, kc1, kf1⟩, ⟨kz2, kc2, kf2⟩, ⟨kz3, kc3, kf3⟩, _⟩ := hHeld.2
      go_wp2_with fail
      refine (MN.out _ _ hHeld.1 hn2.out).mono ?_
      rintro e w3 ⟨A3, n3, c3, rfl, hb, hn3⟩
      replace hHeld := hHeld.next hb
      replace hn3 := Lib.hid hn3
      clear hb hn2 kz0 kc0 kf0 kz1 kc1 kf1 kz2 kc2 kf2 kz3 kc3 kf3
      obtain ⟨⟨kz0, kc0, kf0⟩, ⟨kz1, kc1, kf1⟩, ⟨kz2, kc2, kf2⟩, ⟨kz3, kc3, kf3⟩, _⟩ := hHeld.2
      go_wp2_with fail
      refine (E1.out _ _ hn3.out).mono ?_
      rintro e w4 ⟨rfl, hb⟩
      replace hHeld := hHeld.next hb
      replace hn3 := Lib.hid (hn3.out.below hb)
      clear hb kz0 kc0 kf0 kz1 kc1 kf1 kz2 kc2 kf2 kz3 kc3 kf3
      obtain ⟨⟨kz0, kc0, kf0⟩, ⟨kz1, kc1, kf1⟩, ⟨kz2, kc2, kf2⟩, ⟨kz3, kc3, kf3⟩, _⟩ := hHeld.2
      go_wp2_with fail
      refine (E0.out _ _ hn3.out).mono ?_
      skip
      rintro e w5 ⟨rfl, hb⟩
      replace hHeld := Keeps.next (hHeld) hb
      clear hb kz0 kc0 kf0 kz1 kc1 kf1 kz2 kc2 kf2 kz3 kc3 kf3
      obtain ⟨⟨kz0, kc0, kf0⟩, ⟨kz1, kc1, kf1⟩, ⟨kz2, kc2, kf2⟩, ⟨kz3, kc3, kf3⟩, _⟩ := hHeld.2
      go_wp2_with fail
      obtain ⟨d0, d1⟩ := set2 (W := w5) (B := w.heap.size + 1) (u0 := .int .i64 g0) (u1 := .int .u64 u1) kc0 kc1
      rw [← hw.out] at d0 d1 ⊢
      refine bodyPost_ret (v := .tuple #[wideV (wrap64 u0) u1, .bool true]) (by simp [results, Try.results38, go_sem, d0, d1]) rfl ?_
      exact ⟨rfl, by first | (with_reducible exact hHeld.1) | (have hB := hHeld.1; have hz := hB.size; go_grown)⟩
theorem wideZ_any (z : Int) (hl : (sizeL z.natAbs).length ≤ 3990) (v : Value) (w : World) (h : NumZ w v z) : Calls Try.prog 38 #[v] w (Ret w (.tuple #[wideV (rhi z) (rlo z), .bool (decide (Fits z))])) := by
  obtain ⟨A, n, c, rfl, hn⟩ := h.parts
  have FT := fun W (k : Below w.heap.size w W) => fitsZ_any z 127 128 (by omega) (by omega) (by omega) _ W (h.below k)
  have eF : decide (-((2 ^ 127 : Nat) : Int) ≤ z ∧ z < ((2 ^ 127 : Nat) : Int)) = decide (Fits z) := by
    rw [decide_eq_decide]
    unfold Fits
    omega
  rw [eF] at FT
  have lp := size_pow 128
  have P1 := fun W => (show Calls Try.prog 73 #[.int .i64 128] W (RetN W (2 ^ 128)) from (power_any 128 (by omega) W).mono fun _ _ (h : Made W _ _ _) => retN_of h.gave)
  by_cases hf : Fits z
  · rw [decide_eq_true hf] at FT ⊢
    have hm : z.natAbs ≤ 2 ^ 128 := by unfold Fits at hf; omega
    have MN := fun W a (k : Below w.heap.size w W) (ka : Num W a (2 ^ 128)) => (minus_any (2 ^ 128) z.natAbs (by omega) hm a _ W ka (hn.below k)).mono fun _ _ h => retN_of h
    have lm : (sizeL (2 ^ 128 - z.natAbs)).length ≤ 4000 := Nat.le_trans (size_mono (Nat.sub_le _ _)) (by omega)
    by_cases g : z < 0
    · obtain ⟨q1, q2⟩ := words_neg hf g
      rw [decide_eq_true g] at FT ⊢
      exact wide_walk true A n c (2 ^ 128 - z.natAbs) (rhi z) (rlo z) _ _ true w q1 q2 (fun h => by cases h) FT P1 MN (fun W v k _ => word_any _ 64 (by omega) v W k lm) (fun W v k _ => word_any _ 0 (by omega) v W k lm)
    · obtain ⟨q1, q2⟩ := words_pos hf (by omega)
      rw [decide_eq_false g] at FT ⊢
      exact wide_walk false A n c (2 ^ 128 - z.natAbs) (rhi z) (rlo z) _ _ true w q1 q2 (fun h => by cases h) FT P1 MN (fun W v k _ => by obtain ⟨rfl, k⟩ := k; exact word_any z.natAbs 64 (by omega) _ W (hn.below k) (by omega)) (fun W v k _ => by obtain ⟨rfl, k⟩ := k; exact word_any z.natAbs 0 (by omega) _ W (hn.below k) (by omega))
  · rw [decide_eq_false hf] at FT ⊢
    have z0 : rhi z = 0 := by unfold rhi; rw [if_neg hf]
    have z1 : rlo z = 0 := by unfold rlo; rw [if_neg hf]
    rw [z0, z1]
    generalize decide (z < 0) = p at *
    clear hn h eF lp P1 z0 z1
    replace FT := Lib.hid FT
    go_enter Try.func38, Try.ntmps38
    go_wp2_with fail
    refine (FT.out _ (by go_grown)).mono ?_
    rintro e w1 ⟨rfl, hb⟩
    have hHeld : Keeps w [(w.heap.size + 1, 0, .int .i64 0), (w.heap.size + 1, 1, .int .u64 0)] _ := Keeps.next (by refine ⟨by go_grown, ?_⟩; simp [Cells, go_sem]) hb
    clear hb
    obtain ⟨⟨kz0, kc0, kf0⟩, ⟨kz1, kc1, kf1⟩, _⟩ := hHeld.2
    go_wp2_with fail
    obtain ⟨d0, d1⟩ := set2 (W := w1) (B := w.heap.size + 1) (u0 := .int .i64 0) (u1 := .int .u64 0) kc0 kc1
    refine bodyPost_ret (v := .tuple #[wideV 0 0, .bool false]) (by simp [results, Try.results38, go_sem, d0, d1]) rfl ?_
    exact ⟨rfl, by first | (with_reducible exact hHeld.1) | (have hB := hHeld.1; have hz := hB.size; go_grown)⟩
end Go.Proofs.Ytnacdofidmgfmaa
