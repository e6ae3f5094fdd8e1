/-
  The document's own answers, thirteenth part: Fits, Value. Conditions: those written at each fact.
-/
import Derived.Test.YtmkminaipeodnaaRefL
namespace Go.Proofs.Ytmkminaipeodnaa
open Go.RowKit

set_option maxRecDepth 100000 in
set_option maxHeartbeats 2000000 in
theorem fits_neg (A : Option Addr) (n c j pw : Nat) (K : Int) (hK : K = (j : Int) + 1) (hj : j ≤ 200) (r : Bool) (w : World)
    (P : ∀ W, Calls Try.prog 59 #[.int .i64 j] W (RetN W pw)) (LS : ∀ u W L, Num W u pw → Keeps w L W → Calls Try.prog 58 #[u, .slice A n c] W (Ret W (.bool r))) :
    Calls Try.prog 60 #[.agg #[.bool true, .slice A n c], .int .i64 K] w (Ret w (.bool (!r))) := by
  have P := Lib.hid P
  have LS := Lib.hid LS
  have e1 : IntKind.i64.wrap (j : Int) = (j : Int) := by rw [IntKind.wrap_i64]; omega
  have e2 : K - 1 = (j : Int) := by omega
  clear hK hj
  go_enter Try.func60, Try.ntmps60
  go_wp2_with fail
  refine region_keeps (w0 := w) (L := [(w.heap.size, 0, .bool true), (w.heap.size, 1, .slice A n c)]) (by kernel_rfl) (by first | exact hHeld | (refine ⟨by go_grown, ?_⟩; simp [Cells, go_sem]; done)) (fun hHeld0 => ?_)
  refine wpAnyH_take (i := 0) (oi := ⟨some 7, _, _, _, _, _⟩) (v := ?_) rfl (by kernel_rfl) (by kernel_rfl) (by kernel_rfl) (fun _ _ _ h => h) (Or.inl ⟨by rfl, ?_⟩) (by assumption) ?_
  rotate_left
  · intro wq hSw; go_simp; (try with_reducible rfl)
  try simp only [Act.put, List.setIfInBounds_toArray, List.set_cons_zero, List.set_cons_succ]
  refine wpAnyH_take (i := 1) (oi := ⟨some 8, _, _, _, _, _⟩) (v := ?_) rfl (by kernel_rfl) (by kernel_rfl) (by kernel_rfl) (fun _ _ _ h => h) (Or.inl ⟨by rfl, ?_⟩) (by assumption) ?_
  rotate_left
  · intro wq hSw; go_simp; (try with_reducible rfl)
  try simp only [Act.put, List.setIfInBounds_toArray, List.set_cons_zero, List.set_cons_succ]
  refine wpAnyH_take (i := 3) (oi := ⟨some 10, _, _, _, _, _⟩) (v := ?_) rfl (by kernel_rfl) (by kernel_rfl) (by kernel_rfl) (fun _ _ _ h => h) (Or.inl ⟨by rfl, ?_⟩) (by assumption) ?_
  rotate_left
  · intro wq hSw; go_simp; (try with_reducible rfl)
  try simp only [Act.put, List.setIfInBounds_toArray, List.set_cons_zero, List.set_cons_succ]
  refine wpAnyH_take (i := 4) (oi := ⟨some 11, _, _, _, _, _⟩) (v := ?_) rfl (by kernel_rfl) (by kernel_rfl) (by kernel_rfl) (fun _ _ _ h => h) (Or.inl ⟨by rfl, ?_⟩) (by assumption) ?_
  rotate_left
  · intro wq hSw; obtain ⟨⟨qz0, qc0, qf0⟩, ⟨qz1, qc1, qf1⟩, _⟩ := hSw.2; go_simp; (try with_reducible rfl)
  try simp only [Act.put, List.setIfInBounds_toArray, List.set_cons_zero, List.set_cons_succ]
  refine wpAnyH_ready (rs := [2]) (by kernel_rfl) (by simp) ?_
  refine AllReadyH.cons (o := ⟨some 9, _, _, _, _, _⟩) rfl (fun K hK => ?_) AllReadyH.nil
  go_simp
  (first | ((with_reducible refine (P.out _).mono ?_); rintro e w5 ⟨A5, n5, c5, rfl, hb, hn5⟩) | ((with_reducible refine (LS.out _ _ _ (by assumption) (by assumption)).mono ?_); rintro e w6 ⟨rfl, hb⟩))
  refine hK.out _ _ (hHeld0.next hb) (fun hHeld1 => ?_)
  clear hK K
  try clear hb
  try simp only [Act.put, List.setIfInBounds_toArray, List.set_cons_zero, List.set_cons_succ]
  refine wpAnyH_ready (rs := [5]) (by kernel_rfl) (by simp) ?_
  refine AllReadyH.cons (o := ⟨some 12, _, _, _, _, _⟩) rfl (fun K hK => ?_) AllReadyH.nil
  go_simp
  (first | ((with_reducible refine (P.out _).mono ?_); rintro e w5 ⟨A5, n5, c5, rfl, hb, hn5⟩) | ((with_reducible refine (LS.out _ _ _ (by assumption) (by assumption)).mono ?_); rintro e w6 ⟨rfl, hb⟩))
  refine hK.out _ _ (hHeld1.next hb) (fun hHeld2 => ?_)
  clear hK K
  try clear hb
  try simp only [Act.put, List.setIfInBounds_toArray, List.set_cons_zero, List.set_cons_succ]
  refine wpAnyH_take (i := 6) (oi := ⟨some 13, _, _, _, _, _⟩) (v := ?_) rfl (by kernel_rfl) (by kernel_rfl) (by kernel_rfl) (fun _ _ _ h => h) (Or.inl ⟨by rfl, ?_⟩) (by assumption) ?_
  rotate_left
  · intro wq hSw; go_simp; (try with_reducible rfl)
  try simp only [Act.put, List.setIfInBounds_toArray, List.set_cons_zero, List.set_cons_succ]
  refine wpAnyH_take (i := 7) (oi := ⟨some 4, _, _, _, _, _⟩) (v := ?_) rfl (by kernel_rfl) (by kernel_rfl) (by kernel_rfl) (fun _ _ _ h => h) (Or.inl ⟨by rfl, ?_⟩) (by assumption) ?_
  rotate_left
  · intro wq hSw; go_simp; (try with_reducible rfl)
  try simp only [Act.put, List.setIfInBounds_toArray, List.set_cons_zero, List.set_cons_succ]
  refine wpAnyH_done (by kernel_rfl) ?_ _
  have hHeld := hHeld2
  obtain ⟨⟨kz0, kc0, kf0⟩, ⟨kz1, kc1, kf1⟩, _⟩ := hHeld.2
  go_wp2_with fail
  go_ret
  exact ⟨rfl, hHeld.1⟩
set_option maxRecDepth 100000 in
set_option maxHeartbeats 2000000 in
theorem fits_pos (A : Option Addr) (n c j pw : Nat) (K : Int) (hK : K = (j : Int) + 1) (hj : j ≤ 200) (r : Bool) (w : World)
    (P : ∀ W, Calls Try.prog 59 #[.int .i64 j] W (RetN W pw)) (LS : ∀ u W L, Num W u pw → Keeps w L W → Calls Try.prog 58 #[.slice A n c, u] W (Ret W (.bool r))) :
    Calls Try.prog 60 #[.agg #[.bool false, .slice A n c], .int .i64 K] w (Ret w (.bool r)) := by
  have P := Lib.hid P
  have LS := Lib.hid LS
  have e1 : IntKind.i64.wrap (j : Int) = (j : Int) := by rw [IntKind.wrap_i64]; omega
  have e2 : K - 1 = (j : Int) := by omega
  clear hK hj
  go_enter Try.func60, Try.ntmps60
  go_wp2_with fail
  refine region_keeps (w0 := w) (L := [(w.heap.size, 0, .bool false), (w.heap.size, 1, .slice A n c)]) (by kernel_rfl) (by first | exact hHeld | (refine ⟨by go_grown, ?_⟩; simp [Cells, go_sem]; done)) (fun hHeld0 => ?_)
  refine wpAnyH_take (i := 0) (oi := ⟨some 14, _, _, _, _, _⟩) (v := ?_) rfl (by kernel_rfl) (by kernel_rfl) (by kernel_rfl) (fun _ _ _ h => h) (Or.inl ⟨by rfl, ?_⟩) (by assumption) ?_
  rotate_left
  · intro wq hSw; go_simp; (try with_reducible rfl)
  try simp only [Act.put, List.setIfInBounds_toArray, List.set_cons_zero, List.set_cons_succ]
  refine wpAnyH_take (i := 1) (oi := ⟨some 15, _, _, _, _, _⟩) (v := ?_) rfl (by kernel_rfl) (by kernel_rfl) (by kernel_rfl) (fun _ _ _ h => h) (Or.inl ⟨by rfl, ?_⟩) (by assumption) ?_
  rotate_left
  · intro wq hSw; obtain ⟨⟨qz0, qc0, qf0⟩, ⟨qz1, qc1, qf1⟩, _⟩ := hSw.2; go_simp; (try with_reducible rfl)
  try simp only [Act.put, List.setIfInBounds_toArray, List.set_cons_zero, List.set_cons_succ]
  refine wpAnyH_take (i := 2) (oi := ⟨some 16, _, _, _, _, _⟩) (v := ?_) rfl (by kernel_rfl) (by kernel_rfl) (by kernel_rfl) (fun _ _ _ h => h) (Or.inl ⟨by rfl, ?_⟩) (by assumption) ?_
  rotate_left
  · intro wq hSw; go_simp; (try with_reducible rfl)
  try simp only [Act.put, List.setIfInBounds_toArray, List.set_cons_zero, List.set_cons_succ]
  refine wpAnyH_take (i := 3) (oi := ⟨some 17, _, _, _, _, _⟩) (v := ?_) rfl (by kernel_rfl) (by kernel_rfl) (by kernel_rfl) (fun _ _ _ h => h) (Or.inl ⟨by rfl, ?_⟩) (by assumption) ?_
  rotate_left
  · intro wq hSw; go_simp; (try with_reducible rfl)
  try simp only [Act.put, List.setIfInBounds_toArray, List.set_cons_zero, List.set_cons_succ]
  refine wpAnyH_ready (rs := [4]) (by kernel_rfl) (by simp) ?_
  refine AllReadyH.cons (o := ⟨some 18, _, _, _, _, _⟩) rfl (fun K hK => ?_) AllReadyH.nil
  go_simp
  (first | ((with_reducible refine (P.out _).mono ?_); rintro e w5 ⟨A5, n5, c5, rfl, hb, hn5⟩) | ((with_reducible refine (LS.out _ _ _ (by assumption) (by assumption)).mono ?_); rintro e w6 ⟨rfl, hb⟩))
  refine hK.out _ _ (hHeld0.next hb) (fun hHeld1 => ?_)
  clear hK K
  try clear hb
  try simp only [Act.put, List.setIfInBounds_toArray, List.set_cons_zero, List.set_cons_succ]
  refine wpAnyH_ready (rs := [5]) (by kernel_rfl) (by simp) ?_
  refine AllReadyH.cons (o := ⟨some 19, _, _, _, _, _⟩) rfl (fun K hK => ?_) AllReadyH.nil
  go_simp
  (first | ((with_reducible refine (P.out _).mono ?_); rintro e w5 ⟨A5, n5, c5, rfl, hb, hn5⟩) | ((with_reducible refine (LS.out _ _ _ (by assumption) (by assumption)).mono ?_); rintro e w6 ⟨rfl, hb⟩))
  refine hK.out _ _ (hHeld1.next hb) (fun hHeld2 => ?_)
  clear hK K
  try clear hb
  try simp only [Act.put, List.setIfInBounds_toArray, List.set_cons_zero, List.set_cons_succ]
  refine wpAnyH_take (i := 6) (oi := ⟨some 4, _, _, _, _, _⟩) (v := ?_) rfl (by kernel_rfl) (by kernel_rfl) (by kernel_rfl) (fun _ _ _ h => h) (Or.inl ⟨by rfl, ?_⟩) (by assumption) ?_
  rotate_left
  · intro wq hSw; go_simp; (try with_reducible rfl)
  try simp only [Act.put, List.setIfInBounds_toArray, List.set_cons_zero, List.set_cons_succ]
  refine wpAnyH_done (by kernel_rfl) ?_ _
  have hHeld := hHeld2
  obtain ⟨⟨kz0, kc0, kf0⟩, ⟨kz1, kc1, kf1⟩, _⟩ := hHeld.2
  go_wp2_with fail
  go_ret
  exact ⟨rfl, hHeld.1⟩
theorem fitsZ_any (z : Int) (j : Nat) (K : Int) (hK : K = (j : Int) + 1) (hj : j ≤ 200) (hl : (sizeL z.natAbs).length ≤ 4000) (v : Value) (w : World) (h : NumZ w v z) :
    Calls Try.prog 60 #[v, .int .i64 K] w (Ret w (.bool (decide (-((2 ^ j : Nat) : Int) ≤ z ∧ z < ((2 ^ j : Nat) : Int))))) := by
  obtain ⟨A, n, c, rfl, hn⟩ := h.parts
  have P := fun W => (power_any j (by omega) W).mono fun _ _ (h : Made W _ _ _) => retN_of h.gave
  have hp := size_pow j
  by_cases g : z < 0
  · have e : decide (-((2 ^ j : Nat) : Int) ≤ z ∧ z < ((2 ^ j : Nat) : Int)) = !decide (2 ^ j < z.natAbs) := by
      have := Nat.two_pow_pos j
      rw [Bool.eq_iff_iff]; simp only [Bool.not_eq_true', decide_eq_false_iff_not, decide_eq_true_eq]
      generalize 2 ^ j = q at *
      omega
    rw [e, decide_eq_true g]
    exact fits_neg A n c j _ K hK hj _ w P (fun u W L k hk => less_any (2 ^ j) z.natAbs (by omega) hl u _ W k (hn.below hk.1))
  · have e : decide (-((2 ^ j : Nat) : Int) ≤ z ∧ z < ((2 ^ j : Nat) : Int)) = decide (z.natAbs < 2 ^ j) := by
      rw [Bool.eq_iff_iff]; simp only [decide_eq_true_eq]
      generalize 2 ^ j = q at *
      omega
    rw [e, decide_eq_false g]
    exact fits_pos A n c j _ K hK hj _ w P (fun u W L k hk => less_any z.natAbs (2 ^ j) hl (by omega) _ u W (hn.below hk.1) k)

set_option maxRecDepth 100000 in
set_option maxHeartbeats 2000000 in
theorem value_no (p : Bool) (A : Option Addr) (n c : Nat) (w : World) (F : ∀ W, Below w.heap.size w W → Calls Try.prog 60 #[.agg #[.bool p, .slice A n c], .int .i64 64] W (Ret W (.bool false))) :
    Calls Try.prog 47 #[.agg #[.bool p, .slice A n c]] w (Ret w (.tuple #[.int .i64 0, .bool false])) := by
  have F := Lib.hid F
  go_enter Try.func47, Try.ntmps47
  go_wp2_with fail
  refine (F.out _ (below_alloc w _)).mono ?_
  rintro e w1 ⟨rfl, hb1⟩
  have HB := Lib.hid (below_thru (below_alloc w _) hb1)
  clear hb1
  go_wp2_with fail
  go_ret2
  exact ⟨rfl, HB.out⟩
set_option maxRecDepth 100000 in
set_option maxHeartbeats 2000000 in
theorem value_pos (A : Option Addr) (n c : Nat) (z : Int) (h0 : 0 ≤ z) (hz : z ≤ 9223372036854775807) (w : World) (F : ∀ W, Below w.heap.size w W → Calls Try.prog 60 #[.agg #[.bool false, .slice A n c], .int .i64 64] W (Ret W (.bool true)))
    (WD : ∀ W, Below w.heap.size w W → Calls Try.prog 61 #[.slice A n c, .int .i64 0] W (Ret W (.int .u64 z))) :
    Calls Try.prog 47 #[.agg #[.bool false, .slice A n c]] w (Ret w (.tuple #[.int .i64 z, .bool true])) := by
  have F := Lib.hid F
  have WD := Lib.hid WD
  go_enter Try.func47, Try.ntmps47
  go_wp2_with fail
  refine (F.out _ (below_alloc w _)).mono ?_
  rintro e w1 ⟨rfl, hb⟩
  have hHeld : Keeps w [(w.heap.size, 0, .bool false), (w.heap.size, 1, .slice A n c)] _ := Keeps.next (by refine ⟨by go_grown, ?_⟩; simp [Cells, go_sem]) hb
  clear hb
  obtain ⟨⟨kz0, kc0, kf0⟩, ⟨kz1, kc1, kf1⟩, _⟩ := hHeld.2
  go_wp2_with fail
  refine (WD.out _ hHeld.1).mono ?_
  rintro e w2 ⟨rfl, hb⟩
  replace hHeld := Keeps.next (hHeld) hb
  clear hb kz0 kc0 kf0 kz1 kc1 kf1
  obtain ⟨⟨kz0, kc0, kf0⟩, ⟨kz1, kc1, kf1⟩, _⟩ := hHeld.2
  go_wp2_with fail
  go_ret2
  exact ⟨rfl, hHeld.1⟩
set_option maxRecDepth 100000 in
set_option maxHeartbeats 2000000 in
theorem value_neg (A : Option Addr) (n c pw m : Nat) (z y : Int) (hw : IntKind.i64.wrap y = z) (w : World) (F : ∀ W, Below w.heap.size w W → Calls Try.prog 60 #[.agg #[.bool true, .slice A n c], .int .i64 64] W (Ret W (.bool true)))
    (P : ∀ W, Calls Try.prog 59 #[.int .i64 64] W (RetN W pw)) (MN : ∀ u W, Below w.heap.size w W → Num W u pw → Calls Try.prog 57 #[u, .slice A n c] W (RetN W m))
    (WD : ∀ u W, Num W u m → Calls Try.prog 61 #[u, .int .i64 0] W (Ret W (.int .u64 y))) :
    Calls Try.prog 47 #[.agg #[.bool true, .slice A n c]] w (Ret w (.tuple #[.int .i64 z, .bool true])) := by
  have F := Lib.hid F
  have P := Lib.hid P
  have MN := Lib.hid MN
  have WD := Lib.hid WD
  have hw2 : wrap64 y = z := by rw [← hw, IntKind.wrap_i64]; unfold wrap64; omega
  go_enter Try.func47, Try.ntmps47
  go_wp2_with fail
  refine (F.out _ (below_alloc w _)).mono ?_
  rintro e w1 ⟨rfl, hb⟩
  have hHeld : Keeps w [(w.heap.size, 0, .bool true), (w.heap.size, 1, .slice A n c)] _ := Keeps.next (by refine ⟨by go_grown, ?_⟩; simp [Cells, go_sem]) hb
  clear hb
  obtain ⟨⟨kz0, kc0, kf0⟩, ⟨kz1, kc1, kf1⟩, _⟩ := hHeld.2
  go_wp2_with fail
  refine (P.out _).mono ?_
  rintro e w2 ⟨A2, n2, c2, rfl, hb, hn2⟩
  have HN2 := Lib.hid hn2
  replace hHeld := hHeld.next hb
  clear hb hn2 kz0 kc0 kf0 kz1 kc1 kf1
  obtain ⟨⟨kz0, kc0, kf0⟩, ⟨kz1, kc1, kf1⟩, _⟩ := hHeld.2
  go_wp2_with fail
  refine (MN.out _ _ hHeld.1 HN2.out).mono ?_
  rintro e w3 ⟨A3, n3, c3, rfl, hb, hn3⟩
  have HN3 := Lib.hid hn3
  replace hHeld := hHeld.next hb
  clear hb hn3 kz0 kc0 kf0 kz1 kc1 kf1 HN2
  go_wp2_with fail
  refine (WD.out _ _ HN3.out).mono ?_
  rintro e w4 ⟨rfl, hb⟩
  replace hHeld := hHeld.next hb
  clear hb HN3
  go_wp2_with fail
  go_ret2
  exact ⟨rfl, hHeld.1⟩
/-- A number's value of 64 bits, if it has one. -/
def valueV (z : Int) : Int := if -9223372036854775808 ≤ z ∧ z < 9223372036854775808 then z else 0
def valueB (z : Int) : Bool := decide (-9223372036854775808 ≤ z ∧ z < 9223372036854775808)
theorem valueZ_any (z : Int) (hl : (sizeL z.natAbs).length ≤ 4000) (v : Value) (w : World) (h : NumZ w v z) : Calls Try.prog 47 #[v] w (Ret w (.tuple #[.int .i64 (valueV z), .bool (valueB z)])) := by
  have F := fun W (hb : Below w.heap.size w W) => fitsZ_any z 63 64 (by decide) (by decide) hl v W (h.below hb)
  have e63 : ((2 ^ 63 : Nat) : Int) = 9223372036854775808 := by decide
  rw [e63] at F
  obtain ⟨A, n, c, rfl, hn⟩ := h.parts
  unfold valueV valueB
  by_cases g : -9223372036854775808 ≤ z ∧ z < 9223372036854775808
  · rw [decide_eq_true g] at F ⊢
    rw [if_pos g]
    by_cases s : z < 0
    · rw [decide_eq_true s] at F ⊢
      have hm : (2 ^ 64 - z.natAbs) < 2 ^ 64 := by omega
      refine value_neg A n c (2 ^ 64) (2 ^ 64 - z.natAbs) z (((2 ^ 64 - z.natAbs) / 2 ^ 0 % 18446744073709551616 : Nat) : Int) ?_ w F
        (fun W => (power_any 64 (by decide) W).mono fun _ _ (h : Made W _ _ _) => retN_of h.gave)
        (fun u W hb k => (minus_any (2 ^ 64) z.natAbs (by have := size_pow 64; omega) (by omega) u _ W k (hn.below hb)).mono fun _ _ h => retN_of h)
        (fun u W k => word_any _ 0 (by decide) u W k (by have := sizeL_length 64 (2 ^ 64 - z.natAbs) hm; omega))
      rw [IntKind.wrap_i64]
      omega
    · rw [decide_eq_false s] at F ⊢
      refine value_pos A n c z (by omega) (by omega) w F (fun W hb => ?_)
      have := word_any z.natAbs 0 (by decide) _ W (hn.below hb) (by omega)
      rw [show ((z.natAbs / 2 ^ 0 % 18446744073709551616 : Nat) : Int) = z by omega] at this
      exact this
  · rw [decide_eq_false g] at F ⊢
    rw [if_neg g]
    exact value_no _ A n c w F
end Go.Proofs.Ytmkminaipeodnaa
