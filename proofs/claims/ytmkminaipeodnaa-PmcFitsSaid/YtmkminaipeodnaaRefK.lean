/-
  The document's own answers, eleventh part: numbers that are made: powers, products. Conditions: those written at each fact.
-/
import Derived.Test.YtmkminaipeodnaaRefJ
import Derived.Test.YtmkminaipeodnaaStruct
import Derived.Test.YtmkminaipeodnaaKitX
namespace Go.Proofs.Ytmkminaipeodnaa
open Go.RowKit

/-- A row isn't touched by a store into cells that hold a bool and a slice. -/
theorem Num.set2 {W : World} {v : Value} {x B n c : Nat} {b : Bool} {A : Option Addr} (h : Num W v x) (h0 : W.cell? ⟨B, 0, none⟩ = some (.bool b)) (h1 : W.cell? ⟨B, 1, none⟩ = some (.slice A n c)) (u0 u1 : Value) :
    Num ((W.setCell ⟨B, 0, none⟩ u0).setCell ⟨B, 1, none⟩ u1) v x := by
  obtain ⟨A', c', e, hc, hk⟩ := h
  refine ⟨A', c', e, hc, fun k hl => ?_⟩
  obtain ⟨b', off, e1, e2, e3⟩ := hk k hl
  refine ⟨b', off, e1, by simpa [World.setCell] using e2, ?_⟩
  have n0 : (⟨B, 0, none⟩ : Addr) ≠ ⟨b', off + k, none⟩ := fun e => by rw [← e, h0] at e3; cases e3
  have n1 : (⟨B, 1, none⟩ : Addr) ≠ ⟨b', off + k, none⟩ := fun e => by rw [← e, h1] at e3; cases e3
  rw [World.cell?_setCell_other _ _ _ _ n1, World.cell?_setCell_other _ _ _ _ n0]
  exact e3
theorem NumZ.set2 {W : World} {v : Value} {z : Int} {B n c : Nat} {b : Bool} {A : Option Addr} (h : NumZ W v z) (h0 : W.cell? ⟨B, 0, none⟩ = some (.bool b)) (h1 : W.cell? ⟨B, 1, none⟩ = some (.slice A n c)) (u0 u1 : Value) :
    NumZ ((W.setCell ⟨B, 0, none⟩ u0).setCell ⟨B, 1, none⟩ u1) v z := by
  obtain ⟨s, e, k⟩ := h
  exact ⟨s, e, k.set2 h0 h1 u0 u1⟩
/-- What a call hands back that makes a number: its sign and its row. -/
def RetZ (w : World) (z : Int) (e : Ending) (w' : World) : Prop := ∃ b A n c, e = .returned (.agg #[.bool b, .slice A n c]) ∧ Below w.heap.size w w' ∧ NumZ w' (.agg #[.bool b, .slice A n c]) z
theorem NumZ.parts {w : World} {v : Value} {z : Int} (h : NumZ w v z) : ∃ A n c, v = .agg #[.bool (decide (z < 0)), .slice A n c] ∧ Num w (.slice A n c) z.natAbs := by
  obtain ⟨s, rfl, hn⟩ := h
  obtain ⟨A, c, rfl, hc, hk⟩ := hn
  exact ⟨A, _, c, rfl, A, c, rfl, hc, hk⟩
theorem retZ_of {w : World} {z : Int} {e : Ending} {w' : World} (h : GaveZ w z e w') : RetZ w z e w' := by
  obtain ⟨v, rfl, hb, hz⟩ := h
  obtain ⟨A, n, c, rfl, hn⟩ := hz.parts
  exact ⟨_, A, n, c, rfl, hb, _, rfl, hn⟩
/-- A sign and a size make a number. -/
theorem made2_any (z : Int) (b : Bool) (x : Nat) (hx : z.natAbs = x) (hb : (b && decide (x ≠ 0)) = decide (z < 0)) (v : Value) (w : World) (h : Num w v x) : Calls Try.prog 54 #[.bool b, v] w (RetZ w z) :=
  (made_any z b (by rw [hx]; exact hb) v w (by rw [hx]; exact h)).mono fun _ _ => retZ_of
/-- What a call hands back that makes a row. -/
def RetN (w : World) (x : Nat) (e : Ending) (w' : World) : Prop := ∃ A n c, e = .returned (.slice A n c) ∧ Below w.heap.size w w' ∧ Num w' (.slice A n c) x
theorem retN_of {w : World} {x : Nat} {e : Ending} {w' : World} (h : Gave w x e w') : RetN w x e w' := by
  obtain ⟨v, rfl, hb, hn⟩ := h
  obtain ⟨A, c, rfl, hc, hk⟩ := hn
  exact ⟨A, _, c, rfl, hb, A, c, rfl, hc, hk⟩
theorem sgn_nat (x : Nat) : decide (((x : Nat) : Int) < 0) = false := decide_eq_false (by omega)
theorem numZ_nat {w : World} {A : Option Addr} {n c x : Nat} (h : Num w (.slice A n c) x) : NumZ w (.agg #[.bool false, .slice A n c]) (x : Int) := ⟨_, by rw [sgn_nat], by rw [Int.natAbs_natCast]; exact h⟩

theorem sgn_mul (x y : Int) : ((decide (x < 0) != decide (y < 0)) && decide (x.natAbs * y.natAbs ≠ 0)) = decide (x * y < 0) := by
  rw [Bool.eq_iff_iff]
  simp only [Bool.and_eq_true, bne_iff_ne, ne_eq, decide_eq_decide, decide_eq_true_eq, Nat.mul_eq_zero, Int.natAbs_eq_zero]
  rcases Int.lt_trichotomy x 0 with hx | hx | hx <;> rcases Int.lt_trichotomy y 0 with hy | hy | hy
  · have := Int.mul_pos_of_neg_of_neg hx hy; omega
  · subst hy; simp
  · have := Int.mul_neg_of_neg_of_pos hx hy; omega
  · subst hx; simp
  · subst hx; simp
  · subst hx; simp
  · have := Int.mul_neg_of_pos_of_neg hx hy; omega
  · subst hy; simp
  · have := Int.mul_pos hx hy; omega
set_option maxRecDepth 100000 in
set_option maxHeartbeats 4000000 in
theorem add_same (p : Bool) (A A' : Option Addr) (n c n' c' : Nat) (m : Nat) (z : Int) (w : World)
    (T : ∀ W L, Keeps w L W → Calls Try.prog 55 #[.slice A n c, .slice A' n' c'] W (RetN W m)) (M : ∀ u W, Num W u m → Calls Try.prog 54 #[.bool p, u] W (RetZ W z)) :
    Calls Try.prog 45 #[.agg #[.bool p, .slice A n c], .agg #[.bool p, .slice A' n' c']] w (RetZ w z) := by
  have T := Lib.hid T
  have M := Lib.hid M
  go_enter Try.func45, Try.ntmps45
  go_wp2_with fail
  refine region_keepsB (w0 := w) (L := [(w.heap.size, 0, .bool p), (w.heap.size, 1, .slice A n c), (w.heap.size + 1, 0, .bool p), (w.heap.size + 1, 1, .slice A' n' c')]) (M := [(w.heap.size + 1 + 1, 0, .bool false), (w.heap.size + 1 + 1, 1, .slice none 0 0)]) (by kernel_rfl) (by first | exact hHeld | (refine ⟨by go_grown, ?_⟩; simp [Cells, go_sem]; done)) (by first | exact hHeld | (refine ⟨by go_grown, ?_⟩; simp [Cells, go_sem]; done)) (fun hHeld0 hT0 => ?_)
  refine wpAnyH_take (i := 0) (oi := ⟨some 10, _, _, _, _, _⟩) (v := ?_) rfl (by kernel_rfl) (by kernel_rfl) (by kernel_rfl) (fun _ _ _ h => h) (Or.inl ⟨by rfl, ?_⟩) (by assumption) ?_
  rotate_left
  · intro wq hSw; go_simp; (try with_reducible rfl)
  try simp only [Act.put, List.setIfInBounds_toArray, List.set_cons_zero, List.set_cons_succ]
  refine wpAnyH_take (i := 1) (oi := ⟨some 11, _, _, _, _, _⟩) (v := ?_) rfl (by kernel_rfl) (by kernel_rfl) (by kernel_rfl) (fun _ _ _ h => h) (Or.inl ⟨by rfl, ?_⟩) (by assumption) ?_
  rotate_left
  · intro wq hSw; obtain ⟨⟨qz0, qc0, qf0⟩, ⟨qz1, qc1, qf1⟩, ⟨qz2, qc2, qf2⟩, ⟨qz3, qc3, qf3⟩, _⟩ := hSw.2; go_simp; (try with_reducible rfl)
  try simp only [Act.put, List.setIfInBounds_toArray, List.set_cons_zero, List.set_cons_succ]
  refine wpAnyH_take (i := 2) (oi := ⟨some 12, _, _, _, _, _⟩) (v := ?_) rfl (by kernel_rfl) (by kernel_rfl) (by kernel_rfl) (fun _ _ _ h => h) (Or.inl ⟨by rfl, ?_⟩) (by assumption) ?_
  rotate_left
  · intro wq hSw; go_simp; (try with_reducible rfl)
  try simp only [Act.put, List.setIfInBounds_toArray, List.set_cons_zero, List.set_cons_succ]
  refine wpAnyH_take (i := 3) (oi := ⟨some 13, _, _, _, _, _⟩) (v := ?_) rfl (by kernel_rfl) (by kernel_rfl) (by kernel_rfl) (fun _ _ _ h => h) (Or.inl ⟨by rfl, ?_⟩) (by assumption) ?_
  rotate_left
  · intro wq hSw; obtain ⟨⟨qz0, qc0, qf0⟩, ⟨qz1, qc1, qf1⟩, ⟨qz2, qc2, qf2⟩, ⟨qz3, qc3, qf3⟩, _⟩ := hSw.2; go_simp; (try with_reducible rfl)
  try simp only [Act.put, List.setIfInBounds_toArray, List.set_cons_zero, List.set_cons_succ]
  refine wpAnyH_take (i := 4) (oi := ⟨some 14, _, _, _, _, _⟩) (v := ?_) rfl (by kernel_rfl) (by kernel_rfl) (by kernel_rfl) (fun _ _ _ h => h) (Or.inl ⟨by rfl, ?_⟩) (by assumption) ?_
  rotate_left
  · intro wq hSw; go_simp; (try with_reducible rfl)
  try simp only [Act.put, List.setIfInBounds_toArray, List.set_cons_zero, List.set_cons_succ]
  refine wpAnyH_take (i := 5) (oi := ⟨some 15, _, _, _, _, _⟩) (v := ?_) rfl (by kernel_rfl) (by kernel_rfl) (by kernel_rfl) (fun _ _ _ h => h) (Or.inl ⟨by rfl, ?_⟩) (by assumption) ?_
  rotate_left
  · intro wq hSw; obtain ⟨⟨qz0, qc0, qf0⟩, ⟨qz1, qc1, qf1⟩, ⟨qz2, qc2, qf2⟩, ⟨qz3, qc3, qf3⟩, _⟩ := hSw.2; go_simp; (try with_reducible rfl)
  try simp only [Act.put, List.setIfInBounds_toArray, List.set_cons_zero, List.set_cons_succ]
  refine wpAnyH_ready (rs := [6]) (by kernel_rfl) (by simp) ?_
  refine AllReadyH.cons (o := ⟨some 16, _, _, _, _, _⟩) rfl (fun K hK => ?_) AllReadyH.nil
  go_simp
  (first | ((with_reducible refine (T.out _ _ (by assumption)).mono ?_); rintro e w5 ⟨A5, n5, c5, rfl, hb, hn5⟩) | ((with_reducible refine (M.out _ _ (by assumption)).mono ?_); rintro e w6 ⟨b6, A6, n6, c6, rfl, hb, hz6⟩))
  refine hK.out _ _ (hHeld0.next hb) (fun hHeld1 => ?_)
  replace hT0 := hT0.next hb
  clear hK K
  try clear hb
  try simp only [Act.put, List.setIfInBounds_toArray, List.set_cons_zero, List.set_cons_succ]
  refine wpAnyH_ready (rs := [7]) (by kernel_rfl) (by simp) ?_
  refine AllReadyH.cons (o := ⟨some 17, _, _, _, _, _⟩) rfl (fun K hK => ?_) AllReadyH.nil
  go_simp
  (first | ((with_reducible refine (T.out _ _ (by assumption)).mono ?_); rintro e w5 ⟨A5, n5, c5, rfl, hb, hn5⟩) | ((with_reducible refine (M.out _ _ (by assumption)).mono ?_); rintro e w6 ⟨b6, A6, n6, c6, rfl, hb, hz6⟩))
  refine hK.out _ _ (hHeld1.next hb) (fun hHeld2 => ?_)
  replace hT0 := hT0.next hb
  clear hK K
  try clear hb
  try simp only [Act.put, List.setIfInBounds_toArray, List.set_cons_zero, List.set_cons_succ]
  refine wpAnyH_ready (rs := [8]) (by kernel_rfl) (by simp) ?_
  refine AllReadyH.cons (o := ⟨none, _, _, _, _, _⟩) rfl (fun K hK => ?_) AllReadyH.nil
  obtain ⟨⟨t0z0, t0c0, t0f0⟩, ⟨t0z1, t0c1, t0f1⟩, _⟩ := hT0.2; (try simp at t0z0); (try simp at t0c0); (try simp at t0f0); (try simp at t0z1); (try simp at t0c1); (try simp at t0f1)
  go_simp
  refine hK.out _ _ (by first | exact hHeld2.alloc _ | (repeat (first | (with_reducible exact hHeld2) | (with_reducible exact (Keeps.undrewR hHeld2)) | (refine Keeps.set ?_ (by simp <;> omega) (by simp <;> omega) _) | (with_reducible refine Keeps.drew ?_)))) (fun hHeld3 => ?_)
  clear hK K
  try clear hb
  try simp only [Act.put, List.setIfInBounds_toArray, List.set_cons_zero, List.set_cons_succ]
  refine wpAnyH_done (by kernel_rfl) ?_ _
  have hHeld := hHeld3
  obtain ⟨⟨kz0, kc0, kf0⟩, ⟨kz1, kc1, kf1⟩, ⟨kz2, kc2, kf2⟩, ⟨kz3, kc3, kf3⟩, _⟩ := hHeld.2
  obtain ⟨d0, d1⟩ := set2 (W := w6) (B := w.heap.size + 1 + 1) (u0 := .bool b6) (u1 := .slice A6 n6 c6) t0c0 t0c1; go_wp2_with fail; refine bodyPost_ret (v := .agg #[.bool b6, .slice A6 n6 c6]) (by simp [results, Try.results45, go_sem, d0, d1]) rfl ?_; exact ⟨b6, A6, n6, c6, rfl, hHeld.1, hz6.set2 t0c0 t0c1 _ _⟩
set_option maxRecDepth 100000 in
set_option maxHeartbeats 4000000 in
theorem add_lt (p : Bool) (A A' : Option Addr) (n c n' c' : Nat) (m : Nat) (z : Int) (w : World)
    (LS : ∀ W, Below w.heap.size w W → Calls Try.prog 58 #[.slice A n c, .slice A' n' c'] W (Ret W (.bool true)))
    (T : ∀ W L, Keeps w L W → Calls Try.prog 57 #[.slice A' n' c', .slice A n c] W (RetN W m)) (M : ∀ u W, Num W u m → Calls Try.prog 54 #[.bool (!p), u] W (RetZ W z)) :
    Calls Try.prog 45 #[.agg #[.bool p, .slice A n c], .agg #[.bool (!p), .slice A' n' c']] w (RetZ w z) := by
  have T := Lib.hid T
  have M := Lib.hid M
  have LS := Lib.hid LS
  have hpq : (p == !p) = false := by cases p <;> rfl
  generalize (!p) = q at *
  go_enter Try.func45, Try.ntmps45
  go_wp2_with fail
  refine (LS.out _ (below_thru (below_thru (below_alloc w _) (below_alloc _ _)) (below_alloc _ _))).mono ?_
  rintro e w1 ⟨rfl, hb⟩
  have hHeld : Keeps w [(w.heap.size, 0, .bool p), (w.heap.size, 1, .slice A n c), (w.heap.size + 1, 0, .bool q), (w.heap.size + 1, 1, .slice A' n' c'), (w.heap.size + 1 + 1, 0, .bool false), (w.heap.size + 1 + 1, 1, .slice none 0 0)] _ := Keeps.next (by refine ⟨by go_grown, ?_⟩; simp [Cells, go_sem]) hb
  clear hb
  obtain ⟨⟨kz0, kc0, kf0⟩, ⟨kz1, kc1, kf1⟩, ⟨kz2, kc2, kf2⟩, ⟨kz3, kc3, kf3⟩, ⟨kz4, kc4, kf4⟩, ⟨kz5, kc5, kf5⟩, _⟩ := hHeld.2
  go_wp2_with fail
  refine region_keepsB (w0 := w) (L := [(w.heap.size, 0, .bool p), (w.heap.size, 1, .slice A n c), (w.heap.size + 1, 0, .bool q), (w.heap.size + 1, 1, .slice A' n' c')]) (M := [(w.heap.size + 1 + 1, 0, .bool false), (w.heap.size + 1 + 1, 1, .slice none 0 0)]) (by kernel_rfl) ⟨hHeld.1, ⟨kz0, kc0, kf0⟩, ⟨kz1, kc1, kf1⟩, ⟨kz2, kc2, kf2⟩, ⟨kz3, kc3, kf3⟩, trivial⟩ ⟨hHeld.1, ⟨kz4, kc4, kf4⟩, ⟨kz5, kc5, kf5⟩, trivial⟩ (fun hHeld0 hT0 => ?_)
  refine wpAnyH_take (i := 0) (oi := ⟨some 23, _, _, _, _, _⟩) (v := ?_) rfl (by kernel_rfl) (by kernel_rfl) (by kernel_rfl) (fun _ _ _ h => h) (Or.inl ⟨by rfl, ?_⟩) (by assumption) ?_
  rotate_left
  · intro wq hSw; go_simp; (try with_reducible rfl)
  try simp only [Act.put, List.setIfInBounds_toArray, List.set_cons_zero, List.set_cons_succ]
  refine wpAnyH_take (i := 1) (oi := ⟨some 24, _, _, _, _, _⟩) (v := ?_) rfl (by kernel_rfl) (by kernel_rfl) (by kernel_rfl) (fun _ _ _ h => h) (Or.inl ⟨by rfl, ?_⟩) (by assumption) ?_
  rotate_left
  · intro wq hSw; obtain ⟨⟨qz0, qc0, qf0⟩, ⟨qz1, qc1, qf1⟩, ⟨qz2, qc2, qf2⟩, ⟨qz3, qc3, qf3⟩, _⟩ := hSw.2; go_simp; (try with_reducible rfl)
  try simp only [Act.put, List.setIfInBounds_toArray, List.set_cons_zero, List.set_cons_succ]
  refine wpAnyH_take (i := 2) (oi := ⟨some 25, _, _, _, _, _⟩) (v := ?_) rfl (by kernel_rfl) (by kernel_rfl) (by kernel_rfl) (fun _ _ _ h => h) (Or.inl ⟨by rfl, ?_⟩) (by assumption) ?_
  rotate_left
  · intro wq hSw; go_simp; (try with_reducible rfl)
  try simp only [Act.put, List.setIfInBounds_toArray, List.set_cons_zero, List.set_cons_succ]
  refine wpAnyH_take (i := 3) (oi := ⟨some 26, _, _, _, _, _⟩) (v := ?_) rfl (by kernel_rfl) (by kernel_rfl) (by kernel_rfl) (fun _ _ _ h => h) (Or.inl ⟨by rfl, ?_⟩) (by assumption) ?_
  rotate_left
  · intro wq hSw; obtain ⟨⟨qz0, qc0, qf0⟩, ⟨qz1, qc1, qf1⟩, ⟨qz2, qc2, qf2⟩, ⟨qz3, qc3, qf3⟩, _⟩ := hSw.2; go_simp; (try with_reducible rfl)
  try simp only [Act.put, List.setIfInBounds_toArray, List.set_cons_zero, List.set_cons_succ]
  refine wpAnyH_take (i := 4) (oi := ⟨some 27, _, _, _, _, _⟩) (v := ?_) rfl (by kernel_rfl) (by kernel_rfl) (by kernel_rfl) (fun _ _ _ h => h) (Or.inl ⟨by rfl, ?_⟩) (by assumption) ?_
  rotate_left
  · intro wq hSw; go_simp; (try with_reducible rfl)
  try simp only [Act.put, List.setIfInBounds_toArray, List.set_cons_zero, List.set_cons_succ]
  refine wpAnyH_take (i := 5) (oi := ⟨some 28, _, _, _, _, _⟩) (v := ?_) rfl (by kernel_rfl) (by kernel_rfl) (by kernel_rfl) (fun _ _ _ h => h) (Or.inl ⟨by rfl, ?_⟩) (by assumption) ?_
  rotate_left
  · intro wq hSw; obtain ⟨⟨qz0, qc0, qf0⟩, ⟨qz1, qc1, qf1⟩, ⟨qz2, qc2, qf2⟩, ⟨qz3, qc3, qf3⟩, _⟩ := hSw.2; go_simp; (try with_reducible rfl)
  try simp only [Act.put, List.setIfInBounds_toArray, List.set_cons_zero, List.set_cons_succ]
  refine wpAnyH_ready (rs := [6]) (by kernel_rfl) (by simp) ?_
  refine AllReadyH.cons (o := ⟨some 29, _, _, _, _, _⟩) rfl (fun K hK => ?_) AllReadyH.nil
  go_simp
  (first | ((with_reducible refine (T.out _ _ (by assumption)).mono ?_); rintro e w5 ⟨A5, n5, c5, rfl, hb, hn5⟩) | ((with_reducible refine (M.out _ _ (by assumption)).mono ?_); rintro e w6 ⟨b6, A6, n6, c6, rfl, hb, hz6⟩))
  refine hK.out _ _ (hHeld0.next hb) (fun hHeld1 => ?_)
  replace hT0 := hT0.next hb
  clear hK K
  try clear hb
  try simp only [Act.put, List.setIfInBounds_toArray, List.set_cons_zero, List.set_cons_succ]
  refine wpAnyH_ready (rs := [7]) (by kernel_rfl) (by simp) ?_
  refine AllReadyH.cons (o := ⟨some 30, _, _, _, _, _⟩) rfl (fun K hK => ?_) AllReadyH.nil
  go_simp
  (first | ((with_reducible refine (T.out _ _ (by assumption)).mono ?_); rintro e w5 ⟨A5, n5, c5, rfl, hb, hn5⟩) | ((with_reducible refine (M.out _ _ (by assumption)).mono ?_); rintro e w6 ⟨b6, A6, n6, c6, rfl, hb, hz6⟩))
  refine hK.out _ _ (hHeld1.next hb) (fun hHeld2 => ?_)
  replace hT0 := hT0.next hb
  clear hK K
  try clear hb
  try simp only [Act.put, List.setIfInBounds_toArray, List.set_cons_zero, List.set_cons_succ]
  refine wpAnyH_ready (rs := [8]) (by kernel_rfl) (by simp) ?_
  refine AllReadyH.cons (o := ⟨none, _, _, _, _, _⟩) rfl (fun K hK => ?_) AllReadyH.nil
  obtain ⟨⟨t0z0, t0c0, t0f0⟩, ⟨t0z1, t0c1, t0f1⟩, _⟩ := hT0.2; (try simp at t0z0); (try simp at t0c0); (try simp at t0f0); (try simp at t0z1); (try simp at t0c1); (try simp at t0f1)
  go_simp
  refine hK.out _ _ (by first | exact hHeld2.alloc _ | (repeat (first | (with_reducible exact hHeld2) | (with_reducible exact (Keeps.undrewR hHeld2)) | (refine Keeps.set ?_ (by simp <;> omega) (by simp <;> omega) _) | (with_reducible refine Keeps.drew ?_)))) (fun hHeld3 => ?_)
  clear hK K
  try clear hb
  try simp only [Act.put, List.setIfInBounds_toArray, List.set_cons_zero, List.set_cons_succ]
  refine wpAnyH_done (by kernel_rfl) ?_ _
  have hHeld := hHeld3
  obtain ⟨⟨kz0, kc0, kf0⟩, ⟨kz1, kc1, kf1⟩, ⟨kz2, kc2, kf2⟩, ⟨kz3, kc3, kf3⟩, _⟩ := hHeld.2
  obtain ⟨d0, d1⟩ := set2 (W := w6) (B := w.heap.size + 1 + 1) (u0 := .bool b6) (u1 := .slice A6 n6 c6) t0c0 t0c1; go_wp2_with fail; refine bodyPost_ret (v := .agg #[.bool b6, .slice A6 n6 c6]) (by simp [results, Try.results45, go_sem, d0, d1]) rfl ?_; exact ⟨b6, A6, n6, c6, rfl, hHeld.1, hz6.set2 t0c0 t0c1 _ _⟩
set_option maxRecDepth 100000 in
set_option maxHeartbeats 4000000 in
theorem add_ge (p : Bool) (A A' : Option Addr) (n c n' c' : Nat) (m : Nat) (z : Int) (w : World)
    (LS : ∀ W, Below w.heap.size w W → Calls Try.prog 58 #[.slice A n c, .slice A' n' c'] W (Ret W (.bool false)))
    (T : ∀ W L, Keeps w L W → Calls Try.prog 57 #[.slice A n c, .slice A' n' c'] W (RetN W m)) (M : ∀ u W, Num W u m → Calls Try.prog 54 #[.bool p, u] W (RetZ W z)) :
    Calls Try.prog 45 #[.agg #[.bool p, .slice A n c], .agg #[.bool (!p), .slice A' n' c']] w (RetZ w z) := by
  have T := Lib.hid T
  have M := Lib.hid M
  have LS := Lib.hid LS
  have hpq : (p == !p) = false := by cases p <;> rfl
  generalize (!p) = q at *
  go_enter Try.func45, Try.ntmps45
  go_wp2_with fail
  refine (LS.out _ (below_thru (below_thru (below_alloc w _) (below_alloc _ _)) (below_alloc _ _))).mono ?_
  rintro e w1 ⟨rfl, hb⟩
  have hHeld : Keeps w [(w.heap.size, 0, .bool p), (w.heap.size, 1, .slice A n c), (w.heap.size + 1, 0, .bool q), (w.heap.size + 1, 1, .slice A' n' c'), (w.heap.size + 1 + 1, 0, .bool false), (w.heap.size + 1 + 1, 1, .slice none 0 0)] _ := Keeps.next (by refine ⟨by go_grown, ?_⟩; simp [Cells, go_sem]) hb
  clear hb
  obtain ⟨⟨kz0, kc0, kf0⟩, ⟨kz1, kc1, kf1⟩, ⟨kz2, kc2, kf2⟩, ⟨kz3, kc3, kf3⟩, ⟨kz4, kc4, kf4⟩, ⟨kz5, kc5, kf5⟩, _⟩ := hHeld.2
  go_wp2_with fail
  refine region_keepsB (w0 := w) (L := [(w.heap.size, 0, .bool p), (w.heap.size, 1, .slice A n c), (w.heap.size + 1, 0, .bool q), (w.heap.size + 1, 1, .slice A' n' c')]) (M := [(w.heap.size + 1 + 1, 0, .bool false), (w.heap.size + 1 + 1, 1, .slice none 0 0)]) (by kernel_rfl) ⟨hHeld.1, ⟨kz0, kc0, kf0⟩, ⟨kz1, kc1, kf1⟩, ⟨kz2, kc2, kf2⟩, ⟨kz3, kc3, kf3⟩, trivial⟩ ⟨hHeld.1, ⟨kz4, kc4, kf4⟩, ⟨kz5, kc5, kf5⟩, trivial⟩ (fun hHeld0 hT0 => ?_)
  refine wpAnyH_take (i := 0) (oi := ⟨some 31, _, _, _, _, _⟩) (v := ?_) rfl (by kernel_rfl) (by kernel_rfl) (by kernel_rfl) (fun _ _ _ h => h) (Or.inl ⟨by rfl, ?_⟩) (by assumption) ?_
  rotate_left
  · intro wq hSw; go_simp; (try with_reducible rfl)
  try simp only [Act.put, List.setIfInBounds_toArray, List.set_cons_zero, List.set_cons_succ]
  refine wpAnyH_take (i := 1) (oi := ⟨some 32, _, _, _, _, _⟩) (v := ?_) rfl (by kernel_rfl) (by kernel_rfl) (by kernel_rfl) (fun _ _ _ h => h) (Or.inl ⟨by rfl, ?_⟩) (by assumption) ?_
  rotate_left
  · intro wq hSw; obtain ⟨⟨qz0, qc0, qf0⟩, ⟨qz1, qc1, qf1⟩, ⟨qz2, qc2, qf2⟩, ⟨qz3, qc3, qf3⟩, _⟩ := hSw.2; go_simp; (try with_reducible rfl)
  try simp only [Act.put, List.setIfInBounds_toArray, List.set_cons_zero, List.set_cons_succ]
  refine wpAnyH_take (i := 2) (oi := ⟨some 33, _, _, _, _, _⟩) (v := ?_) rfl (by kernel_rfl) (by kernel_rfl) (by kernel_rfl) (fun _ _ _ h => h) (Or.inl ⟨by rfl, ?_⟩) (by assumption) ?_
  rotate_left
  · intro wq hSw; go_simp; (try with_reducible rfl)
  try simp only [Act.put, List.setIfInBounds_toArray, List.set_cons_zero, List.set_cons_succ]
  refine wpAnyH_take (i := 3) (oi := ⟨some 34, _, _, _, _, _⟩) (v := ?_) rfl (by kernel_rfl) (by kernel_rfl) (by kernel_rfl) (fun _ _ _ h => h) (Or.inl ⟨by rfl, ?_⟩) (by assumption) ?_
  rotate_left
  · intro wq hSw; obtain ⟨⟨qz0, qc0, qf0⟩, ⟨qz1, qc1, qf1⟩, ⟨qz2, qc2, qf2⟩, ⟨qz3, qc3, qf3⟩, _⟩ := hSw.2; go_simp; (try with_reducible rfl)
  try simp only [Act.put, List.setIfInBounds_toArray, List.set_cons_zero, List.set_cons_succ]
  refine wpAnyH_take (i := 4) (oi := ⟨some 35, _, _, _, _, _⟩) (v := ?_) rfl (by kernel_rfl) (by kernel_rfl) (by kernel_rfl) (fun _ _ _ h => h) (Or.inl ⟨by rfl, ?_⟩) (by assumption) ?_
  rotate_left
  · intro wq hSw; go_simp; (try with_reducible rfl)
  try simp only [Act.put, List.setIfInBounds_toArray, List.set_cons_zero, List.set_cons_succ]
  refine wpAnyH_take (i := 5) (oi := ⟨some 36, _, _, _, _, _⟩) (v := ?_) rfl (by kernel_rfl) (by kernel_rfl) (by kernel_rfl) (fun _ _ _ h => h) (Or.inl ⟨by rfl, ?_⟩) (by assumption) ?_
  rotate_left
  · intro wq hSw; obtain ⟨⟨qz0, qc0, qf0⟩, ⟨qz1, qc1, qf1⟩, ⟨qz2, qc2, qf2⟩, ⟨qz3, qc3, qf3⟩, _⟩ := hSw.2; go_simp; (try with_reducible rfl)
  try simp only [Act.put, List.setIfInBounds_toArray, List.set_cons_zero, List.set_cons_succ]
  refine wpAnyH_ready (rs := [6]) (by kernel_rfl) (by simp) ?_
  refine AllReadyH.cons (o := ⟨some 37, _, _, _, _, _⟩) rfl (fun K hK => ?_) AllReadyH.nil
  go_simp
  (first | ((with_reducible refine (T.out _ _ (by assumption)).mono ?_); rintro e w5 ⟨A5, n5, c5, rfl, hb, hn5⟩) | ((with_reducible refine (M.out _ _ (by assumption)).mono ?_); rintro e w6 ⟨b6, A6, n6, c6, rfl, hb, hz6⟩))
  refine hK.out _ _ (hHeld0.next hb) (fun hHeld1 => ?_)
  replace hT0 := hT0.next hb
  clear hK K
  try clear hb
  try simp only [Act.put, List.setIfInBounds_toArray, List.set_cons_zero, List.set_cons_succ]
  refine wpAnyH_ready (rs := [7]) (by kernel_rfl) (by simp) ?_
  refine AllReadyH.cons (o := ⟨some 38, _, _, _, _, _⟩) rfl (fun K hK => ?_) AllReadyH.nil
  go_simp
  (first | ((with_reducible refine (T.out _ _ (by assumption)).mono ?_); rintro e w5 ⟨A5, n5, c5, rfl, hb, hn5⟩) | ((with_reducible refine (M.out _ _ (by assumption)).mono ?_); rintro e w6 ⟨b6, A6, n6, c6, rfl, hb, hz6⟩))
  refine hK.out _ _ (hHeld1.next hb) (fun hHeld2 => ?_)
  replace hT0 := hT0.next hb
  clear hK K
  try clear hb
  try simp only [Act.put, List.setIfInBounds_toArray, List.set_cons_zero, List.set_cons_succ]
  refine wpAnyH_ready (rs := [8]) (by kernel_rfl) (by simp) ?_
  refine AllReadyH.cons (o := ⟨none, _, _, _, _, _⟩) rfl (fun K hK => ?_) AllReadyH.nil
  obtain ⟨⟨t0z0, t0c0, t0f0⟩, ⟨t0z1, t0c1, t0f1⟩, _⟩ := hT0.2; (try simp at t0z0); (try simp at t0c0); (try simp at t0f0); (try simp at t0z1); (try simp at t0c1); (try simp at t0f1)
  go_simp
  refine hK.out _ _ (by first | exact hHeld2.alloc _ | (repeat (first | (with_reducible exact hHeld2) | (with_reducible exact (Keeps.undrewR hHeld2)) | (refine Keeps.set ?_ (by simp <;> omega) (by simp <;> omega) _) | (with_reducible refine Keeps.drew ?_)))) (fun hHeld3 => ?_)
  clear hK K
  try clear hb
  try simp only [Act.put, List.setIfInBounds_toArray, List.set_cons_zero, List.set_cons_succ]
  refine wpAnyH_done (by kernel_rfl) ?_ _
  have hHeld := hHeld3
  obtain ⟨⟨kz0, kc0, kf0⟩, ⟨kz1, kc1, kf1⟩, ⟨kz2, kc2, kf2⟩, ⟨kz3, kc3, kf3⟩, _⟩ := hHeld.2
  obtain ⟨d0, d1⟩ := set2 (W := w6) (B := w.heap.size + 1 + 1) (u0 := .bool b6) (u1 := .slice A6 n6 c6) t0c0 t0c1; go_wp2_with fail; refine bodyPost_ret (v := .agg #[.bool b6, .slice A6 n6 c6]) (by simp [results, Try.results45, go_sem, d0, d1]) rfl ?_; exact ⟨b6, A6, n6, c6, rfl, hHeld.1, hz6.set2 t0c0 t0c1 _ _⟩
theorem addZ_any (x y : Int) (hx : (sizeL x.natAbs).length ≤ 3999) (hy : (sizeL y.natAbs).length ≤ 3999) (v v' : Value) (w : World) (h : NumZ w v x) (h' : NumZ w v' y) : Calls Try.prog 45 #[v, v'] w (RetZ w (x + y)) := by
  obtain ⟨A, n, c, rfl, hn⟩ := h.parts
  obtain ⟨A', n', c', rfl, hn'⟩ := h'.parts
  by_cases g : (x < 0 ↔ y < 0)
  · have e : decide (y < 0) = decide (x < 0) := decide_eq_decide.2 g.symm
    rw [e]
    refine add_same _ A A' n c n' c' (x.natAbs + y.natAbs) (x + y) w (fun W L hk => (plusN_any x.natAbs y.natAbs (by omega) (by omega) _ _ W (hn.below hk.1) (hn'.below hk.1)).mono fun _ _ h => retN_of h.gave) (fun u W k => made2_any (x + y) (decide (x < 0)) _ (by omega) ?_ u W k)
    rw [Bool.eq_iff_iff]
    simp only [Bool.and_eq_true, decide_eq_true_eq]
    omega
  · have e : decide (y < 0) = !decide (x < 0) := by rw [Bool.eq_iff_iff]; simp only [Bool.not_eq_true', decide_eq_true_eq, decide_eq_false_iff_not]; omega
    rw [e]
    have LS := fun W (hb : Below w.heap.size w W) => less_any x.natAbs y.natAbs (by omega) (by omega) _ _ W (hn.below hb) (hn'.below hb)
    by_cases gl : x.natAbs < y.natAbs
    · rw [decide_eq_true gl] at LS
      refine add_lt _ A A' n c n' c' (y.natAbs - x.natAbs) (x + y) w LS (fun W L hk => (minus_any y.natAbs x.natAbs (by omega) (by omega) _ _ W (hn'.below hk.1) (hn.below hk.1)).mono fun _ _ h => retN_of h) (fun u W k => made2_any (x + y) (!decide (x < 0)) _ (by omega) ?_ u W k)
      rw [Bool.eq_iff_iff]
      simp only [Bool.and_eq_true, Bool.not_eq_true', decide_eq_true_eq, decide_eq_false_iff_not]
      omega
    · rw [decide_eq_false gl] at LS
      refine add_ge _ A A' n c n' c' (x.natAbs - y.natAbs) (x + y) w LS (fun W L hk => (minus_any x.natAbs y.natAbs (by omega) (by omega) _ _ W (hn.below hk.1) (hn'.below hk.1)).mono fun _ _ h => retN_of h) (fun u W k => made2_any (x + y) (decide (x < 0)) _ (by omega) ?_ u W k)
      rw [Bool.eq_iff_iff]
      simp only [Bool.and_eq_true, decide_eq_true_eq]
      omega
end Go.Proofs.Ytmkminaipeodnaa
