/-
  Layer 3: the document's own answers: the nearest whole number. Conditions: those written at each fact.
-/
import Derived.Test.YtinppckjolkhpaaGrC
import Derived.Deep.CutBlock
namespace Go.Proofs.Ytinppckjolkhpaa
open Go.RowKit Go.Shelf

theorem NumZ.alloc2 {w W : World} {L : List (Nat × Nat × Value)} {v : Value} {z : Int} {o : Obj} (h : NumZ W v z) (_ : Keeps w L (W.alloc o)) : NumZ (W.alloc o) v z := h.below (below_alloc W o)
theorem NumZ.store2 {w W : World} {L : List (Nat × Nat × Value)} {v : Value} {z : Int} {B n c : Nat} {b : Bool} {A : Option Addr} {u0 u1 : Value} (h : NumZ W v z) (_ : Keeps w L ((W.setCell ⟨B, 0, none⟩ u0).setCell ⟨B, 1, none⟩ u1))
    (h0 : W.cell? ⟨B, 0, none⟩ = some (.bool b)) (h1 : W.cell? ⟨B, 1, none⟩ = some (.slice A n c)) : NumZ ((W.setCell ⟨B, 0, none⟩ u0).setCell ⟨B, 1, none⟩ u1) v z := h.set2 h0 h1 u0 u1
theorem Keeps.mv2 {w W : World} {L M : List (Nat × Nat × Value)} {B : Nat} {u0 u1 : Value} (h : Keeps w M W) (_ : Keeps w L ((W.setCell ⟨B, 0, none⟩ u0).setCell ⟨B, 1, none⟩ u1)) (hB : w.heap.size ≤ B) (hne : ∀ q ∈ M, q.1 ≠ B) :
    Keeps w M ((W.setCell ⟨B, 0, none⟩ u0).setCell ⟨B, 1, none⟩ u1) := (h.set (p := ⟨B, 0, none⟩) hB hne u0).set (p := ⟨B, 1, none⟩) hB hne u1
theorem Keeps.alloc2 {w W : World} {L M : List (Nat × Nat × Value)} {o : Obj} (h : Keeps w M W) (_ : Keeps w L (W.alloc o)) : Keeps w M (W.alloc o) := h.alloc o
theorem Cells.undrew : ∀ {M : List (Nat × Nat × Value)} {W : World}, Cells M W.drew → Cells M W
  | [], _, _ => trivial
  | (_, _, _) :: _, _, ⟨⟨h1, h2, h3⟩, h4⟩ => ⟨⟨h1, h2, h3⟩, Cells.undrew h4⟩
theorem Keeps.alloc2e {w W : World} {L M : List (Nat × Nat × Value)} {o : Obj} (h : Keeps w M W.drew) (_ : Keeps w L (W.alloc o).drew) : Keeps w M (W.alloc o).drew :=
  (Keeps.alloc (W := W) ⟨⟨h.1.os, h.1.tape, h.1.output, h.1.size, h.1.block⟩, h.2.undrew⟩ o).drew
/-- A struct of a sign and a row stands in this block. -/
def Stands (w : World) (p : Value) (z : Int) (W : World) : Prop := ∃ B b A n c, p = .pointer (some ⟨B, 0, none⟩) ∧ w.heap.size + 1 < B ∧ Keeps w [(B, 0, .bool b), (B, 1, .slice A n c)] W ∧ NumZ W (.agg #[.bool b, .slice A n c]) z

set_option maxRecDepth 100000 in
set_option maxHeartbeats 4000000 in
theorem near_walk2 (p : Bool) (A : Option Addr) (n c : Nat) (m : Nat) (N : Int) (q r t res : Int) (ht : t = r + r) (ev : Bool) (hev : ev = decide (q.natAbs % 2 = 0)) (w : World)
    (PW : ∀ W, Calls Try.prog 30 #[.int .i64 N] W (RetZ W (m : Int)))
    (AR : ∀ v W, NumZ W v r → Calls Try.prog 31 #[v, v] W (RetZ W t))
    (I1 : ∀ W, Calls Try.prog 34 #[.int .i64 1] W (RetZ W 1)) (AQ : ∀ v v' W, NumZ W v q → NumZ W v' 1 → Calls Try.prog 31 #[v, v'] W (RetZ W (q + 1)))
    (LS : ∀ v v' W, NumZ W v (m : Int) → NumZ W v' t → Calls Try.prog 32 #[v, v'] W (Ret W (.bool (decide ((m : Int) < t)))))
    (SM : ∀ v v' W, NumZ W v (m : Int) → NumZ W v' t → Calls Try.prog 33 #[v, v'] W (Ret W (.bool (decide ((m : Int) = t)))))
    (hres : res = if (m : Int) < t ∨ ((m : Int) = t ∧ ev = false) then q + 1 else q)
    (DV : ∀ v W L, NumZ W v (m : Int) → Keeps w L W → Calls Try.prog 29 #[.agg #[.bool p, .slice A n c], v] W (RetZZ W q r)) :
    Calls Try.prog 13 #[.agg #[.bool p, .slice A n c], .int .i64 N] w (RetZ w res) := by
  replace PW := Lib.hid PW
  replace DV := Lib.hid DV
  replace AR := Lib.hid AR
  replace I1 := Lib.hid I1
  replace AQ := Lib.hid AQ
  replace LS := Lib.hid LS
  replace SM := Lib.hid SM
  replace hres := Lib.hid hres
  replace hev := Lib.hid hev
  replace ht := Lib.hid ht
  go_enter Try.func13, Try.ntmps13
  go_upto_region 1 with (fail)
  go_cut [5, 6] from 5 to 15 (fun s5 s6 wx => Stands w s5 q wx ∧ Stands w s6 r wx ∧ Keeps w [(w.heap.size, 0, .bool p), (w.heap.size, 1, .slice A n c), (w.heap.size + 1, 0, .bool false), (w.heap.size + 1, 1, .slice none 0 0)] wx)
  case first =>
    have hHs : Keeps w [(w.heap.size, 0, .bool p), (w.heap.size, 1, .slice A n c), (w.heap.size + 1, 0, .bool false), (w.heap.size + 1, 1, .slice none 0 0)] ((w.alloc (.cells #[.bool p, .slice A n c] 43)).alloc (.cells #[.bool false, .slice none 0 0] 43)) :=
      ⟨below_thru (below_alloc w _) (below_alloc _ _), ⟨by simp <;> omega, by simp [go_sem], by simp [go_sem]⟩, ⟨by simp <;> omega, by simp [go_sem], by simp [go_sem]⟩, ⟨by simp <;> omega, by simp [go_sem], by simp [go_sem]⟩, ⟨by simp <;> omega, by simp [go_sem], by simp [go_sem]⟩, trivial⟩
    generalize hGi : (w.alloc (.cells #[.bool p, .slice A n c] 43)).alloc (.cells #[.bool false, .slice none 0 0] 43) = wi at hHs ⊢
    clear hGi
    refine region_keeps (w0 := w) (L := [(w.heap.size, 0, .bool p), (w.heap.size, 1, .slice A n c), (w.heap.size + 1, 0, .bool false), (w.heap.size + 1, 1, .slice none 0 0)]) (by kernel_rfl) hHs (fun hHeld0 => ?_)
    refine wpAnyH_take (i := 0) (oi := ⟨some 10, _, _, _, _, _⟩) (v := ?_) rfl (by kernel_rfl) (by kernel_rfl) (by kernel_rfl) (fun _ _ _ h => h) (Or.inl ⟨by rfl, ?_⟩) (by assumption) ?_
    rotate_left
    · intro wq hSw; obtain ⟨⟨qz0, qc0, qf0⟩, ⟨qz1, qc1, qf1⟩, ⟨qz2, qc2, qf2⟩, ⟨qz3, qc3, qf3⟩, _⟩ := hSw.2; go_simp; (try with_reducible rfl)
    try simp only [Act.put, List.setIfInBounds_toArray, List.set_cons_zero, List.set_cons_succ]
    refine wpAnyH_take (i := 1) (oi := ⟨some 11, _, _, _, _, _⟩) (v := ?_) rfl (by kernel_rfl) (by kernel_rfl) (by kernel_rfl) (fun _ _ _ h => h) (Or.inl ⟨by rfl, ?_⟩) (by assumption) ?_
    rotate_left
    · intro wq hSw; go_simp; (try with_reducible rfl)
    try simp only [Act.put, List.setIfInBounds_toArray, List.set_cons_zero, List.set_cons_succ]
    refine wpAnyH_ready (rs := [2, 7, 8]) (by kernel_rfl) (by simp) ?_
    refine AllReadyH.cons (o := ⟨some 12, _, _, _, _, _⟩) rfl (fun K hK => ?_) ?_
    go_simp
    (first | ((with_reducible refine (PW.out _).mono ?_); rintro e wp ⟨b5, A5, n5, c5, rfl, hb, hz5⟩) | ((with_reducible refine (DV.out _ _ _ hz5 (by assumption)).mono ?_); rintro e wd ⟨bq, Aq, nq, cq, br, Ar, nr, cr, rfl, hb, hzq, hzr⟩))
    refine hK.out _ _ (hHeld0.next hb) (fun hHeld1 => ?_)
    (try replace hz5 := hz5.below hb)
    (try replace hzq := hzq.below hb)
    (try replace hzr := hzr.below hb)
    clear hK K
    try clear hb
    try simp only [Act.put, List.setIfInBounds_toArray, List.set_cons_zero, List.set_cons_succ]
    refine wpAnyH_ready (rs := [3, 7, 8]) (by kernel_rfl) (by simp) ?_
    refine AllReadyH.cons (o := ⟨some 13, _, _, _, _, _⟩) rfl (fun K hK => ?_) ?_
    go_simp
    (first | ((with_reducible refine (PW.out _).mono ?_); rintro e wp ⟨b5, A5, n5, c5, rfl, hb, hz5⟩) | ((with_reducible refine (DV.out _ _ _ hz5 (by assumption)).mono ?_); rintro e wd ⟨bq, Aq, nq, cq, br, Ar, nr, cr, rfl, hb, hzq, hzr⟩))
    refine hK.out _ _ (hHeld1.next hb) (fun hHeld2 => ?_)
    (try replace hz5 := hz5.below hb)
    (try replace hzq := hzq.below hb)
    (try replace hzr := hzr.below hb)
    clear hK K
    try clear hb
    try simp only [Act.put, List.setIfInBounds_toArray, List.set_cons_zero, List.set_cons_succ]
    refine wpAnyH_take (i := 4) (oi := ⟨some 9, _, _, _, _, _⟩) (v := ?_) rfl (by kernel_rfl) (by kernel_rfl) (by kernel_rfl) (fun _ _ _ h => h) (Or.inl ⟨by rfl, ?_⟩) (by assumption) ?_
    rotate_left
    · intro wq hSw; go_simp; (try with_reducible rfl)
    try simp only [Act.put, List.setIfInBounds_toArray, List.set_cons_zero, List.set_cons_succ]
    refine wpAnyH_take (i := 5) (oi := ⟨some 14, _, _, _, _, _⟩) (v := ?_) rfl (by kernel_rfl) (by kernel_rfl) (by kernel_rfl) (fun _ _ _ h => h) (Or.inl ⟨by rfl, ?_⟩) (by assumption) ?_
    rotate_left
    · intro wq hSw; go_simp; (try with_reducible rfl)
    try simp only [Act.put, List.setIfInBounds_toArray, List.set_cons_zero, List.set_cons_succ]
    refine wpAnyH_take (i := 6) (oi := ⟨some 15, _, _, _, _, _⟩) (v := ?_) rfl (by kernel_rfl) (by kernel_rfl) (by kernel_rfl) (fun _ _ _ h => h) (Or.inl ⟨by rfl, ?_⟩) (by assumption) ?_
    rotate_left
    · intro wq hSw; go_simp; (try with_reducible rfl)
    try simp only [Act.put, List.setIfInBounds_toArray, List.set_cons_zero, List.set_cons_succ]
    refine wpAnyH_ready (rs := [7, 8]) (by kernel_rfl) (by simp) ?_
    refine AllReadyH.cons (o := ⟨some 5, _, _, _, _, _⟩) rfl (fun K hK => ?_) ?_
    have lo5 := hHeld2.1.size
    obtain ⟨⟨a5_z0, a5_c0, a5_f0⟩, ⟨a5_z1, a5_c1, a5_f1⟩, ⟨a5_z2, a5_c2, a5_f2⟩, ⟨a5_z3, a5_c3, a5_f3⟩, _⟩ := hHeld2.2
    (try simp at lo5); (try simp at a5_z0); (try simp at a5_z1); (try simp at a5_z2); (try simp at a5_z3)
    go_simp
    refine hK.out _ _ (by first | exact hHeld2.alloc _ | exact (hHeld2.alloc _).drew) (fun hHeld3 => ?_)
    (try replace hz5 := hz5.alloc2 hHeld3)
    (try replace hzq := hzq.alloc2 hHeld3)
    (try replace hzr := hzr.alloc2 hHeld3)
    first | have hS5 := newK2 hHeld3 | have hS5 := newK2d hHeld3
    clear hK K
    try clear hb
    try simp only [Act.put, List.setIfInBounds_toArray, List.set_cons_zero, List.set_cons_succ]
    generalize hGWA1 : World.alloc wd (.cells #[.bool false, .slice none 0 0] 43) = WA1 at *
    clear hGWA1
    refine wpAnyH_ready (rs := [8]) (by kernel_rfl) (by simp) ?_
    refine AllReadyH.cons (o := ⟨some 6, _, _, _, _, _⟩) rfl (fun K hK => ?_) AllReadyH.nil
    have hne5_6 := hS5.2.1.1
    have lo6 := hHeld3.1.size
    obtain ⟨⟨a6_z0, a6_c0, a6_f0⟩, ⟨a6_z1, a6_c1, a6_f1⟩, ⟨a6_z2, a6_c2, a6_f2⟩, ⟨a6_z3, a6_c3, a6_f3⟩, _⟩ := hHeld3.2
    (try simp at lo6); (try simp at hne5_6); (try simp at a6_z0); (try simp at a6_z1); (try simp at a6_z2); (try simp at a6_z3)
    go_simp
    refine hK.out _ _ (by first | exact hHeld3.alloc _ | exact (hHeld3.alloc _).drew) (fun hHeld4 => ?_)
    first | replace hS5 := hS5.alloc2e hHeld4 | replace hS5 := hS5.alloc2 hHeld4
    (try replace hz5 := hz5.alloc2 hHeld4)
    (try replace hzq := hzq.alloc2 hHeld4)
    (try replace hzr := hzr.alloc2 hHeld4)
    first | have hS6 := newK2 hHeld4 | have hS6 := newK2d hHeld4
    clear hK K
    try clear hb
    try simp only [Act.put, List.setIfInBounds_toArray, List.set_cons_zero, List.set_cons_succ]
    generalize hGWA2 : World.alloc WA1 (.cells #[.bool false, .slice none 0 0] 43) = WA2 at *
    clear hGWA2
    refine wpAnyH_ready (rs := [9]) (by kernel_rfl) (by simp) ?_
    refine AllReadyH.cons (o := ⟨none, _, _, _, _, _⟩) rfl (fun K hK => ?_) AllReadyH.nil
    obtain ⟨⟨s5z0, s5c0, s5f0⟩, ⟨s5z1, s5c1, s5f1⟩, _⟩ := hS5.2
    go_simp
    refine hK.out _ _ (by (repeat (first | (with_reducible exact hHeld4) | (refine Keeps.set ?_ (by simp <;> omega) (by simp <;> omega) _)))) (fun hHeld5 => ?_)
    replace hS6 := hS6.mv2 hHeld5 (by first | omega | (simp <;> omega)) (by simp <;> omega)
    (try replace hz5 := hz5.store2 hHeld5 s5c0 s5c1)
    (try replace hzq := hzq.store2 hHeld5 s5c0 s5c1)
    (try replace hzr := hzr.store2 hHeld5 s5c0 s5c1)
    replace hS5 := hHeld5.add2 s5z0 s5c0 s5f0 s5c1 s5f1
    clear s5z0 s5c0 s5f0 s5z1 s5c1 s5f1
    clear hK K
    try clear hb
    try simp only [Act.put, List.setIfInBounds_toArray, List.set_cons_zero, List.set_cons_succ]
    generalize hGWA3 : World.setCell (World.setCell WA2 ⟨wd.heap.size, 0, none⟩ (.bool bq)) ⟨wd.heap.size, 1, none⟩ (.slice Aq nq cq) = WA3 at *
    clear hGWA3
    refine wpAnyH_ready (rs := [10]) (by kernel_rfl) (by simp) ?_
    refine AllReadyH.cons (o := ⟨none, _, _, _, _, _⟩) rfl (fun K hK => ?_) AllReadyH.nil
    obtain ⟨⟨s6z0, s6c0, s6f0⟩, ⟨s6z1, s6c1, s6f1⟩, _⟩ := hS6.2
    go_simp
    refine hK.out _ _ (by (repeat (first | (with_reducible exact hHeld5) | (refine Keeps.set ?_ (by simp <;> omega) (by simp <;> omega) _)))) (fun hHeld6 => ?_)
    replace hS5 := hS5.mv2 hHeld6 (by first | omega | (simp <;> omega)) (by simp <;> omega)
    (try replace hz5 := hz5.store2 hHeld6 s6c0 s6c1)
    (try replace hzq := hzq.store2 hHeld6 s6c0 s6c1)
    (try replace hzr := hzr.store2 hHeld6 s6c0 s6c1)
    replace hS6 := hHeld6.add2 s6z0 s6c0 s6f0 s6c1 s6f1
    clear s6z0 s6c0 s6f0 s6z1 s6c1 s6f1
    clear hK K
    try clear hb
    try simp only [Act.put, List.setIfInBounds_toArray, List.set_cons_zero, List.set_cons_succ]
    generalize hGWA4 : World.setCell (World.setCell WA3 ⟨WA1.heap.size, 0, none⟩ (.bool br)) ⟨WA1.heap.size, 1, none⟩ (.slice Ar nr cr) = WA4 at *
    clear hGWA4
    refine wpAnyH_done (by kernel_rfl) ?_ _
    have hHeld := hHeld6
    rotate_left 1
    refine AllReadyH.cons (o := ⟨some 6, _, _, _, _, _⟩) rfl (fun K hK => ?_) ?_
    have lo6 := hHeld2.1.size
    obtain ⟨⟨a6_z0, a6_c0, a6_f0⟩, ⟨a6_z1, a6_c1, a6_f1⟩, ⟨a6_z2, a6_c2, a6_f2⟩, ⟨a6_z3, a6_c3, a6_f3⟩, _⟩ := hHeld2.2
    (try simp at lo6); (try simp at a6_z0); (try simp at a6_z1); (try simp at a6_z2); (try simp at a6_z3)
    go_simp
    refine hK.out _ _ (by first | exact hHeld2.alloc _ | exact (hHeld2.alloc _).drew) (fun hHeld7 => ?_)
    (try replace hz5 := hz5.alloc2 hHeld7)
    (try replace hzq := hzq.alloc2 hHeld7)
    (try replace hzr := hzr.alloc2 hHeld7)
    first | have hS6 := newK2 hHeld7 | have hS6 := newK2d hHeld7
    clear hK K
    try clear hb
    try simp only [Act.put, List.setIfInBounds_toArray, List.set_cons_zero, List.set_cons_succ]
    generalize hGWA5 : World.alloc wd (.cells #[.bool false, .slice none 0 0] 43) = WA5 at *
    clear hGWA5
    refine wpAnyH_ready (rs := [7]) (by kernel_rfl) (by simp) ?_
    refine AllReadyH.cons (o := ⟨some 5, _, _, _, _, _⟩) rfl (fun K hK => ?_) AllReadyH.nil
    have hne6_5 := hS6.2.1.1
    have lo5 := hHeld7.1.size
    obtain ⟨⟨a5_z0, a5_c0, a5_f0⟩, ⟨a5_z1, a5_c1, a5_f1⟩, ⟨a5_z2, a5_c2, a5_f2⟩, ⟨a5_z3, a5_c3, a5_f3⟩, _⟩ := hHeld7.2
    (try simp at lo5); (try simp at hne6_5); (try simp at a5_z0); (try simp at a5_z1); (try simp at a5_z2); (try simp at a5_z3)
    go_simp
    refine hK.out _ _ (by first | exact hHeld7.alloc _ | exact (hHeld7.alloc _).drew) (fun hHeld8 => ?_)
    first | replace hS6 := hS6.alloc2e hHeld8 | replace hS6 := hS6.alloc2 hHeld8
    (try replace hz5 := hz5.alloc2 hHeld8)
    (try replace hzq := hzq.alloc2 hHeld8)
    (try replace hzr := hzr.alloc2 hHeld8)
    first | have hS5 := newK2 hHeld8 | have hS5 := newK2d hHeld8
    clear hK K
    try clear hb
    try simp only [Act.put, List.setIfInBounds_toArray, List.set_cons_zero, List.set_cons_succ]
    generalize hGWA6 : World.alloc WA5 (.cells #[.bool false, .slice none 0 0] 43) = WA6 at *
    clear hGWA6
    refine wpAnyH_ready (rs := [9]) (by kernel_rfl) (by simp) ?_
    refine AllReadyH.cons (o := ⟨none, _, _, _, _, _⟩) rfl (fun K hK => ?_) AllReadyH.nil
    obtain ⟨⟨s5z0, s5c0, s5f0⟩, ⟨s5z1, s5c1, s5f1⟩, _⟩ := hS5.2
    go_simp
    refine hK.out _ _ (by (repeat (first | (with_reducible exact hHeld8) | (refine Keeps.set ?_ (by simp <;> omega) (by simp <;> omega) _)))) (fun hHeld9 => ?_)
    replace hS6 := hS6.mv2 hHeld9 (by first | omega | (simp <;> omega)) (by simp <;> omega)
    (try replace hz5 := hz5.store2 hHeld9 s5c0 s5c1)
    (try replace hzq := hzq.store2 hHeld9 s5c0 s5c1)
    (try replace hzr := hzr.store2 hHeld9 s5c0 s5c1)
    replace hS5 := hHeld9.add2 s5z0 s5c0 s5f0 s5c1 s5f1
    clear s5z0 s5c0 s5f0 s5z1 s5c1 s5f1
    clear hK K
    try clear hb
    try simp only [Act.put, List.setIfInBounds_toArray, List.set_cons_zero, List.set_cons_succ]
    generalize hGWA7 : World.setCell (World.setCell WA6 ⟨WA5.heap.size, 0, none⟩ (.bool bq)) ⟨WA5.heap.size, 1, none⟩ (.slice Aq nq cq) = WA7 at *
    clear hGWA7
    refine wpAnyH_ready (rs := [10]) (by kernel_rfl) (by simp) ?_
    refine AllReadyH.cons (o := ⟨none, _, _, _, _, _⟩) rfl (fun K hK => ?_) AllReadyH.nil
    obtain ⟨⟨s6z0, s6c0, s6f0⟩, ⟨s6z1, s6c1, s6f1⟩, _⟩ := hS6.2
    go_simp
    refine hK.out _ _ (by (repeat (first | (with_reducible exact hHeld9) | (refine Keeps.set ?_ (by simp <;> omega) (by simp <;> omega) _)))) (fun hHeld10 => ?_)
    replace hS5 := hS5.mv2 hHeld10 (by first | omega | (simp <;> omega)) (by simp <;> omega)
    (try replace hz5 := hz5.store2 hHeld10 s6c0 s6c1)
    (try replace hzq := hzq.store2 hHeld10 s6c0 s6c1)
    (try replace hzr := hzr.store2 hHeld10 s6c0 s6c1)
    replace hS6 := hHeld10.add2 s6z0 s6c0 s6f0 s6c1 s6f1
    clear s6z0 s6c0 s6f0 s6z1 s6c1 s6f1
    clear hK K
    try clear hb
    try simp only [Act.put, List.setIfInBounds_toArray, List.set_cons_zero, List.set_cons_succ]
    generalize hGWA8 : World.setCell (World.setCell WA7 ⟨wd.heap.size, 0, none⟩ (.bool br)) ⟨wd.heap.size, 1, none⟩ (.slice Ar nr cr) = WA8 at *
    clear hGWA8
    refine wpAnyH_done (by kernel_rfl) ?_ _
    have hHeld := hHeld10
    rotate_left 1
    exact AllReadyH.nil
    refine AllReadyH.cons (o := ⟨some 5, _, _, _, _, _⟩) rfl (fun K hK => ?_) ?_
    have lo5 := hHeld1.1.size
    obtain ⟨⟨a5_z0, a5_c0, a5_f0⟩, ⟨a5_z1, a5_c1, a5_f1⟩, ⟨a5_z2, a5_c2, a5_f2⟩, ⟨a5_z3, a5_c3, a5_f3⟩, _⟩ := hHeld1.2
    (try simp at lo5); (try simp at a5_z0); (try simp at a5_z1); (try simp at a5_z2); (try simp at a5_z3)
    go_simp
    refine hK.out _ _ (by first | exact hHeld1.alloc _ | exact (hHeld1.alloc _).drew) (fun hHeld11 => ?_)
    (try replace hz5 := hz5.alloc2 hHeld11)
    (try replace hzq := hzq.alloc2 hHeld11)
    (try replace hzr := hzr.alloc2 hHeld11)
    first | have hS5 := newK2 hHeld11 | have hS5 := newK2d hHeld11
    clear hK K
    try clear hb
    try simp only [Act.put, List.setIfInBounds_toArray, List.set_cons_zero, List.set_cons_succ]
    generalize hGWA9 : World.alloc wp (.cells #[.bool false, .slice none 0 0] 43) = WA9 at *
    clear hGWA9
    refine wpAnyH_ready (rs := [3, 8]) (by kernel_rfl) (by simp) ?_
    refine AllReadyH.cons (o := ⟨some 13, _, _, _, _, _⟩) rfl (fun K hK => ?_) ?_
    go_simp
    (first | ((with_reducible refine (PW.out _).mono ?_); rintro e wp ⟨b5, A5, n5, c5, rfl, hb, hz5⟩) | ((with_reducible refine (DV.out _ _ _ hz5 (by assumption)).mono ?_); rintro e wd ⟨bq, Aq, nq, cq, br, Ar, nr, cr, rfl, hb, hzq, hzr⟩))
    refine hK.out _ _ (hHeld11.next hb) (fun hHeld12 => ?_)
    replace hS5 := hS5.next hb
    (try replace hz5 := hz5.below hb)
    (try replace hzq := hzq.below hb)
    (try replace hzr := hzr.below hb)
    clear hK K
    try clear hb
    try simp only [Act.put, List.setIfInBounds_toArray, List.set_cons_zero, List.set_cons_succ]
    refine wpAnyH_take (i := 4) (oi := ⟨some 9, _, _, _, _, _⟩) (v := ?_) rfl (by kernel_rfl) (by kernel_rfl) (by kernel_rfl) (fun _ _ _ h => h) (Or.inl ⟨by rfl, ?_⟩) (by assumption) ?_
    rotate_left
    · intro wq hSw; go_simp; (try with_reducible rfl)
    try simp only [Act.put, List.setIfInBounds_toArray, List.set_cons_zero, List.set_cons_succ]
    refine wpAnyH_take (i := 5) (oi := ⟨some 14, _, _, _, _, _⟩) (v := ?_) rfl (by kernel_rfl) (by kernel_rfl) (by kernel_rfl) (fun _ _ _ h => h) (Or.inl ⟨by rfl, ?_⟩) (by assumption) ?_
    rotate_left
    · intro wq hSw; go_simp; (try with_reducible rfl)
    try simp only [Act.put, List.setIfInBounds_toArray, List.set_cons_zero, List.set_cons_succ]
    refine wpAnyH_take (i := 6) (oi := ⟨some 15, _, _, _, _, _⟩) (v := ?_) rfl (by kernel_rfl) (by kernel_rfl) (by kernel_rfl) (fun _ _ _ h => h) (Or.inl ⟨by rfl, ?_⟩) (by assumption) ?_
    rotate_left
    · intro wq hSw; go_simp; (try with_reducible rfl)
    try simp only [Act.put, List.setIfInBounds_toArray, List.set_cons_zero, List.set_cons_succ]
    refine wpAnyH_ready (rs := [8]) (by kernel_rfl) (by simp) ?_
    refine AllReadyH.cons (o := ⟨some 6, _, _, _, _, _⟩) rfl (fun K hK => ?_) AllReadyH.nil
    have hne5_6 := hS5.2.1.1
    have lo6 := hHeld12.1.size
    obtain ⟨⟨a6_z0, a6_c0, a6_f0⟩, ⟨a6_z1, a6_c1, a6_f1⟩, ⟨a6_z2, a6_c2, a6_f2⟩, ⟨a6_z3, a6_c3, a6_f3⟩, _⟩ := hHeld12.2
    (try simp at lo6); (try simp at hne5_6); (try simp at a6_z0); (try simp at a6_z1); (try simp at a6_z2); (try simp at a6_z3)
    go_simp
    refine hK.out _ _ (by first | exact hHeld12.alloc _ | exact (hHeld12.alloc _).drew) (fun hHeld13 => ?_)
    first | replace hS5 := hS5.alloc2e hHeld13 | replace hS5 := hS5.alloc2 hHeld13
    (try replace hz5 := hz5.alloc2 hHeld13)
    (try replace hzq := hzq.alloc2 hHeld13)
    (try replace hzr := hzr.alloc2 hHeld13)
    first | have hS6 := newK2 hHeld13 | have hS6 := newK2d hHeld13
    clear hK K
    try clear hb
    try simp only [Act.put, List.setIfInBounds_toArray, List.set_cons_zero, List.set_cons_succ]
    generalize hGWA10 : World.alloc wd (.cells #[.bool false, .slice none 0 0] 43) = WA10 at *
    clear hGWA10
    refine wpAnyH_ready (rs := [9]) (by kernel_rfl) (by simp) ?_
    refine AllReadyH.cons (o := ⟨none, _, _, _, _, _⟩) rfl (fun K hK => ?_) AllReadyH.nil
    obtain ⟨⟨s5z0, s5c0, s5f0⟩, ⟨s5z1, s5c1, s5f1⟩, _⟩ := hS5.2
    go_simp
    refine hK.out _ _ (by (repeat (first | (with_reducible exact hHeld13) | (refine Keeps.set ?_ (by simp <;> omega) (by simp <;> omega) _)))) (fun hHeld14 => ?_)
    replace hS6 := hS6.mv2 hHeld14 (by first | omega | (simp <;> omega)) (by simp <;> omega)
    (try replace hz5 := hz5.store2 hHeld14 s5c0 s5c1)
    (try replace hzq := hzq.store2 hHeld14 s5c0 s5c1)
    (try replace hzr := hzr.store2 hHeld14 s5c0 s5c1)
    replace hS5 := hHeld14.add2 s5z0 s5c0 s5f0 s5c1 s5f1
    clear s5z0 s5c0 s5f0 s5z1 s5c1 s5f1
    clear hK K
    try clear hb
    try simp only [Act.put, List.setIfInBounds_toArray, List.set_cons_zero, List.set_cons_succ]
    generalize hGWA11 : World.setCell (World.setCell WA10 ⟨wp.heap.size, 0, none⟩ (.bool bq)) ⟨wp.heap.size, 1, none⟩ (.slice Aq nq cq) = WA11 at *
    clear hGWA11
    refine wpAnyH_ready (rs := [10]) (by kernel_rfl) (by simp) ?_
    refine AllReadyH.cons (o := ⟨none, _, _, _, _, _⟩) rfl (fun K hK => ?_) AllReadyH.nil
    obtain ⟨⟨s6z0, s6c0, s6f0⟩, ⟨s6z1, s6c1, s6f1⟩, _⟩ := hS6.2
    go_simp
    refine hK.out _ _ (by (repeat (first | (with_reducible exact hHeld14) | (refine Keeps.set ?_ (by simp <;> omega) (by simp <;> omega) _)))) (fun hHeld15 => ?_)
    replace hS5 := hS5.mv2 hHeld15 (by first | omega | (simp <;> omega)) (by simp <;> omega)
    (try replace hz5 := hz5.store2 hHeld15 s6c0 s6c1)
    (try replace hzq := hzq.store2 hHeld15 s6c0 s6c1)
    (try replace hzr := hzr.store2 hHeld15 s6c0 s6c1)
    replace hS6 := hHeld15.add2 s6z0 s6c0 s6f0 s6c1 s6f1
    clear s6z0 s6c0 s6f0 s6z1 s6c1 s6f1
    clear hK K
    try clear hb
    try simp only [Act.put, List.setIfInBounds_toArray, List.set_cons_zero, List.set_cons_succ]
    generalize hGWA12 : World.setCell (World.setCell WA11 ⟨wd.heap.size, 0, none⟩ (.bool br)) ⟨wd.heap.size, 1, none⟩ (.slice Ar nr cr) = WA12 at *
    clear hGWA12
    refine wpAnyH_done (by kernel_rfl) ?_ _
    have hHeld := hHeld15
    rotate_left 1
    refine AllReadyH.cons (o := ⟨some 6, _, _, _, _, _⟩) rfl (fun K hK => ?_) ?_
    have hne5_6 := hS5.2.1.1
    have lo6 := hHeld11.1.size
    obtain ⟨⟨a6_z0, a6_c0, a6_f0⟩, ⟨a6_z1, a6_c1, a6_f1⟩, ⟨a6_z2, a6_c2, a6_f2⟩, ⟨a6_z3, a6_c3, a6_f3⟩, _⟩ := hHeld11.2
    (try simp at lo6); (try simp at hne5_6); (try simp at a6_z0); (try simp at a6_z1); (try simp at a6_z2); (try simp at a6_z3)
    go_simp
    refine hK.out _ _ (by first | exact hHeld11.alloc _ | exact (hHeld11.alloc _).drew) (fun hHeld16 => ?_)
    first | replace hS5 := hS5.alloc2e hHeld16 | replace hS5 := hS5.alloc2 hHeld16
    (try replace hz5 := hz5.alloc2 hHeld16)
    (try replace hzq := hzq.alloc2 hHeld16)
    (try replace hzr := hzr.alloc2 hHeld16)
    first | have hS6 := newK2 hHeld16 | have hS6 := newK2d hHeld16
    clear hK K
    try clear hb
    try simp only [Act.put, List.setIfInBounds_toArray, List.set_cons_zero, List.set_cons_succ]
    generalize hGWA13 : World.alloc WA9 (.cells #[.bool false, .slice none 0 0] 43) = WA13 at *
    clear hGWA13
    refine wpAnyH_ready (rs := [3]) (by kernel_rfl) (by simp) ?_
    refine AllReadyH.cons (o := ⟨some 13, _, _, _, _, _⟩) rfl (fun K hK => ?_) AllReadyH.nil
    go_simp
    (first | ((with_reducible refine (PW.out _).mono ?_); rintro e wp ⟨b5, A5, n5, c5, rfl, hb, hz5⟩) | ((with_reducible refine (DV.out _ _ _ hz5 (by assumption)).mono ?_); rintro e wd ⟨bq, Aq, nq, cq, br, Ar, nr, cr, rfl, hb, hzq, hzr⟩))
    refine hK.out _ _ (hHeld16.next hb) (fun hHeld17 => ?_)
    replace hS5 := hS5.next hb
    replace hS6 := hS6.next hb
    (try replace hz5 := hz5.below hb)
    (try replace hzq := hzq.below hb)
    (try replace hzr := hzr.below hb)
    clear hK K
    try clear hb
    try simp only [Act.put, List.setIfInBounds_toArray, List.set_cons_zero, List.set_cons_succ]
    refine wpAnyH_take (i := 4) (oi := ⟨some 9, _, _, _, _, _⟩) (v := ?_) rfl (by kernel_rfl) (by kernel_rfl) (by kernel_rfl) (fun _ _ _ h => h) (Or.inl ⟨by rfl, ?_⟩) (by assumption) ?_
    rotate_left
    · intro wq hSw; go_simp; (try with_reducible rfl)
    try simp only [Act.put, List.setIfInBounds_toArray, List.set_cons_zero, List.set_cons_succ]
    refine wpAnyH_take (i := 5) (oi := ⟨some 14, _, _, _, _, _⟩) (v := ?_) rfl (by kernel_rfl) (by kernel_rfl) (by kernel_rfl) (fun _ _ _ h => h) (Or.inl ⟨by rfl, ?_⟩) (by assumption) ?_
    rotate_left
    · intro wq hSw; go_simp; (try with_reducible rfl)
    try simp only [Act.put, List.setIfInBounds_toArray, List.set_cons_zero, List.set_cons_succ]
    refine wpAnyH_take (i := 6) (oi := ⟨some 15, _, _, _, _, _⟩) (v := ?_) rfl (by kernel_rfl) (by kernel_rfl) (by kernel_rfl) (fun _ _ _ h => h) (Or.inl ⟨by rfl, ?_⟩) (by assumption) ?_
    rotate_left
    · intro wq hSw; go_simp; (try with_reducible rfl)
    try simp only [Act.put, List.setIfInBounds_toArray, List.set_cons_zero, List.set_cons_succ]
    refine wpAnyH_ready (rs := [9]) (by kernel_rfl) (by simp) ?_
    refine AllReadyH.cons (o := ⟨none, _, _, _, _, _⟩) rfl (fun K hK => ?_) AllReadyH.nil
    obtain ⟨⟨s5z0, s5c0, s5f0⟩, ⟨s5z1, s5c1, s5f1⟩, _⟩ := hS5.2
    go_simp
    refine hK.out _ _ (by (repeat (first | (with_reducible exact hHeld17) | (refine Keeps.set ?_ (by simp <;> omega) (by simp <;> omega) _)))) (fun hHeld18 => ?_)
    replace hS6 := hS6.mv2 hHeld18 (by first | omega | (simp <;> omega)) (by simp <;> omega)
    (try replace hz5 := hz5.store2 hHeld18 s5c0 s5c1)
    (try replace hzq := hzq.store2 hHeld18 s5c0 s5c1)
    (try replace hzr := hzr.store2 hHeld18 s5c0 s5c1)
    replace hS5 := hHeld18.add2 s5z0 s5c0 s5f0 s5c1 s5f1
    clear s5z0 s5c0 s5f0 s5z1 s5c1 s5f1
    clear hK K
    try clear hb
    try simp only [Act.put, List.setIfInBounds_toArray, List.set_cons_zero, List.set_cons_succ]
    generalize hGWA14 : World.setCell (World.setCell wd ⟨wp.heap.size, 0, none⟩ (.bool bq)) ⟨wp.heap.size, 1, none⟩ (.slice Aq nq cq) = WA14 at *
    clear hGWA14
    refine wpAnyH_ready (rs := [10]) (by kernel_rfl) (by simp) ?_
    refine AllReadyH.cons (o := ⟨none, _, _, _, _, _⟩) rfl (fun K hK => ?_) AllReadyH.nil
    obtain ⟨⟨s6z0, s6c0, s6f0⟩, ⟨s6z1, s6c1, s6f1⟩, _⟩ := hS6.2
    go_simp
    refine hK.out _ _ (by (repeat (first | (with_reducible exact hHeld18) | (refine Keeps.set ?_ (by simp <;> omega) (by simp <;> omega) _)))) (fun hHeld19 => ?_)
    replace hS5 := hS5.mv2 hHeld19 (by first | omega | (simp <;> omega)) (by simp <;> omega)
    (try replace hz5 := hz5.store2 hHeld19 s6c0 s6c1)
    (try replace hzq := hzq.store2 hHeld19 s6c0 s6c1)
    (try replace hzr := hzr.store2 hHeld19 s6c0 s6c1)
    replace hS6 := hHeld19.add2 s6z0 s6c0 s6f0 s6c1 s6f1
    clear s6z0 s6c0 s6f0 s6z1 s6c1 s6f1
    clear hK K
    try clear hb
    try simp only [Act.put, List.setIfInBounds_toArray, List.set_cons_zero, List.set_cons_succ]
    generalize hGWA15 : World.setCell (World.setCell WA14 ⟨WA9.heap.size, 0, none⟩ (.bool br)) ⟨WA9.heap.size, 1, none⟩ (.slice Ar nr cr) = WA15 at *
    clear hGWA15
    refine wpAnyH_done (by kernel_rfl) ?_ _
    have hHeld := hHeld19
    rotate_left 1
    exact AllReadyH.nil
    refine AllReadyH.cons (o := ⟨some 6, _, _, _, _, _⟩) rfl (fun K hK => ?_) ?_
    have lo6 := hHeld1.1.size
    obtain ⟨⟨a6_z0, a6_c0, a6_f0⟩, ⟨a6_z1, a6_c1, a6_f1⟩, ⟨a6_z2, a6_c2, a6_f2⟩, ⟨a6_z3, a6_c3, a6_f3⟩, _⟩ := hHeld1.2
    (try simp at lo6); (try simp at a6_z0); (try simp at a6_z1); (try simp at a6_z2); (try simp at a6_z3)
    go_simp
    refine hK.out _ _ (by first | exact hHeld1.alloc _ | exact (hHeld1.alloc _).drew) (fun hHeld20 => ?_)
    (try replace hz5 := hz5.alloc2 hHeld20)
    (try replace hzq := hzq.alloc2 hHeld20)
    (try replace hzr := hzr.alloc2 hHeld20)
    first | have hS6 := newK2 hHeld20 | have hS6 := newK2d hHeld20
    clear hK K
    try clear hb
    try simp only [Act.put, List.setIfInBounds_toArray, List.set_cons_zero, List.set_cons_succ]
    generalize hGWA16 : World.alloc wp (.cells #[.bool false, .slice none 0 0] 43) = WA16 at *
    clear hGWA16
    refine wpAnyH_ready (rs := [3, 7]) (by kernel_rfl) (by simp) ?_
    refine AllReadyH.cons (o := ⟨some 13, _, _, _, _, _⟩) rfl (fun K hK => ?_) ?_
    go_simp
    (first | ((with_reducible refine (PW.out _).mono ?_); rintro e wp ⟨b5, A5, n5, c5, rfl, hb, hz5⟩) | ((with_reducible refine (DV.out _ _ _ hz5 (by assumption)).mono ?_); rintro e wd ⟨bq, Aq, nq, cq, br, Ar, nr, cr, rfl, hb, hzq, hzr⟩))
    refine hK.out _ _ (hHeld20.next hb) (fun hHeld21 => ?_)
    replace hS6 := hS6.next hb
    (try replace hz5 := hz5.below hb)
    (try replace hzq := hzq.below hb)
    (try replace hzr := hzr.below hb)
    clear hK K
    try clear hb
    try simp only [Act.put, List.setIfInBounds_toArray, List.set_cons_zero, List.set_cons_succ]
    refine wpAnyH_take (i := 4) (oi := ⟨some 9, _, _, _, _, _⟩) (v := ?_) rfl (by kernel_rfl) (by kernel_rfl) (by kernel_rfl) (fun _ _ _ h => h) (Or.inl ⟨by rfl, ?_⟩) (by assumption) ?_
    rotate_left
    · intro wq hSw; go_simp; (try with_reducible rfl)
    try simp only [Act.put, List.setIfInBounds_toArray, List.set_cons_zero, List.set_cons_succ]
    refine wpAnyH_take (i := 5) (oi := ⟨some 14, _, _, _, _, _⟩) (v := ?_) rfl (by kernel_rfl) (by kernel_rfl) (by kernel_rfl) (fun _ _ _ h => h) (Or.inl ⟨by rfl, ?_⟩) (by assumption) ?_
    rotate_left
    · intro wq hSw; go_simp; (try with_reducible rfl)
    try simp only [Act.put, List.setIfInBounds_toArray, List.set_cons_zero, List.set_cons_succ]
    refine wpAnyH_take (i := 6) (oi := ⟨some 15, _, _, _, _, _⟩) (v := ?_) rfl (by kernel_rfl) (by kernel_rfl) (by kernel_rfl) (fun _ _ _ h => h) (Or.inl ⟨by rfl, ?_⟩) (by assumption) ?_
    rotate_left
    · intro wq hSw; go_simp; (try with_reducible rfl)
    try simp only [Act.put, List.setIfInBounds_toArray, List.set_cons_zero, List.set_cons_succ]
    refine wpAnyH_ready (rs := [7]) (by kernel_rfl) (by simp) ?_
    refine AllReadyH.cons (o := ⟨some 5, _, _, _, _, _⟩) rfl (fun K hK => ?_) AllReadyH.nil
    have hne6_5 := hS6.2.1.1
    have lo5 := hHeld21.1.size
    obtain ⟨⟨a5_z0, a5_c0, a5_f0⟩, ⟨a5_z1, a5_c1, a5_f1⟩, ⟨a5_z2, a5_c2, a5_f2⟩, ⟨a5_z3, a5_c3, a5_f3⟩, _⟩ := hHeld21.2
    (try simp at lo5); (try simp at hne6_5); (try simp at a5_z0); (try simp at a5_z1); (try simp at a5_z2); (try simp at a5_z3)
    go_simp
    refine hK.out _ _ (by first | exact hHeld21.alloc _ | exact (hHeld21.alloc _).drew) (fun hHeld22 => ?_)
    first | replace hS6 := hS6.alloc2e hHeld22 | replace hS6 := hS6.alloc2 hHeld22
    (try replace hz5 := hz5.alloc2 hHeld22)
    (try replace hzq := hzq.alloc2 hHeld22)
    (try replace hzr := hzr.alloc2 hHeld22)
    first | have hS5 := newK2 hHeld22 | have hS5 := newK2d hHeld22
    clear hK K
    try clear hb
    try simp only [Act.put, List.setIfInBounds_toArray, List.set_cons_zero, List.set_cons_succ]
    generalize hGWA17 : World.alloc wd (.cells #[.bool false, .slice none 0 0] 43) = WA17 at *
    clear hGWA17
    refine wpAnyH_ready (rs := [9]) (by kernel_rfl) (by simp) ?_
    refine AllReadyH.cons (o := ⟨none, _, _, _, _, _⟩) rfl (fun K hK => ?_) AllReadyH.nil
    obtain ⟨⟨s5z0, s5c0, s5f0⟩, ⟨s5z1, s5c1, s5f1⟩, _⟩ := hS5.2
    go_simp
    refine hK.out _ _ (by (repeat (first | (with_reducible exact hHeld22) | (refine Keeps.set ?_ (by simp <;> omega) (by simp <;> omega) _)))) (fun hHeld23 => ?_)
    replace hS6 := hS6.mv2 hHeld23 (by first | omega | (simp <;> omega)) (by simp <;> omega)
    (try replace hz5 := hz5.store2 hHeld23 s5c0 s5c1)
    (try replace hzq := hzq.store2 hHeld23 s5c0 s5c1)
    (try replace hzr := hzr.store2 hHeld23 s5c0 s5c1)
    replace hS5 := hHeld23.add2 s5z0 s5c0 s5f0 s5c1 s5f1
    clear s5z0 s5c0 s5f0 s5z1 s5c1 s5f1
    clear hK K
    try clear hb
    try simp only [Act.put, List.setIfInBounds_toArray, List.set_cons_zero, List.set_cons_succ]
    generalize hGWA18 : World.setCell (World.setCell WA17 ⟨wd.heap.size, 0, none⟩ (.bool bq)) ⟨wd.heap.size, 1, none⟩ (.slice Aq nq cq) = WA18 at *
    clear hGWA18
    refine wpAnyH_ready (rs := [10]) (by kernel_rfl) (by simp) ?_
    refine AllReadyH.cons (o := ⟨none, _, _, _, _, _⟩) rfl (fun K hK => ?_) AllReadyH.nil
    obtain ⟨⟨s6z0, s6c0, s6f0⟩, ⟨s6z1, s6c1, s6f1⟩, _⟩ := hS6.2
    go_simp
    refine hK.out _ _ (by (repeat (first | (with_reducible exact hHeld23) | (refine Keeps.set ?_ (by simp <;> omega) (by simp <;> omega) _)))) (fun hHeld24 => ?_)
    replace hS5 := hS5.mv2 hHeld24 (by first | omega | (simp <;> omega)) (by simp <;> omega)
    (try replace hz5 := hz5.store2 hHeld24 s6c0 s6c1)
    (try replace hzq := hzq.store2 hHeld24 s6c0 s6c1)
    (try replace hzr := hzr.store2 hHeld24 s6c0 s6c1)
    replace hS6 := hHeld24.add2 s6z0 s6c0 s6f0 s6c1 s6f1
    clear s6z0 s6c0 s6f0 s6z1 s6c1 s6f1
    clear hK K
    try clear hb
    try simp only [Act.put, List.setIfInBounds_toArray, List.set_cons_zero, List.set_cons_succ]
    generalize hGWA19 : World.setCell (World.setCell WA18 ⟨wp.heap.size, 0, none⟩ (.bool br)) ⟨wp.heap.size, 1, none⟩ (.slice Ar nr cr) = WA19 at *
    clear hGWA19
    refine wpAnyH_done (by kernel_rfl) ?_ _
    have hHeld := hHeld24
    rotate_left 1
    refine AllReadyH.cons (o := ⟨some 5, _, _, _, _, _⟩) rfl (fun K hK => ?_) ?_
    have hne6_5 := hS6.2.1.1
    have lo5 := hHeld20.1.size
    obtain ⟨⟨a5_z0, a5_c0, a5_f0⟩, ⟨a5_z1, a5_c1, a5_f1⟩, ⟨a5_z2, a5_c2, a5_f2⟩, ⟨a5_z3, a5_c3, a5_f3⟩, _⟩ := hHeld20.2
    (try simp at lo5); (try simp at hne6_5); (try simp at a5_z0); (try simp at a5_z1); (try simp at a5_z2); (try simp at a5_z3)
    go_simp
    refine hK.out _ _ (by first | exact hHeld20.alloc _ | exact (hHeld20.alloc _).drew) (fun hHeld25 => ?_)
    first | replace hS6 := hS6.alloc2e hHeld25 | replace hS6 := hS6.alloc2 hHeld25
    (try replace hz5 := hz5.alloc2 hHeld25)
    (try replace hzq := hzq.alloc2 hHeld25)
    (try replace hzr := hzr.alloc2 hHeld25)
    first | have hS5 := newK2 hHeld25 | have hS5 := newK2d hHeld25
    clear hK K
    try clear hb
    try simp only [Act.put, List.setIfInBounds_toArray, List.set_cons_zero, List.set_cons_succ]
    generalize hGWA20 : World.alloc WA16 (.cells #[.bool false, .slice none 0 0] 43) = WA20 at *
    clear hGWA20
    refine wpAnyH_ready (rs := [3]) (by kernel_rfl) (by simp) ?_
    refine AllReadyH.cons (o := ⟨some 13, _, _, _, _, _⟩) rfl (fun K hK => ?_) AllReadyH.nil
    go_simp
    (first | ((with_reducible refine (PW.out _).mono ?_); rintro e wp ⟨b5, A5, n5, c5, rfl, hb, hz5⟩) | ((with_reducible refine (DV.out _ _ _ hz5 (by assumption)).mono ?_); rintro e wd ⟨bq, Aq, nq, cq, br, Ar, nr, cr, rfl, hb, hzq, hzr⟩))
    refine hK.out _ _ (hHeld25.next hb) (fun hHeld26 => ?_)
    replace hS6 := hS6.next hb
    replace hS5 := hS5.next hb
    (try replace hz5 := hz5.below hb)
    (try replace hzq := hzq.below hb)
    (try replace hzr := hzr.below hb)
    clear hK K
    try clear hb
    try simp only [Act.put, List.setIfInBounds_toArray, List.set_cons_zero, List.set_cons_succ]
    refine wpAnyH_take (i := 4) (oi := ⟨some 9, _, _, _, _, _⟩) (v := ?_) rfl (by kernel_rfl) (by kernel_rfl) (by kernel_rfl) (fun _ _ _ h => h) (Or.inl ⟨by rfl, ?_⟩) (by assumption) ?_
    rotate_left
    · intro wq hSw; go_simp; (try with_reducible rfl)
    try simp only [Act.put, List.setIfInBounds_toArray, List.set_cons_zero, List.set_cons_succ]
    refine wpAnyH_take (i := 5) (oi := ⟨some 14, _, _, _, _, _⟩) (v := ?_) rfl (by kernel_rfl) (by kernel_rfl) (by kernel_rfl) (fun _ _ _ h => h) (Or.inl ⟨by rfl, ?_⟩) (by assumption) ?_
    rotate_left
    · intro wq hSw; go_simp; (try with_reducible rfl)
    try simp only [Act.put, List.setIfInBounds_toArray, List.set_cons_zero, List.set_cons_succ]
    refine wpAnyH_take (i := 6) (oi := ⟨some 15, _, _, _, _, _⟩) (v := ?_) rfl (by kernel_rfl) (by kernel_rfl) (by kernel_rfl) (fun _ _ _ h => h) (Or.inl ⟨by rfl, ?_⟩) (by assumption) ?_
    rotate_left
    · intro wq hSw; go_simp; (try with_reducible rfl)
    try simp only [Act.put, List.setIfInBounds_toArray, List.set_cons_zero, List.set_cons_succ]
    refine wpAnyH_ready (rs := [9]) (by kernel_rfl) (by simp) ?_
    refine AllReadyH.cons (o := ⟨none, _, _, _, _, _⟩) rfl (fun K hK => ?_) AllReadyH.nil
    obtain ⟨⟨s5z0, s5c0, s5f0⟩, ⟨s5z1, s5c1, s5f1⟩, _⟩ := hS5.2
    go_simp
    refine hK.out _ _ (by (repeat (first | (with_reducible exact hHeld26) | (refine Keeps.set ?_ (by simp <;> omega) (by simp <;> omega) _)))) (fun hHeld27 => ?_)
    replace hS6 := hS6.mv2 hHeld27 (by first | omega | (simp <;> omega)) (by simp <;> omega)
    (try replace hz5 := hz5.store2 hHeld27 s5c0 s5c1)
    (try replace hzq := hzq.store2 hHeld27 s5c0 s5c1)
    (try replace hzr := hzr.store2 hHeld27 s5c0 s5c1)
    replace hS5 := hHeld27.add2 s5z0 s5c0 s5f0 s5c1 s5f1
    clear s5z0 s5c0 s5f0 s5z1 s5c1 s5f1
    clear hK K
    try clear hb
    try simp only [Act.put, List.setIfInBounds_toArray, List.set_cons_zero, List.set_cons_succ]
    generalize hGWA21 : World.setCell (World.setCell wd ⟨WA16.heap.size, 0, none⟩ (.bool bq)) ⟨WA16.heap.size, 1, none⟩ (.slice Aq nq cq) = WA21 at *
    clear hGWA21
    refine wpAnyH_ready (rs := [10]) (by kernel_rfl) (by simp) ?_
    refine AllReadyH.cons (o := ⟨none, _, _, _, _, _⟩) rfl (fun K hK => ?_) AllReadyH.nil
    obtain ⟨⟨s6z0, s6c0, s6f0⟩, ⟨s6z1, s6c1, s6f1⟩, _⟩ := hS6.2
    go_simp
    refine hK.out _ _ (by (repeat (first | (with_reducible exact hHeld27) | (refine Keeps.set ?_ (by simp <;> omega) (by simp <;> omega) _)))) (fun hHeld28 => ?_)
    replace hS5 := hS5.mv2 hHeld28 (by first | omega | (simp <;> omega)) (by simp <;> omega)
    (try replace hz5 := hz5.store2 hHeld28 s6c0 s6c1)
    (try replace hzq := hzq.store2 hHeld28 s6c0 s6c1)
    (try replace hzr := hzr.store2 hHeld28 s6c0 s6c1)
    replace hS6 := hHeld28.add2 s6z0 s6c0 s6f0 s6c1 s6f1
    clear s6z0 s6c0 s6f0 s6z1 s6c1 s6f1
    clear hK K
    try clear hb
    try simp only [Act.put, List.setIfInBounds_toArray, List.set_cons_zero, List.set_cons_succ]
    generalize hGWA22 : World.setCell (World.setCell WA21 ⟨wp.heap.size, 0, none⟩ (.bool br)) ⟨wp.heap.size, 1, none⟩ (.slice Ar nr cr) = WA22 at *
    clear hGWA22
    refine wpAnyH_done (by kernel_rfl) ?_ _
    have hHeld := hHeld28
    rotate_left 1
    exact AllReadyH.nil
    exact AllReadyH.nil
    refine AllReadyH.cons (o := ⟨some 5, _, _, _, _, _⟩) rfl (fun K hK => ?_) ?_
    have lo5 := hHeld0.1.size
    obtain ⟨⟨a5_z0, a5_c0, a5_f0⟩, ⟨a5_z1, a5_c1, a5_f1⟩, ⟨a5_z2, a5_c2, a5_f2⟩, ⟨a5_z3, a5_c3, a5_f3⟩, _⟩ := hHeld0.2
    (try simp at lo5); (try simp at a5_z0); (try simp at a5_z1); (try simp at a5_z2); (try simp at a5_z3)
    go_simp
    refine hK.out _ _ (by first | exact hHeld0.alloc _ | exact (hHeld0.alloc _).drew) (fun hHeld29 => ?_)
    (try replace hz5 := hz5.alloc2 hHeld29)
    (try replace hzq := hzq.alloc2 hHeld29)
    (try replace hzr := hzr.alloc2 hHeld29)
    first | have hS5 := newK2 hHeld29 | have hS5 := newK2d hHeld29
    clear hK K
    try clear hb
    try simp only [Act.put, List.setIfInBounds_toArray, List.set_cons_zero, List.set_cons_succ]
    generalize hGWA23 : World.alloc wi (.cells #[.bool false, .slice none 0 0] 43) = WA23 at *
    clear hGWA23
    refine wpAnyH_ready (rs := [2, 8]) (by kernel_rfl) (by simp) ?_
    refine AllReadyH.cons (o := ⟨some 12, _, _, _, _, _⟩) rfl (fun K hK => ?_) ?_
    go_simp
    (first | ((with_reducible refine (PW.out _).mono ?_); rintro e wp ⟨b5, A5, n5, c5, rfl, hb, hz5⟩) | ((with_reducible refine (DV.out _ _ _ hz5 (by assumption)).mono ?_); rintro e wd ⟨bq, Aq, nq, cq, br, Ar, nr, cr, rfl, hb, hzq, hzr⟩))
    refine hK.out _ _ (hHeld29.next hb) (fun hHeld30 => ?_)
    replace hS5 := hS5.next hb
    (try replace hz5 := hz5.below hb)
    (try replace hzq := hzq.below hb)
    (try replace hzr := hzr.below hb)
    clear hK K
    try clear hb
    try simp only [Act.put, List.setIfInBounds_toArray, List.set_cons_zero, List.set_cons_succ]
    refine wpAnyH_ready (rs := [3, 8]) (by kernel_rfl) (by simp) ?_
    refine AllReadyH.cons (o := ⟨some 13, _, _, _, _, _⟩) rfl (fun K hK => ?_) ?_
    go_simp
    (first | ((with_reducible refine (PW.out _).mono ?_); rintro e wp ⟨b5, A5, n5, c5, rfl, hb, hz5⟩) | ((with_reducible refine (DV.out _ _ _ hz5 (by assumption)).mono ?_); rintro e wd ⟨bq, Aq, nq, cq, br, Ar, nr, cr, rfl, hb, hzq, hzr⟩))
    refine hK.out _ _ (hHeld30.next hb) (fun hHeld31 => ?_)
    replace hS5 := hS5.next hb
    (try replace hz5 := hz5.below hb)
    (try replace hzq := hzq.below hb)
    (try replace hzr := hzr.below hb)
    clear hK K
    try clear hb
    try simp only [Act.put, List.setIfInBounds_toArray, List.set_cons_zero, List.set_cons_succ]
    refine wpAnyH_take (i := 4) (oi := ⟨some 9, _, _, _, _, _⟩) (v := ?_) rfl (by kernel_rfl) (by kernel_rfl) (by kernel_rfl) (fun _ _ _ h => h) (Or.inl ⟨by rfl, ?_⟩) (by assumption) ?_
    rotate_left
    · intro wq hSw; go_simp; (try with_reducible rfl)
    try simp only [Act.put, List.setIfInBounds_toArray, List.set_cons_zero, List.set_cons_succ]
    refine wpAnyH_take (i := 5) (oi := ⟨some 14, _, _, _, _, _⟩) (v := ?_) rfl (by kernel_rfl) (by kernel_rfl) (by kernel_rfl) (fun _ _ _ h => h) (Or.inl ⟨by rfl, ?_⟩) (by assumption) ?_
    rotate_left
    · intro wq hSw; go_simp; (try with_reducible rfl)
    try simp only [Act.put, List.setIfInBounds_toArray, List.set_cons_zero, List.set_cons_succ]
    refine wpAnyH_take (i := 6) (oi := ⟨some 15, _, _, _, _, _⟩) (v := ?_) rfl (by kernel_rfl) (by kernel_rfl) (by kernel_rfl) (fun _ _ _ h => h) (Or.inl ⟨by rfl, ?_⟩) (by assumption) ?_
    rotate_left
    · intro wq hSw; go_simp; (try with_reducible rfl)
    try simp only [Act.put, List.setIfInBounds_toArray, List.set_cons_zero, List.set_cons_succ]
    refine wpAnyH_ready (rs := [8]) (by kernel_rfl) (by simp) ?_
    refine AllReadyH.cons (o := ⟨some 6, _, _, _, _, _⟩) rfl (fun K hK => ?_) AllReadyH.nil
    have hne5_6 := hS5.2.1.1
    have lo6 := hHeld31.1.size
    obtain ⟨⟨a6_z0, a6_c0, a6_f0⟩, ⟨a6_z1, a6_c1, a6_f1⟩, ⟨a6_z2, a6_c2, a6_f2⟩, ⟨a6_z3, a6_c3, a6_f3⟩, _⟩ := hHeld31.2
    (try simp at lo6); (try simp at hne5_6); (try simp at a6_z0); (try simp at a6_z1); (try simp at a6_z2); (try simp at a6_z3)
    go_simp
    refine hK.out _ _ (by first | exact hHeld31.alloc _ | exact (hHeld31.alloc _).drew) (fun hHeld32 => ?_)
    first | replace hS5 := hS5.alloc2e hHeld32 | replace hS5 := hS5.alloc2 hHeld32
    (try replace hz5 := hz5.alloc2 hHeld32)
    (try replace hzq := hzq.alloc2 hHeld32)
    (try replace hzr := hzr.alloc2 hHeld32)
    first | have hS6 := newK2 hHeld32 | have hS6 := newK2d hHeld32
    clear hK K
    try clear hb
    try simp only [Act.put, List.setIfInBounds_toArray, List.set_cons_zero, List.set_cons_succ]
    generalize hGWA24 : World.alloc wd (.cells #[.bool false, .slice none 0 0] 43) = WA24 at *
    clear hGWA24
    refine wpAnyH_ready (rs := [9]) (by kernel_rfl) (by simp) ?_
    refine AllReadyH.cons (o := ⟨none, _, _, _, _, _⟩) rfl (fun K hK => ?_) AllReadyH.nil
    obtain ⟨⟨s5z0, s5c0, s5f0⟩, ⟨s5z1, s5c1, s5f1⟩, _⟩ := hS5.2
    go_simp
    refine hK.out _ _ (by (repeat (first | (with_reducible exact hHeld32) | (refine Keeps.set ?_ (by simp <;> omega) (by simp <;> omega) _)))) (fun hHeld33 => ?_)
    replace hS6 := hS6.mv2 hHeld33 (by first | omega | (simp <;> omega)) (by simp <;> omega)
    (try replace hz5 := hz5.store2 hHeld33 s5c0 s5c1)
    (try replace hzq := hzq.store2 hHeld33 s5c0 s5c1)
    (try replace hzr := hzr.store2 hHeld33 s5c0 s5c1)
    replace hS5 := hHeld33.add2 s5z0 s5c0 s5f0 s5c1 s5f1
    clear s5z0 s5c0 s5f0 s5z1 s5c1 s5f1
    clear hK K
    try clear hb
    try simp only [Act.put, List.setIfInBounds_toArray, List.set_cons_zero, List.set_cons_succ]
    generalize hGWA25 : World.setCell (World.setCell WA24 ⟨wi.heap.size, 0, none⟩ (.bool bq)) ⟨wi.heap.size, 1, none⟩ (.slice Aq nq cq) = WA25 at *
    clear hGWA25
    refine wpAnyH_ready (rs := [10]) (by kernel_rfl) (by simp) ?_
    refine AllReadyH.cons (o := ⟨none, _, _, _, _, _⟩) rfl (fun K hK => ?_) AllReadyH.nil
    obtain ⟨⟨s6z0, s6c0, s6f0⟩, ⟨s6z1, s6c1, s6f1⟩, _⟩ := hS6.2
    go_simp
    refine hK.out _ _ (by (repeat (first | (with_reducible exact hHeld33) | (refine Keeps.set ?_ (by simp <;> omega) (by simp <;> omega) _)))) (fun hHeld34 => ?_)
    replace hS5 := hS5.mv2 hHeld34 (by first | omega | (simp <;> omega)) (by simp <;> omega)
    (try replace hz5 := hz5.store2 hHeld34 s6c0 s6c1)
    (try replace hzq := hzq.store2 hHeld34 s6c0 s6c1)
    (try replace hzr := hzr.store2 hHeld34 s6c0 s6c1)
    replace hS6 := hHeld34.add2 s6z0 s6c0 s6f0 s6c1 s6f1
    clear s6z0 s6c0 s6f0 s6z1 s6c1 s6f1
    clear hK K
    try clear hb
    try simp only [Act.put, List.setIfInBounds_toArray, List.set_cons_zero, List.set_cons_succ]
    generalize hGWA26 : World.setCell (World.setCell WA25 ⟨wd.heap.size, 0, none⟩ (.bool br)) ⟨wd.heap.size, 1, none⟩ (.slice Ar nr cr) = WA26 at *
    clear hGWA26
    refine wpAnyH_done (by kernel_rfl) ?_ _
    have hHeld := hHeld34
    rotate_left 1
    refine AllReadyH.cons (o := ⟨some 6, _, _, _, _, _⟩) rfl (fun K hK => ?_) ?_
    have hne5_6 := hS5.2.1.1
    have lo6 := hHeld30.1.size
    obtain ⟨⟨a6_z0, a6_c0, a6_f0⟩, ⟨a6_z1, a6_c1, a6_f1⟩, ⟨a6_z2, a6_c2, a6_f2⟩, ⟨a6_z3, a6_c3, a6_f3⟩, _⟩ := hHeld30.2
    (try simp at lo6); (try simp at hne5_6); (try simp at a6_z0); (try simp at a6_z1); (try simp at a6_z2); (try simp at a6_z3)
    go_simp
    refine hK.out _ _ (by first | exact hHeld30.alloc _ | exact (hHeld30.alloc _).drew) (fun hHeld35 => ?_)
    first | replace hS5 := hS5.alloc2e hHeld35 | replace hS5 := hS5.alloc2 hHeld35
    (try replace hz5 := hz5.alloc2 hHeld35)
    (try replace hzq := hzq.alloc2 hHeld35)
    (try replace hzr := hzr.alloc2 hHeld35)
    first | have hS6 := newK2 hHeld35 | have hS6 := newK2d hHeld35
    clear hK K
    try clear hb
    try simp only [Act.put, List.setIfInBounds_toArray, List.set_cons_zero, List.set_cons_succ]
    generalize hGWA27 : World.alloc wp (.cells #[.bool false, .slice none 0 0] 43) = WA27 at *
    clear hGWA27
    refine wpAnyH_ready (rs := [3]) (by kernel_rfl) (by simp) ?_
    refine AllReadyH.cons (o := ⟨some 13, _, _, _, _, _⟩) rfl (fun K hK => ?_) AllReadyH.nil
    go_simp
    (first | ((with_reducible refine (PW.out _).mono ?_); rintro e wp ⟨b5, A5, n5, c5, rfl, hb, hz5⟩) | ((with_reducible refine (DV.out _ _ _ hz5 (by assumption)).mono ?_); rintro e wd ⟨bq, Aq, nq, cq, br, Ar, nr, cr, rfl, hb, hzq, hzr⟩))
    refine hK.out _ _ (hHeld35.next hb) (fun hHeld36 => ?_)
    replace hS5 := hS5.next hb
    replace hS6 := hS6.next hb
    (try replace hz5 := hz5.below hb)
    (try replace hzq := hzq.below hb)
    (try replace hzr := hzr.below hb)
    clear hK K
    try clear hb
    try simp only [Act.put, List.setIfInBounds_toArray, List.set_cons_zero, List.set_cons_succ]
    refine wpAnyH_take (i := 4) (oi := ⟨some 9, _, _, _, _, _⟩) (v := ?_) rfl (by kernel_rfl) (by kernel_rfl) (by kernel_rfl) (fun _ _ _ h => h) (Or.inl ⟨by rfl, ?_⟩) (by assumption) ?_
    rotate_left
    · intro wq hSw; go_simp; (try with_reducible rfl)
    try simp only [Act.put, List.setIfInBounds_toArray, List.set_cons_zero, List.set_cons_succ]
    refine wpAnyH_take (i := 5) (oi := ⟨some 14, _, _, _, _, _⟩) (v := ?_) rfl (by kernel_rfl) (by kernel_rfl) (by kernel_rfl) (fun _ _ _ h => h) (Or.inl ⟨by rfl, ?_⟩) (by assumption) ?_
    rotate_left
    · intro wq hSw; go_simp; (try with_reducible rfl)
    try simp only [Act.put, List.setIfInBounds_toArray, List.set_cons_zero, List.set_cons_succ]
    refine wpAnyH_take (i := 6) (oi := ⟨some 15, _, _, _, _, _⟩) (v := ?_) rfl (by kernel_rfl) (by kernel_rfl) (by kernel_rfl) (fun _ _ _ h => h) (Or.inl ⟨by rfl, ?_⟩) (by assumption) ?_
    rotate_left
    · intro wq hSw; go_simp; (try with_reducible rfl)
    try simp only [Act.put, List.setIfInBounds_toArray, List.set_cons_zero, List.set_cons_succ]
    refine wpAnyH_ready (rs := [9]) (by kernel_rfl) (by simp) ?_
    refine AllReadyH.cons (o := ⟨none, _, _, _, _, _⟩) rfl (fun K hK => ?_) AllReadyH.nil
    obtain ⟨⟨s5z0, s5c0, s5f0⟩, ⟨s5z1, s5c1, s5f1⟩, _⟩ := hS5.2
    go_simp
    refine hK.out _ _ (by (repeat (first | (with_reducible exact hHeld36) | (refine Keeps.set ?_ (by simp <;> omega) (by simp <;> omega) _)))) (fun hHeld37 => ?_)
    replace hS6 := hS6.mv2 hHeld37 (by first | omega | (simp <;> omega)) (by simp <;> omega)
    (try replace hz5 := hz5.store2 hHeld37 s5c0 s5c1)
    (try replace hzq := hzq.store2 hHeld37 s5c0 s5c1)
    (try replace hzr := hzr.store2 hHeld37 s5c0 s5c1)
    replace hS5 := hHeld37.add2 s5z0 s5c0 s5f0 s5c1 s5f1
    clear s5z0 s5c0 s5f0 s5z1 s5c1 s5f1
    clear hK K
    try clear hb
    try simp only [Act.put, List.setIfInBounds_toArray, List.set_cons_zero, List.set_cons_succ]
    generalize hGWA28 : World.setCell (World.setCell wd ⟨wi.heap.size, 0, none⟩ (.bool bq)) ⟨wi.heap.size, 1, none⟩ (.slice Aq nq cq) = WA28 at *
    clear hGWA28
    refine wpAnyH_ready (rs := [10]) (by kernel_rfl) (by simp) ?_
    refine AllReadyH.cons (o := ⟨none, _, _, _, _, _⟩) rfl (fun K hK => ?_) AllReadyH.nil
    obtain ⟨⟨s6z0, s6c0, s6f0⟩, ⟨s6z1, s6c1, s6f1⟩, _⟩ := hS6.2
    go_simp
    refine hK.out _ _ (by (repeat (first | (with_reducible exact hHeld37) | (refine Keeps.set ?_ (by simp <;> omega) (by simp <;> omega) _)))) (fun hHeld38 => ?_)
    replace hS5 := hS5.mv2 hHeld38 (by first | omega | (simp <;> omega)) (by simp <;> omega)
    (try replace hz5 := hz5.store2 hHeld38 s6c0 s6c1)
    (try replace hzq := hzq.store2 hHeld38 s6c0 s6c1)
    (try replace hzr := hzr.store2 hHeld38 s6c0 s6c1)
    replace hS6 := hHeld38.add2 s6z0 s6c0 s6f0 s6c1 s6f1
    clear s6z0 s6c0 s6f0 s6z1 s6c1 s6f1
    clear hK K
    try clear hb
    try simp only [Act.put, List.setIfInBounds_toArray, List.set_cons_zero, List.set_cons_succ]
    generalize hGWA29 : World.setCell (World.setCell WA28 ⟨wp.heap.size, 0, none⟩ (.bool br)) ⟨wp.heap.size, 1, none⟩ (.slice Ar nr cr) = WA29 at *
    clear hGWA29
    refine wpAnyH_done (by kernel_rfl) ?_ _
    have hHeld := hHeld38
    rotate_left 1
    exact AllReadyH.nil
    refine AllReadyH.cons (o := ⟨some 6, _, _, _, _, _⟩) rfl (fun K hK => ?_) ?_
    have hne5_6 := hS5.2.1.1
    have lo6 := hHeld29.1.size
    obtain ⟨⟨a6_z0, a6_c0, a6_f0⟩, ⟨a6_z1, a6_c1, a6_f1⟩, ⟨a6_z2, a6_c2, a6_f2⟩, ⟨a6_z3, a6_c3, a6_f3⟩, _⟩ := hHeld29.2
    (try simp at lo6); (try simp at hne5_6); (try simp at a6_z0); (try simp at a6_z1); (try simp at a6_z2); (try simp at a6_z3)
    go_simp
    refine hK.out _ _ (by first | exact hHeld29.alloc _ | exact (hHeld29.alloc _).drew) (fun hHeld39 => ?_)
    first | replace hS5 := hS5.alloc2e hHeld39 | replace hS5 := hS5.alloc2 hHeld39
    (try replace hz5 := hz5.alloc2 hHeld39)
    (try replace hzq := hzq.alloc2 hHeld39)
    (try replace hzr := hzr.alloc2 hHeld39)
    first | have hS6 := newK2 hHeld39 | have hS6 := newK2d hHeld39
    clear hK K
    try clear hb
    try simp only [Act.put, List.setIfInBounds_toArray, List.set_cons_zero, List.set_cons_succ]
    generalize hGWA30 : World.alloc WA23 (.cells #[.bool false, .slice none 0 0] 43) = WA30 at *
    clear hGWA30
    refine wpAnyH_ready (rs := [2]) (by kernel_rfl) (by simp) ?_
    refine AllReadyH.cons (o := ⟨some 12, _, _, _, _, _⟩) rfl (fun K hK => ?_) AllReadyH.nil
    go_simp
    (first | ((with_reducible refine (PW.out _).mono ?_); rintro e wp ⟨b5, A5, n5, c5, rfl, hb, hz5⟩) | ((with_reducible refine (DV.out _ _ _ hz5 (by assumption)).mono ?_); rintro e wd ⟨bq, Aq, nq, cq, br, Ar, nr, cr, rfl, hb, hzq, hzr⟩))
    refine hK.out _ _ (hHeld39.next hb) (fun hHeld40 => ?_)
    replace hS5 := hS5.next hb
    replace hS6 := hS6.next hb
    (try replace hz5 := hz5.below hb)
    (try replace hzq := hzq.below hb)
    (try replace hzr := hzr.below hb)
    clear hK K
    try clear hb
    try simp only [Act.put, List.setIfInBounds_toArray, List.set_cons_zero, List.set_cons_succ]
    refine wpAnyH_ready (rs := [3]) (by kernel_rfl) (by simp) ?_
    refine AllReadyH.cons (o := ⟨some 13, _, _, _, _, _⟩) rfl (fun K hK => ?_) AllReadyH.nil
    go_simp
    (first | ((with_reducible refine (PW.out _).mono ?_); rintro e wp ⟨b5, A5, n5, c5, rfl, hb, hz5⟩) | ((with_reducible refine (DV.out _ _ _ hz5 (by assumption)).mono ?_); rintro e wd ⟨bq, Aq, nq, cq, br, Ar, nr, cr, rfl, hb, hzq, hzr⟩))
    refine hK.out _ _ (hHeld40.next hb) (fun hHeld41 => ?_)
    replace hS5 := hS5.next hb
    replace hS6 := hS6.next hb
    (try replace hz5 := hz5.below hb)
    (try replace hzq := hzq.below hb)
    (try replace hzr := hzr.below hb)
    clear hK K
    try clear hb
    try simp only [Act.put, List.setIfInBounds_toArray, List.set_cons_zero, List.set_cons_succ]
    refine wpAnyH_take (i := 4) (oi := ⟨some 9, _, _, _, _, _⟩) (v := ?_) rfl (by kernel_rfl) (by kernel_rfl) (by kernel_rfl) (fun _ _ _ h => h) (Or.inl ⟨by rfl, ?_⟩) (by assumption) ?_
    rotate_left
    · intro wq hSw; go_simp; (try with_reducible rfl)
    try simp only [Act.put, List.setIfInBounds_toArray, List.set_cons_zero, List.set_cons_succ]
    refine wpAnyH_take (i := 5) (oi := ⟨some 14, _, _, _, _, _⟩) (v := ?_) rfl (by kernel_rfl) (by kernel_rfl) (by kernel_rfl) (fun _ _ _ h => h) (Or.inl ⟨by rfl, ?_⟩) (by assumption) ?_
    rotate_left
    · intro wq hSw; go_simp; (try with_reducible rfl)
    try simp only [Act.put, List.setIfInBounds_toArray, List.set_cons_zero, List.set_cons_succ]
    refine wpAnyH_take (i := 6) (oi := ⟨some 15, _, _, _, _, _⟩) (v := ?_) rfl (by kernel_rfl) (by kernel_rfl) (by kernel_rfl) (fun _ _ _ h => h) (Or.inl ⟨by rfl, ?_⟩) (by assumption) ?_
    rotate_left
    · intro wq hSw; go_simp; (try with_reducible rfl)
    try simp only [Act.put, List.setIfInBounds_toArray, List.set_cons_zero, List.set_cons_succ]
    refine wpAnyH_ready (rs := [9]) (by kernel_rfl) (by simp) ?_
    refine AllReadyH.cons (o := ⟨none, _, _, _, _, _⟩) rfl (fun K hK => ?_) AllReadyH.nil
    obtain ⟨⟨s5z0, s5c0, s5f0⟩, ⟨s5z1, s5c1, s5f1⟩, _⟩ := hS5.2
    go_simp
    refine hK.out _ _ (by (repeat (first | (with_reducible exact hHeld41) | (refine Keeps.set ?_ (by simp <;> omega) (by simp <;> omega) _)))) (fun hHeld42 => ?_)
    replace hS6 := hS6.mv2 hHeld42 (by first | omega | (simp <;> omega)) (by simp <;> omega)
    (try replace hz5 := hz5.store2 hHeld42 s5c0 s5c1)
    (try replace hzq := hzq.store2 hHeld42 s5c0 s5c1)
    (try replace hzr := hzr.store2 hHeld42 s5c0 s5c1)
    replace hS5 := hHeld42.add2 s5z0 s5c0 s5f0 s5c1 s5f1
    clear s5z0 s5c0 s5f0 s5z1 s5c1 s5f1
    clear hK K
    try clear hb
    try simp only [Act.put, List.setIfInBounds_toArray, List.set_cons_zero, List.set_cons_succ]
    generalize hGWA31 : World.setCell (World.setCell wd ⟨wi.heap.size, 0, none⟩ (.bool bq)) ⟨wi.heap.size, 1, none⟩ (.slice Aq nq cq) = WA31 at *
    clear hGWA31
    refine wpAnyH_ready (rs := [10]) (by kernel_rfl) (by simp) ?_
    refine AllReadyH.cons (o := ⟨none, _, _, _, _, _⟩) rfl (fun K hK => ?_) AllReadyH.nil
    obtain ⟨⟨s6z0, s6c0, s6f0⟩, ⟨s6z1, s6c1, s6f1⟩, _⟩ := hS6.2
    go_simp
    refine hK.out _ _ (by (repeat (first | (with_reducible exact hHeld42) | (refine Keeps.set ?_ (by simp <;> omega) (by simp <;> omega) _)))) (fun hHeld43 => ?_)
    replace hS5 := hS5.mv2 hHeld43 (by first | omega | (simp <;> omega)) (by simp <;> omega)
    (try replace hz5 := hz5.store2 hHeld43 s6c0 s6c1)
    (try replace hzq := hzq.store2 hHeld43 s6c0 s6c1)
    (try replace hzr := hzr.store2 hHeld43 s6c0 s6c1)
    replace hS6 := hHeld43.add2 s6z0 s6c0 s6f0 s6c1 s6f1
    clear s6z0 s6c0 s6f0 s6z1 s6c1 s6f1
    clear hK K
    try clear hb
    try simp only [Act.put, List.setIfInBounds_toArray, List.set_cons_zero, List.set_cons_succ]
    generalize hGWA32 : World.setCell (World.setCell WA31 ⟨WA23.heap.size, 0, none⟩ (.bool br)) ⟨WA23.heap.size, 1, none⟩ (.slice Ar nr cr) = WA32 at *
    clear hGWA32
    refine wpAnyH_done (by kernel_rfl) ?_ _
    have hHeld := hHeld43
    rotate_left 1
    exact AllReadyH.nil
    refine AllReadyH.cons (o := ⟨some 6, _, _, _, _, _⟩) rfl (fun K hK => ?_) ?_
    have lo6 := hHeld0.1.size
    obtain ⟨⟨a6_z0, a6_c0, a6_f0⟩, ⟨a6_z1, a6_c1, a6_f1⟩, ⟨a6_z2, a6_c2, a6_f2⟩, ⟨a6_z3, a6_c3, a6_f3⟩, _⟩ := hHeld0.2
    (try simp at lo6); (try simp at a6_z0); (try simp at a6_z1); (try simp at a6_z2); (try simp at a6_z3)
    go_simp
    refine hK.out _ _ (by first | exact hHeld0.alloc _ | exact (hHeld0.alloc _).drew) (fun hHeld44 => ?_)
    (try replace hz5 := hz5.alloc2 hHeld44)
    (try replace hzq := hzq.alloc2 hHeld44)
    (try replace hzr := hzr.alloc2 hHeld44)
    first | have hS6 := newK2 hHeld44 | have hS6 := newK2d hHeld44
    clear hK K
    try clear hb
    try simp only [Act.put, List.setIfInBounds_toArray, List.set_cons_zero, List.set_cons_succ]
    generalize hGWA33 : World.alloc wi (.cells #[.bool false, .slice none 0 0] 43) = WA33 at *
    clear hGWA33
    refine wpAnyH_ready (rs := [2, 7]) (by kernel_rfl) (by simp) ?_
    refine AllReadyH.cons (o := ⟨some 12, _, _, _, _, _⟩) rfl (fun K hK => ?_) ?_
    go_simp
    (first | ((with_reducible refine (PW.out _).mono ?_); rintro e wp ⟨b5, A5, n5, c5, rfl, hb, hz5⟩) | ((with_reducible refine (DV.out _ _ _ hz5 (by assumption)).mono ?_); rintro e wd ⟨bq, Aq, nq, cq, br, Ar, nr, cr, rfl, hb, hzq, hzr⟩))
    refine hK.out _ _ (hHeld44.next hb) (fun hHeld45 => ?_)
    replace hS6 := hS6.next hb
    (try replace hz5 := hz5.below hb)
    (try replace hzq := hzq.below hb)
    (try replace hzr := hzr.below hb)
    clear hK K
    try clear hb
    try simp only [Act.put, List.setIfInBounds_toArray, List.set_cons_zero, List.set_cons_succ]
    refine wpAnyH_ready (rs := [3, 7]) (by kernel_rfl) (by simp) ?_
    refine AllReadyH.cons (o := ⟨some 13, _, _, _, _, _⟩) rfl (fun K hK => ?_) ?_
    go_simp
    (first | ((with_reducible refine (PW.out _).mono ?_); rintro e wp ⟨b5, A5, n5, c5, rfl, hb, hz5⟩) | ((with_reducible refine (DV.out _ _ _ hz5 (by assumption)).mono ?_); rintro e wd ⟨bq, Aq, nq, cq, br, Ar, nr, cr, rfl, hb, hzq, hzr⟩))
    refine hK.out _ _ (hHeld45.next hb) (fun hHeld46 => ?_)
    replace hS6 := hS6.next hb
    (try replace hz5 := hz5.below hb)
    (try replace hzq := hzq.below hb)
    (try replace hzr := hzr.below hb)
    clear hK K
    try clear hb
    try simp only [Act.put, List.setIfInBounds_toArray, List.set_cons_zero, List.set_cons_succ]
    refine wpAnyH_take (i := 4) (oi := ⟨some 9, _, _, _, _, _⟩) (v := ?_) rfl (by kernel_rfl) (by kernel_rfl) (by kernel_rfl) (fun _ _ _ h => h) (Or.inl ⟨by rfl, ?_⟩) (by assumption) ?_
    rotate_left
    · intro wq hSw; go_simp; (try with_reducible rfl)
    try simp only [Act.put, List.setIfInBounds_toArray, List.set_cons_zero, List.set_cons_succ]
    refine wpAnyH_take (i := 5) (oi := ⟨some 14, _, _, _, _, _⟩) (v := ?_) rfl (by kernel_rfl) (by kernel_rfl) (by kernel_rfl) (fun _ _ _ h => h) (Or.inl ⟨by rfl, ?_⟩) (by assumption) ?_
    rotate_left
    · intro wq hSw; go_simp; (try with_reducible rfl)
    try simp only [Act.put, List.setIfInBounds_toArray, List.set_cons_zero, List.set_cons_succ]
    refine wpAnyH_take (i := 6) (oi := ⟨some 15, _, _, _, _, _⟩) (v := ?_) rfl (by kernel_rfl) (by kernel_rfl) (by kernel_rfl) (fun _ _ _ h => h) (Or.inl ⟨by rfl, ?_⟩) (by assumption) ?_
    rotate_left
    · intro wq hSw; go_simp; (try with_reducible rfl)
    try simp only [Act.put, List.setIfInBounds_toArray, List.set_cons_zero, List.set_cons_succ]
    refine wpAnyH_ready (rs := [7]) (by kernel_rfl) (by simp) ?_
    refine AllReadyH.cons (o := ⟨some 5, _, _, _, _, _⟩) rfl (fun K hK => ?_) AllReadyH.nil
    have hne6_5 := hS6.2.1.1
    have lo5 := hHeld46.1.size
    obtain ⟨⟨a5_z0, a5_c0, a5_f0⟩, ⟨a5_z1, a5_c1, a5_f1⟩, ⟨a5_z2, a5_c2, a5_f2⟩, ⟨a5_z3, a5_c3, a5_f3⟩, _⟩ := hHeld46.2
    (try simp at lo5); (try simp at hne6_5); (try simp at a5_z0); (try simp at a5_z1); (try simp at a5_z2); (try simp at a5_z3)
    go_simp
    refine hK.out _ _ (by first | exact hHeld46.alloc _ | exact (hHeld46.alloc _).drew) (fun hHeld47 => ?_)
    first | replace hS6 := hS6.alloc2e hHeld47 | replace hS6 := hS6.alloc2 hHeld47
    (try replace hz5 := hz5.alloc2 hHeld47)
    (try replace hzq := hzq.alloc2 hHeld47)
    (try replace hzr := hzr.alloc2 hHeld47)
    first | have hS5 := newK2 hHeld47 | have hS5 := newK2d hHeld47
    clear hK K
    try clear hb
    try simp only [Act.put, List.setIfInBounds_toArray, List.set_cons_zero, List.set_cons_succ]
    generalize hGWA34 : World.alloc wd (.cells #[.bool false, .slice none 0 0] 43) = WA34 at *
    clear hGWA34
    refine wpAnyH_ready (rs := [9]) (by kernel_rfl) (by simp) ?_
    refine AllReadyH.cons (o := ⟨none, _, _, _, _, _⟩) rfl (fun K hK => ?_) AllReadyH.nil
    obtain ⟨⟨s5z0, s5c0, s5f0⟩, ⟨s5z1, s5c1, s5f1⟩, _⟩ := hS5.2
    go_simp
    refine hK.out _ _ (by (repeat (first | (with_reducible exact hHeld47) | (refine Keeps.set ?_ (by simp <;> omega) (by simp <;> omega) _)))) (fun hHeld48 => ?_)
    replace hS6 := hS6.mv2 hHeld48 (by first | omega | (simp <;> omega)) (by simp <;> omega)
    (try replace hz5 := hz5.store2 hHeld48 s5c0 s5c1)
    (try replace hzq := hzq.store2 hHeld48 s5c0 s5c1)
    (try replace hzr := hzr.store2 hHeld48 s5c0 s5c1)
    replace hS5 := hHeld48.add2 s5z0 s5c0 s5f0 s5c1 s5f1
    clear s5z0 s5c0 s5f0 s5z1 s5c1 s5f1
    clear hK K
    try clear hb
    try simp only [Act.put, List.setIfInBounds_toArray, List.set_cons_zero, List.set_cons_succ]
    generalize hGWA35 : World.setCell (World.setCell WA34 ⟨wd.heap.size, 0, none⟩ (.bool bq)) ⟨wd.heap.size, 1, none⟩ (.slice Aq nq cq) = WA35 at *
    clear hGWA35
    refine wpAnyH_ready (rs := [10]) (by kernel_rfl) (by simp) ?_
    refine AllReadyH.cons (o := ⟨none, _, _, _, _, _⟩) rfl (fun K hK => ?_) AllReadyH.nil
    obtain ⟨⟨s6z0, s6c0, s6f0⟩, ⟨s6z1, s6c1, s6f1⟩, _⟩ := hS6.2
    go_simp
    refine hK.out _ _ (by (repeat (first | (with_reducible exact hHeld48) | (refine Keeps.set ?_ (by simp <;> omega) (by simp <;> omega) _)))) (fun hHeld49 => ?_)
    replace hS5 := hS5.mv2 hHeld49 (by first | omega | (simp <;> omega)) (by simp <;> omega)
    (try replace hz5 := hz5.store2 hHeld49 s6c0 s6c1)
    (try replace hzq := hzq.store2 hHeld49 s6c0 s6c1)
    (try replace hzr := hzr.store2 hHeld49 s6c0 s6c1)
    replace hS6 := hHeld49.add2 s6z0 s6c0 s6f0 s6c1 s6f1
    clear s6z0 s6c0 s6f0 s6z1 s6c1 s6f1
    clear hK K
    try clear hb
    try simp only [Act.put, List.setIfInBounds_toArray, List.set_cons_zero, List.set_cons_succ]
    generalize hGWA36 : World.setCell (World.setCell WA35 ⟨wi.heap.size, 0, none⟩ (.bool br)) ⟨wi.heap.size, 1, none⟩ (.slice Ar nr cr) = WA36 at *
    clear hGWA36
    refine wpAnyH_done (by kernel_rfl) ?_ _
    have hHeld := hHeld49
    rotate_left 1
    refine AllReadyH.cons (o := ⟨some 5, _, _, _, _, _⟩) rfl (fun K hK => ?_) ?_
    have hne6_5 := hS6.2.1.1
    have lo5 := hHeld45.1.size
    obtain ⟨⟨a5_z0, a5_c0, a5_f0⟩, ⟨a5_z1, a5_c1, a5_f1⟩, ⟨a5_z2, a5_c2, a5_f2⟩, ⟨a5_z3, a5_c3, a5_f3⟩, _⟩ := hHeld45.2
    (try simp at lo5); (try simp at hne6_5); (try simp at a5_z0); (try simp at a5_z1); (try simp at a5_z2); (try simp at a5_z3)
    go_simp
    refine hK.out _ _ (by first | exact hHeld45.alloc _ | exact (hHeld45.alloc _).drew) (fun hHeld50 => ?_)
    first | replace hS6 := hS6.alloc2e hHeld50 | replace hS6 := hS6.alloc2 hHeld50
    (try replace hz5 := hz5.alloc2 hHeld50)
    (try replace hzq := hzq.alloc2 hHeld50)
    (try replace hzr := hzr.alloc2 hHeld50)
    first | have hS5 := newK2 hHeld50 | have hS5 := newK2d hHeld50
    clear hK K
    try clear hb
    try simp only [Act.put, List.setIfInBounds_toArray, List.set_cons_zero, List.set_cons_succ]
    generalize hGWA37 : World.alloc wp (.cells #[.bool false, .slice none 0 0] 43) = WA37 at *
    clear hGWA37
    refine wpAnyH_ready (rs := [3]) (by kernel_rfl) (by simp) ?_
    refine AllReadyH.cons (o := ⟨some 13, _, _, _, _, _⟩) rfl (fun K hK => ?_) AllReadyH.nil
    go_simp
    (first | ((with_reducible refine (PW.out _).mono ?_); rintro e wp ⟨b5, A5, n5, c5, rfl, hb, hz5⟩) | ((with_reducible refine (DV.out _ _ _ hz5 (by assumption)).mono ?_); rintro e wd ⟨bq, Aq, nq, cq, br, Ar, nr, cr, rfl, hb, hzq, hzr⟩))
    refine hK.out _ _ (hHeld50.next hb) (fun hHeld51 => ?_)
    replace hS6 := hS6.next hb
    replace hS5 := hS5.next hb
    (try replace hz5 := hz5.below hb)
    (try replace hzq := hzq.below hb)
    (try replace hzr := hzr.below hb)
    clear hK K
    try clear hb
    try simp only [Act.put, List.setIfInBounds_toArray, List.set_cons_zero, List.set_cons_succ]
    refine wpAnyH_take (i := 4) (oi := ⟨some 9, _, _, _, _, _⟩) (v := ?_) rfl (by kernel_rfl) (by kernel_rfl) (by kernel_rfl) (fun _ _ _ h => h) (Or.inl ⟨by rfl, ?_⟩) (by assumption) ?_
    rotate_left
    · intro wq hSw; go_simp; (try with_reducible rfl)
    try simp only [Act.put, List.setIfInBounds_toArray, List.set_cons_zero, List.set_cons_succ]
    refine wpAnyH_take (i := 5) (oi := ⟨some 14, _, _, _, _, _⟩) (v := ?_) rfl (by kernel_rfl) (by kernel_rfl) (by kernel_rfl) (fun _ _ _ h => h) (Or.inl ⟨by rfl, ?_⟩) (by assumption) ?_
    rotate_left
    · intro wq hSw; go_simp; (try with_reducible rfl)
    try simp only [Act.put, List.setIfInBounds_toArray, List.set_cons_zero, List.set_cons_succ]
    refine wpAnyH_take (i := 6) (oi := ⟨some 15, _, _, _, _, _⟩) (v := ?_) rfl (by kernel_rfl) (by kernel_rfl) (by kernel_rfl) (fun _ _ _ h => h) (Or.inl ⟨by rfl, ?_⟩) (by assumption) ?_
    rotate_left
    · intro wq hSw; go_simp; (try with_reducible rfl)
    try simp only [Act.put, List.setIfInBounds_toArray, List.set_cons_zero, List.set_cons_succ]
    refine wpAnyH_ready (rs := [9]) (by kernel_rfl) (by simp) ?_
    refine AllReadyH.cons (o := ⟨none, _, _, _, _, _⟩) rfl (fun K hK => ?_) AllReadyH.nil
    obtain ⟨⟨s5z0, s5c0, s5f0⟩, ⟨s5z1, s5c1, s5f1⟩, _⟩ := hS5.2
    go_simp
    refine hK.out _ _ (by (repeat (first | (with_reducible exact hHeld51) | (refine Keeps.set ?_ (by simp <;> omega) (by simp <;> omega) _)))) (fun hHeld52 => ?_)
    replace hS6 := hS6.mv2 hHeld52 (by first | omega | (simp <;> omega)) (by simp <;> omega)
    (try replace hz5 := hz5.store2 hHeld52 s5c0 s5c1)
    (try replace hzq := hzq.store2 hHeld52 s5c0 s5c1)
    (try replace hzr := hzr.store2 hHeld52 s5c0 s5c1)
    replace hS5 := hHeld52.add2 s5z0 s5c0 s5f0 s5c1 s5f1
    clear s5z0 s5c0 s5f0 s5z1 s5c1 s5f1
    clear hK K
    try clear hb
    try simp only [Act.put, List.setIfInBounds_toArray, List.set_cons_zero, List.set_cons_succ]
    generalize hGWA38 : World.setCell (World.setCell wd ⟨wp.heap.size, 0, none⟩ (.bool bq)) ⟨wp.heap.size, 1, none⟩ (.slice Aq nq cq) = WA38 at *
    clear hGWA38
    refine wpAnyH_ready (rs := [10]) (by kernel_rfl) (by simp) ?_
    refine AllReadyH.cons (o := ⟨none, _, _, _, _, _⟩) rfl (fun K hK => ?_) AllReadyH.nil
    obtain ⟨⟨s6z0, s6c0, s6f0⟩, ⟨s6z1, s6c1, s6f1⟩, _⟩ := hS6.2
    go_simp
    refine hK.out _ _ (by (repeat (first | (with_reducible exact hHeld52) | (refine Keeps.set ?_ (by simp <;> omega) (by simp <;> omega) _)))) (fun hHeld53 => ?_)
    replace hS5 := hS5.mv2 hHeld53 (by first | omega | (simp <;> omega)) (by simp <;> omega)
    (try replace hz5 := hz5.store2 hHeld53 s6c0 s6c1)
    (try replace hzq := hzq.store2 hHeld53 s6c0 s6c1)
    (try replace hzr := hzr.store2 hHeld53 s6c0 s6c1)
    replace hS6 := hHeld53.add2 s6z0 s6c0 s6f0 s6c1 s6f1
    clear s6z0 s6c0 s6f0 s6z1 s6c1 s6f1
    clear hK K
    try clear hb
    try simp only [Act.put, List.setIfInBounds_toArray, List.set_cons_zero, List.set_cons_succ]
    generalize hGWA39 : World.setCell (World.setCell WA38 ⟨wi.heap.size, 0, none⟩ (.bool br)) ⟨wi.heap.size, 1, none⟩ (.slice Ar nr cr) = WA39 at *
    clear hGWA39
    refine wpAnyH_done (by kernel_rfl) ?_ _
    have hHeld := hHeld53
    rotate_left 1
    exact AllReadyH.nil
    refine AllReadyH.cons (o := ⟨some 5, _, _, _, _, _⟩) rfl (fun K hK => ?_) ?_
    have hne6_5 := hS6.2.1.1
    have lo5 := hHeld44.1.size
    obtain ⟨⟨a5_z0, a5_c0, a5_f0⟩, ⟨a5_z1, a5_c1, a5_f1⟩, ⟨a5_z2, a5_c2, a5_f2⟩, ⟨a5_z3, a5_c3, a5_f3⟩, _⟩ := hHeld44.2
    (try simp at lo5); (try simp at hne6_5); (try simp at a5_z0); (try simp at a5_z1); (try simp at a5_z2); (try simp at a5_z3)
    go_simp
    refine hK.out _ _ (by first | exact hHeld44.alloc _ | exact (hHeld44.alloc _).drew) (fun hHeld54 => ?_)
    first | replace hS6 := hS6.alloc2e hHeld54 | replace hS6 := hS6.alloc2 hHeld54
    (try replace hz5 := hz5.alloc2 hHeld54)
    (try replace hzq := hzq.alloc2 hHeld54)
    (try replace hzr := hzr.alloc2 hHeld54)
    first | have hS5 := newK2 hHeld54 | have hS5 := newK2d hHeld54
    clear hK K
    try clear hb
    try simp only [Act.put, List.setIfInBounds_toArray, List.set_cons_zero, List.set_cons_succ]
    generalize hGWA40 : World.alloc WA33 (.cells #[.bool false, .slice none 0 0] 43) = WA40 at *
    clear hGWA40
    refine wpAnyH_ready (rs := [2]) (by kernel_rfl) (by simp) ?_
    refine AllReadyH.cons (o := ⟨some 12, _, _, _, _, _⟩) rfl (fun K hK => ?_) AllReadyH.nil
    go_simp
    (first | ((with_reducible refine (PW.out _).mono ?_); rintro e wp ⟨b5, A5, n5, c5, rfl, hb, hz5⟩) | ((with_reducible refine (DV.out _ _ _ hz5 (by assumption)).mono ?_); rintro e wd ⟨bq, Aq, nq, cq, br, Ar, nr, cr, rfl, hb, hzq, hzr⟩))
    refine hK.out _ _ (hHeld54.next hb) (fun hHeld55 => ?_)
    replace hS6 := hS6.next hb
    replace hS5 := hS5.next hb
    (try replace hz5 := hz5.below hb)
    (try replace hzq := hzq.below hb)
    (try replace hzr := hzr.below hb)
    clear hK K
    try clear hb
    try simp only [Act.put, List.setIfInBounds_toArray, List.set_cons_zero, List.set_cons_succ]
    refine wpAnyH_ready (rs := [3]) (by kernel_rfl) (by simp) ?_
    refine AllReadyH.cons (o := ⟨some 13, _, _, _, _, _⟩) rfl (fun K hK => ?_) AllReadyH.nil
    go_simp
    (first | ((with_reducible refine (PW.out _).mono ?_); rintro e wp ⟨b5, A5, n5, c5, rfl, hb, hz5⟩) | ((with_reducible refine (DV.out _ _ _ hz5 (by assumption)).mono ?_); rintro e wd ⟨bq, Aq, nq, cq, br, Ar, nr, cr, rfl, hb, hzq, hzr⟩))
    refine hK.out _ _ (hHeld55.next hb) (fun hHeld56 => ?_)
    replace hS6 := hS6.next hb
    replace hS5 := hS5.next hb
    (try replace hz5 := hz5.below hb)
    (try replace hzq := hzq.below hb)
    (try replace hzr := hzr.below hb)
    clear hK K
    try clear hb
    try simp only [Act.put, List.setIfInBounds_toArray, List.set_cons_zero, List.set_cons_succ]
    refine wpAnyH_take (i := 4) (oi := ⟨some 9, _, _, _, _, _⟩) (v := ?_) rfl (by kernel_rfl) (by kernel_rfl) (by kernel_rfl) (fun _ _ _ h => h) (Or.inl ⟨by rfl, ?_⟩) (by assumption) ?_
    rotate_left
    · intro wq hSw; go_simp; (try with_reducible rfl)
    try simp only [Act.put, List.setIfInBounds_toArray, List.set_cons_zero, List.set_cons_succ]
    refine wpAnyH_take (i := 5) (oi := ⟨some 14, _, _, _, _, _⟩) (v := ?_) rfl (by kernel_rfl) (by kernel_rfl) (by kernel_rfl) (fun _ _ _ h => h) (Or.inl ⟨by rfl, ?_⟩) (by assumption) ?_
    rotate_left
    · intro wq hSw; go_simp; (try with_reducible rfl)
    try simp only [Act.put, List.setIfInBounds_toArray, List.set_cons_zero, List.set_cons_succ]
    refine wpAnyH_take (i := 6) (oi := ⟨some 15, _, _, _, _, _⟩) (v := ?_) rfl (by kernel_rfl) (by kernel_rfl) (by kernel_rfl) (fun _ _ _ h => h) (Or.inl ⟨by rfl, ?_⟩) (by assumption) ?_
    rotate_left
    · intro wq hSw; go_simp; (try with_reducible rfl)
    try simp only [Act.put, List.setIfInBounds_toArray, List.set_cons_zero, List.set_cons_succ]
    refine wpAnyH_ready (rs := [9]) (by kernel_rfl) (by simp) ?_
    refine AllReadyH.cons (o := ⟨none, _, _, _, _, _⟩) rfl (fun K hK => ?_) AllReadyH.nil
    obtain ⟨⟨s5z0, s5c0, s5f0⟩, ⟨s5z1, s5c1, s5f1⟩, _⟩ := hS5.2
    go_simp
    refine hK.out _ _ (by (repeat (first | (with_reducible exact hHeld56) | (refine Keeps.set ?_ (by simp <;> omega) (by simp <;> omega) _)))) (fun hHeld57 => ?_)
    replace hS6 := hS6.mv2 hHeld57 (by first | omega | (simp <;> omega)) (by simp <;> omega)
    (try replace hz5 := hz5.store2 hHeld57 s5c0 s5c1)
    (try replace hzq := hzq.store2 hHeld57 s5c0 s5c1)
    (try replace hzr := hzr.store2 hHeld57 s5c0 s5c1)
    replace hS5 := hHeld57.add2 s5z0 s5c0 s5f0 s5c1 s5f1
    clear s5z0 s5c0 s5f0 s5z1 s5c1 s5f1
    clear hK K
    try clear hb
    try simp only [Act.put, List.setIfInBounds_toArray, List.set_cons_zero, List.set_cons_succ]
    generalize hGWA41 : World.setCell (World.setCell wd ⟨WA33.heap.size, 0, none⟩ (.bool bq)) ⟨WA33.heap.size, 1, none⟩ (.slice Aq nq cq) = WA41 at *
    clear hGWA41
    refine wpAnyH_ready (rs := [10]) (by kernel_rfl) (by simp) ?_
    refine AllReadyH.cons (o := ⟨none, _, _, _, _, _⟩) rfl (fun K hK => ?_) AllReadyH.nil
    obtain ⟨⟨s6z0, s6c0, s6f0⟩, ⟨s6z1, s6c1, s6f1⟩, _⟩ := hS6.2
    go_simp
    refine hK.out _ _ (by (repeat (first | (with_reducible exact hHeld57) | (refine Keeps.set ?_ (by simp <;> omega) (by simp <;> omega) _)))) (fun hHeld58 => ?_)
    replace hS5 := hS5.mv2 hHeld58 (by first | omega | (simp <;> omega)) (by simp <;> omega)
    (try replace hz5 := hz5.store2 hHeld58 s6c0 s6c1)
    (try replace hzq := hzq.store2 hHeld58 s6c0 s6c1)
    (try replace hzr := hzr.store2 hHeld58 s6c0 s6c1)
    replace hS6 := hHeld58.add2 s6z0 s6c0 s6f0 s6c1 s6f1
    clear s6z0 s6c0 s6f0 s6z1 s6c1 s6f1
    clear hK K
    try clear hb
    try simp only [Act.put, List.setIfInBounds_toArray, List.set_cons_zero, List.set_cons_succ]
    generalize hGWA42 : World.setCell (World.setCell WA41 ⟨wi.heap.size, 0, none⟩ (.bool br)) ⟨wi.heap.size, 1, none⟩ (.slice Ar nr cr) = WA42 at *
    clear hGWA42
    refine wpAnyH_done (by kernel_rfl) ?_ _
    have hHeld := hHeld58
    rotate_left 1
    exact AllReadyH.nil
    exact AllReadyH.nil
    all_goals
      go_wp2_with fail
      go_meet
      case rel => exact ⟨⟨_, _, _, _, _, rfl, by omega, ⟨hS5.1, hS5.2.1, hS5.2.2.1, trivial⟩, hzq⟩, ⟨_, _, _, _, _, rfl, by omega, ⟨hS6.1, hS6.2.1, hS6.2.2.1, trivial⟩, hzr⟩, hHeld⟩
  case rest =>
    obtain ⟨⟨Bq, bq, Aq, nq, cq, rfl, lq, hq, zq⟩, ⟨Br, br, Ar, nr, cr, rfl, lr, hr, zr⟩, hk⟩ := hcut
    have hK0 := Lib.hid (show Keeps w [(w.heap.size + 1, 0, .bool false), (w.heap.size + 1, 1, .slice none 0 0), (Bq, 0, .bool bq), (Bq, 1, .slice Aq nq cq)] wc from ⟨hk.1, hk.2.2.2.1, hk.2.2.2.2.1, hq.2.1, hq.2.2.1, trivial⟩)
    obtain ⟨⟨rz0, rc0, rf0⟩, ⟨rz1, rc1, rf1⟩, _⟩ := hr.2
    replace zq := Lib.hid zq
    replace zr := Lib.hid zr
    clear hk hq hr
    go_wp2_with fail
    refine (AR.out _ _ zr.out).mono ?_
    rintro e w2 ⟨bt, At, nt, ct, rfl, hb2, zt⟩
    have hK1 := hK0.out.next hb2
    replace zq := (zq.out.below hb2).below (below_alloc w2 (.cells #[.bool bt, .slice At nt ct] 43))
    replace zt := zt.below (below_alloc w2 (.cells #[.bool bt, .slice At nt ct] 43))
    have hK2 : Keeps w [(w2.heap.size, 0, .bool bt), (w2.heap.size, 1, .slice At nt ct)] (w2.alloc (.cells #[.bool bt, .slice At nt ct] 43)) := ⟨(hK1.alloc _).1, ⟨by simp, by simp [go_sem], by simp [go_sem]⟩, ⟨by simp, by simp [go_sem], by simp [go_sem]⟩, trivial⟩
    have hK3 := hK1.alloc (.cells #[.bool bt, .slice At nt ct] 43)
    have hK : Keeps w [(w.heap.size + 1, 0, .bool false), (w.heap.size + 1, 1, .slice none 0 0), (Bq, 0, .bool bq), (Bq, 1, .slice Aq nq cq), (w2.heap.size, 0, .bool bt), (w2.heap.size, 1, .slice At nt ct)] (w2.alloc (.cells #[.bool bt, .slice At nt ct] 43)) :=
      ⟨hK3.1, hK3.2.1, hK3.2.2.1, hK3.2.2.2.1, hK3.2.2.2.2.1, hK2.2.1, hK2.2.2.1, trivial⟩
    clear hb2 hK1 hK0 zr rz0 rc0 rf0 rz1 rc1 rf1 hK2 hK3
    go_upto_region 3 with (fail)
    generalize hw3 : w2.alloc (.cells #[.bool bt, .slice At nt ct] 43) = w3 at hK zq zt ⊢
    clear hw3
    generalize w2.heap.size = Bt at hK ⊢
    go_cut [8] from 8 to 29 (fun s8 wx => s8 = .bool ev ∧ w3 = wx)
    case first =>
      obtain ⟨⟨mz0, mc0, mf0⟩, ⟨mz1, mc1, mf1⟩, ⟨mz2, mc2, mf2⟩, ⟨mz3, mc3, mf3⟩, _⟩ := hK.2
      obtain ⟨s0, e0, A0, c0, rfl, hc0, hcell⟩ := zq
      simp only [Value.agg.injEq, Array.mk.injEq, List.cons.injEq, Value.slice.injEq, Value.bool.injEq, and_true] at e0
      obtain ⟨rfl, rfl, rfl, rfl⟩ := e0
      have he := hev.out
      clear hK zt hres hev ht
      by_cases g : (sizeL q.natAbs).length = 0
      · have q0 : q.natAbs % 2 = 0 := by have := sizeL_nil (List.eq_nil_of_length_eq_zero g); omega
        rw [q0] at he
        replace he : ev = true := by rw [he]; rfl
        subst he
        rw [g] at mc3
        clear hcell hc0
        go_wp2_with fail
        go_meet
        case rel => exact ⟨rfl, rfl⟩
      · obtain ⟨b0, off, rfl, hbw, hc⟩ := hcell 0 (by omega)
        have hbit : bitI q.natAbs 0 = ((q.natAbs % 2 : Nat) : Int) := by unfold bitI; simp
        rw [hbit] at hc
        have g1 : ((((sizeL q.natAbs).length : Nat) : Int) == 0) = false := beq_eq_false_iff_ne.2 (by omega)
        have g2 : 0 < (sizeL q.natAbs).length := by omega
        have g3 : (0 : Int) < (((sizeL q.natAbs).length : Nat) : Int) := by omega
        have g4 : (((q.natAbs % 2 : Nat) : Int) == 0) = ev := by rw [he, Bool.eq_iff_iff, beq_iff_eq, decide_eq_true_eq]; omega
        clear hcell hc0 hbit he
        generalize (sizeL q.natAbs).length = lq0 at *
        generalize q.natAbs % 2 = d0 at *
        rw [Nat.add_zero] at hc
        go_wp2_with fail
        go_meet
        case rel => exact ⟨rfl, rfl⟩
    case rest =>
      obtain ⟨rfl, rfl⟩ := hcut
      clear hev ht
      by_cases g1 : (m : Int) < t
      · have e1 : decide ((m : Int) < t) = true := decide_eq_true g1
        have er := hres.out
        rw [if_pos (Or.inl g1)] at er
        subst er
        rw [e1] at LS
        clear hres SM e1 g1
        go_wp2_with fail
        refine region_keeps (w0 := w) (L := [(w.heap.size + 1, 0, .bool false), (w.heap.size + 1, 1, .slice none 0 0), (Bq, 0, .bool bq), (Bq, 1, .slice Aq nq cq), (Bt, 0, .bool bt), (Bt, 1, .slice At nt ct)]) (by kernel_rfl) hK (fun hHeld0 => ?_)
        refine wpAnyH_take (i := 0) (oi := ⟨some 30, _, _, _, _, _⟩) (v := ?_) rfl (by kernel_rfl) (by kernel_rfl) (by kernel_rfl) (fun _ _ _ h => h) (Or.inl ⟨by rfl, ?_⟩) (by assumption) ?_
        rotate_left
        · intro wq hSw; go_simp; (try with_reducible rfl)
        try simp only [Act.put, List.setIfInBounds_toArray, List.set_cons_zero, List.set_cons_succ]
        refine wpAnyH_take (i := 2) (oi := ⟨some 32, _, _, _, _, _⟩) (v := ?_) rfl (by kernel_rfl) (by kernel_rfl) (by kernel_rfl) (fun _ _ _ h => h) (Or.inl ⟨by rfl, ?_⟩) (by assumption) ?_
        rotate_left
        · intro wq hSw; obtain ⟨⟨qz0, qc0, qf0⟩, ⟨qz1, qc1, qf1⟩, ⟨qz2, qc2, qf2⟩, ⟨qz3, qc3, qf3⟩, ⟨qz4, qc4, qf4⟩, ⟨qz5, qc5, qf5⟩, _⟩ := hSw.2; go_simp; (try with_reducible rfl)
        try simp only [Act.put, List.setIfInBounds_toArray, List.set_cons_zero, List.set_cons_succ]
        refine wpAnyH_ready (rs := [1]) (by kernel_rfl) (by simp) ?_
        refine AllReadyH.cons (o := ⟨some 31, _, _, _, _, _⟩) rfl (fun K hK => ?_) AllReadyH.nil
        go_simp
        (first | ((with_reducible refine (PW.out _).mono ?_); rintro e wp ⟨b5, A5, n5, c5, rfl, hb, hz5⟩; (first | have zt1 := zt.below (undrew hb) | have zt2 := zt1.below hb); (first | have zq1 := zq.below (undrew hb) | have zq2 := zq1.below hb)) | ((with_reducible refine (LS.out _ _ _ hz5 zt1).mono ?_); rintro e wl ⟨rfl, hb⟩; replace zt1 := zt1.below hb; replace zq1 := zq1.below hb) | ((with_reducible refine (SM.out _ _ _ hz5 zt2).mono ?_); rintro e ws ⟨rfl, hb⟩; replace zq2 := zq2.below hb))
        refine hK.out _ _ (hHeld0.next hb) (fun hHeld1 => ?_)
        clear hK K
        try clear hb
        try simp only [Act.put, List.setIfInBounds_toArray, List.set_cons_zero, List.set_cons_succ]
        refine wpAnyH_ready (rs := [3]) (by kernel_rfl) (by simp) ?_
        refine AllReadyH.cons (o := ⟨some 33, _, _, _, _, _⟩) rfl (fun K hK => ?_) AllReadyH.nil
        go_simp
        (first | ((with_reducible refine (PW.out _).mono ?_); rintro e wp ⟨b5, A5, n5, c5, rfl, hb, hz5⟩; (first | have zt1 := zt.below (undrew hb) | have zt2 := zt1.below hb); (first | have zq1 := zq.below (undrew hb) | have zq2 := zq1.below hb)) | ((with_reducible refine (LS.out _ _ _ hz5 zt1).mono ?_); rintro e wl ⟨rfl, hb⟩; replace zt1 := zt1.below hb; replace zq1 := zq1.below hb) | ((with_reducible refine (SM.out _ _ _ hz5 zt2).mono ?_); rintro e ws ⟨rfl, hb⟩; replace zq2 := zq2.below hb))
        refine hK.out _ _ (hHeld1.next hb) (fun hHeld2 => ?_)
        clear hK K
        try clear hb
        try simp only [Act.put, List.setIfInBounds_toArray, List.set_cons_zero, List.set_cons_succ]
        refine wpAnyH_take (i := 4) (oi := ⟨some 34, _, _, _, _, _⟩) (v := ?_) rfl (by kernel_rfl) (by kernel_rfl) (by kernel_rfl) (fun _ _ _ h => h) (Or.inl ⟨by rfl, ?_⟩) (by assumption) ?_
        rotate_left
        · intro wq hSw; go_simp; (try with_reducible rfl)
        try simp only [Act.put, List.setIfInBounds_toArray, List.set_cons_zero, List.set_cons_succ]
        refine wpAnyH_take (i := 5) (oi := ⟨some 35, _, _, _, _, _⟩) (v := undef) rfl (by kernel_rfl) (by kernel_rfl) (by kernel_rfl) (fun _ _ _ h => h) (Or.inr ⟨by rfl, rfl⟩) (by assumption) ?_
        try simp only [Act.put, List.setIfInBounds_toArray, List.set_cons_zero, List.set_cons_succ]
        refine wpAnyH_take (i := 6) (oi := ⟨some 36, _, _, _, _, _⟩) (v := undef) rfl (by kernel_rfl) (by kernel_rfl) (by kernel_rfl) (fun _ _ _ h => h) (Or.inr ⟨by rfl, rfl⟩) (by assumption) ?_
        try simp only [Act.put, List.setIfInBounds_toArray, List.set_cons_zero, List.set_cons_succ]
        refine wpAnyH_take (i := 7) (oi := ⟨some 37, _, _, _, _, _⟩) (v := undef) rfl (by kernel_rfl) (by kernel_rfl) (by kernel_rfl) (fun _ _ _ h => h) (Or.inr ⟨by rfl, rfl⟩) (by assumption) ?_
        try simp only [Act.put, List.setIfInBounds_toArray, List.set_cons_zero, List.set_cons_succ]
        refine wpAnyH_take (i := 8) (oi := ⟨some 38, _, _, _, _, _⟩) (v := undef) rfl (by kernel_rfl) (by kernel_rfl) (by kernel_rfl) (fun _ _ _ h => h) (Or.inr ⟨by rfl, rfl⟩) (by assumption) ?_
        try simp only [Act.put, List.setIfInBounds_toArray, List.set_cons_zero, List.set_cons_succ]
        refine wpAnyH_take (i := 9) (oi := ⟨some 39, _, _, _, _, _⟩) (v := undef) rfl (by kernel_rfl) (by kernel_rfl) (by kernel_rfl) (fun _ _ _ h => h) (Or.inr ⟨by rfl, rfl⟩) (by assumption) ?_
        try simp only [Act.put, List.setIfInBounds_toArray, List.set_cons_zero, List.set_cons_succ]
        refine wpAnyH_take (i := 10) (oi := ⟨some 40, _, _, _, _, _⟩) (v := undef) rfl (by kernel_rfl) (by kernel_rfl) (by kernel_rfl) (fun _ _ _ h => h) (Or.inr ⟨by rfl, rfl⟩) (by assumption) ?_
        try simp only [Act.put, List.setIfInBounds_toArray, List.set_cons_zero, List.set_cons_succ]
        refine wpAnyH_take (i := 11) (oi := ⟨some 41, _, _, _, _, _⟩) (v := undef) rfl (by kernel_rfl) (by kernel_rfl) (by kernel_rfl) (fun _ _ _ h => h) (Or.inr ⟨by rfl, rfl⟩) (by assumption) ?_
        try simp only [Act.put, List.setIfInBounds_toArray, List.set_cons_zero, List.set_cons_succ]
        refine wpAnyH_take (i := 12) (oi := ⟨some 42, _, _, _, _, _⟩) (v := undef) rfl (by kernel_rfl) (by kernel_rfl) (by kernel_rfl) (fun _ _ _ h => h) (Or.inr ⟨by rfl, rfl⟩) (by assumption) ?_
        try simp only [Act.put, List.setIfInBounds_toArray, List.set_cons_zero, List.set_cons_succ]
        refine wpAnyH_take (i := 13) (oi := ⟨some 43, _, _, _, _, _⟩) (v := ?_) rfl (by kernel_rfl) (by kernel_rfl) (by kernel_rfl) (fun _ _ _ h => h) (Or.inl ⟨by rfl, ?_⟩) (by assumption) ?_
        rotate_left
        · intro wq hSw; go_simp; (try with_reducible rfl)
        try simp only [Act.put, List.setIfInBounds_toArray, List.set_cons_zero, List.set_cons_succ]
        refine wpAnyH_done (by kernel_rfl) ?_ _
        have hHeld := hHeld2
        obtain ⟨⟨kz0, kc0, kf0⟩, ⟨kz1, kc1, kf1⟩, ⟨kz2, kc2, kf2⟩, ⟨kz3, kc3, kf3⟩, ⟨kz4, kc4, kf4⟩, ⟨kz5, kc5, kf5⟩, _⟩ := hHeld.2
        have zq3 := Lib.hid (show NumZ _ _ q from (by first | exact zq2 | exact zq1))
        obtain ⟨⟨mz0, mc0, mf0⟩, ⟨mz1, mc1, mf1⟩, ⟨mz2, mc2, mf2⟩, ⟨mz3, mc3, mf3⟩, _⟩ := hHeld.2
        have hM := hHeld.1
        go_wp2_with fail
        refine region_keepsB (w0 := w) (L := [(Bq, 0, .bool bq), (Bq, 1, .slice Aq nq cq)]) (M := [(w.heap.size + 1, 0, .bool false), (w.heap.size + 1, 1, .slice none 0 0)]) (by kernel_rfl) ⟨hM, ⟨mz2, mc2, mf2⟩, ⟨mz3, mc3, mf3⟩, trivial⟩ ⟨hM, ⟨mz0, mc0, mf0⟩, ⟨mz1, mc1, mf1⟩, trivial⟩ (fun hHeld0 hT0 => ?_)
        refine wpAnyH_take (i := 0) (oi := ⟨some 44, _, _, _, _, _⟩) (v := ?_) rfl (by kernel_rfl) (by kernel_rfl) (by kernel_rfl) (fun _ _ _ h => h) (Or.inl ⟨by rfl, ?_⟩) (by assumption) ?_
        rotate_left
        · intro wq hSw; obtain ⟨⟨qz0, qc0, qf0⟩, ⟨qz1, qc1, qf1⟩, _⟩ := hSw.2; go_simp; (try with_reducible rfl)
        try simp only [Act.put, List.setIfInBounds_toArray, List.set_cons_zero, List.set_cons_succ]
        refine wpAnyH_ready (rs := [1]) (by kernel_rfl) (by simp) ?_
        refine AllReadyH.cons (o := ⟨some 45, _, _, _, _, _⟩) rfl (fun K hK => ?_) AllReadyH.nil
        go_simp
        (first | ((with_reducible refine (I1.out _).mono ?_); rintro e wi ⟨b7, A7, n7, c7, rfl, hb, hz7⟩; have zq4 := zq3.out.below (undrew hb)) | ((with_reducible refine (AQ.out _ _ _ zq4 (by assumption)).mono ?_); rintro e w6 ⟨b6, A6, n6, c6, rfl, hb, hz6⟩))
        refine hK.out _ _ (hHeld0.next hb) (fun hHeld1 => ?_)
        replace hT0 := hT0.next hb
        clear hK K
        try clear hb
        try simp only [Act.put, List.setIfInBounds_toArray, List.set_cons_zero, List.set_cons_succ]
        refine wpAnyH_ready (rs := [2]) (by kernel_rfl) (by simp) ?_
        refine AllReadyH.cons (o := ⟨some 46, _, _, _, _, _⟩) rfl (fun K hK => ?_) AllReadyH.nil
        go_simp
        (first | ((with_reducible refine (I1.out _).mono ?_); rintro e wi ⟨b7, A7, n7, c7, rfl, hb, hz7⟩; have zq4 := zq3.out.below (undrew hb)) | ((with_reducible refine (AQ.out _ _ _ zq4 (by assumption)).mono ?_); rintro e w6 ⟨b6, A6, n6, c6, rfl, hb, hz6⟩))
        refine hK.out _ _ (hHeld1.next hb) (fun hHeld2 => ?_)
        replace hT0 := hT0.next hb
        clear hK K
        try clear hb
        try simp only [Act.put, List.setIfInBounds_toArray, List.set_cons_zero, List.set_cons_succ]
        refine wpAnyH_ready (rs := [3]) (by kernel_rfl) (by simp) ?_
        refine AllReadyH.cons (o := ⟨none, _, _, _, _, _⟩) rfl (fun K hK => ?_) AllReadyH.nil
        obtain ⟨⟨t0z0, t0c0, t0f0⟩, ⟨t0z1, t0c1, t0f1⟩, _⟩ := hT0.2; (try simp at t0z0); (try simp at t0c0); (try simp at t0f0); (try simp at t0z1); (try simp at t0c1); (try simp at t0f1)
        go_simp
        refine hK.out _ _ (by first | exact hHeld2.alloc _ | (repeat (first | (with_reducible exact hHeld2) | (with_reducible exact (Keeps.undrewR hHeld2)) | (refine Keeps.set ?_ (by simp <;> omega) (by simp <;> omega) _) | (with_reducible refine Keeps.drew ?_)))) (fun hHeld3 => ?_)
        clear hK K
        try clear hb
        try simp only [Act.put, List.setIfInBounds_toArray, List.set_cons_zero, List.set_cons_succ]
        refine wpAnyH_done (by kernel_rfl) ?_ _
        have hHeld := hHeld3
        obtain ⟨⟨kz0, kc0, kf0⟩, ⟨kz1, kc1, kf1⟩, _⟩ := hHeld.2
        obtain ⟨d0, d1⟩ := set2 (W := w6) (B := w.heap.size + 1) (u0 := .bool b6) (u1 := .slice A6 n6 c6) t0c0 t0c1; go_wp2_with fail; refine bodyPost_ret (v := .agg #[.bool b6, .slice A6 n6 c6]) (by simp [results, Try.results13, go_sem, d0, d1]) rfl ?_; exact ⟨b6, A6, n6, c6, rfl, hHeld.1, hz6.set2 t0c0 t0c1 _ _⟩
      · have e1 : decide ((m : Int) < t) = false := decide_eq_false g1
        rw [e1] at LS
        by_cases g2 : (m : Int) = t
        · have e2 : decide ((m : Int) = t) = true := decide_eq_true g2
          rw [e2] at SM
          cases ev
          · have er := hres.out
            rw [if_pos (Or.inr ⟨g2, rfl⟩)] at er
            subst er
            clear hres e1 e2 g1 g2
            go_wp2_with fail
            refine region_keeps (w0 := w) (L := [(w.heap.size + 1, 0, .bool false), (w.heap.size + 1, 1, .slice none 0 0), (Bq, 0, .bool bq), (Bq, 1, .slice Aq nq cq), (Bt, 0, .bool bt), (Bt, 1, .slice At nt ct)]) (by kernel_rfl) hK (fun hHeld0 => ?_)
            refine wpAnyH_take (i := 0) (oi := ⟨some 30, _, _, _, _, _⟩) (v := ?_) rfl (by kernel_rfl) (by kernel_rfl) (by kernel_rfl) (fun _ _ _ h => h) (Or.inl ⟨by rfl, ?_⟩) (by assumption) ?_
            rotate_left
            · intro wq hSw; go_simp; (try with_reducible rfl)
            try simp only [Act.put, List.setIfInBounds_toArray, List.set_cons_zero, List.set_cons_succ]
            refine wpAnyH_take (i := 2) (oi := ⟨some 32, _, _, _, _, _⟩) (v := ?_) rfl (by kernel_rfl) (by kernel_rfl) (by kernel_rfl) (fun _ _ _ h => h) (Or.inl ⟨by rfl, ?_⟩) (by assumption) ?_
            rotate_left
            · intro wq hSw; obtain ⟨⟨qz0, qc0, qf0⟩, ⟨qz1, qc1, qf1⟩, ⟨qz2, qc2, qf2⟩, ⟨qz3, qc3, qf3⟩, ⟨qz4, qc4, qf4⟩, ⟨qz5, qc5, qf5⟩, _⟩ := hSw.2; go_simp; (try with_reducible rfl)
            try simp only [Act.put, List.setIfInBounds_toArray, List.set_cons_zero, List.set_cons_succ]
            refine wpAnyH_ready (rs := [1]) (by kernel_rfl) (by simp) ?_
            refine AllReadyH.cons (o := ⟨some 31, _, _, _, _, _⟩) rfl (fun K hK => ?_) AllReadyH.nil
            go_simp
            (first | ((with_reducible refine (PW.out _).mono ?_); rintro e wp ⟨b5, A5, n5, c5, rfl, hb, hz5⟩; (first | have zt1 := zt.below (undrew hb) | have zt2 := zt1.below hb); (first | have zq1 := zq.below (undrew hb) | have zq2 := zq1.below hb)) | ((with_reducible refine (LS.out _ _ _ hz5 zt1).mono ?_); rintro e wl ⟨rfl, hb⟩; replace zt1 := zt1.below hb; replace zq1 := zq1.below hb) | ((with_reducible refine (SM.out _ _ _ hz5 zt2).mono ?_); rintro e ws ⟨rfl, hb⟩; replace zq2 := zq2.below hb))
            refine hK.out _ _ (hHeld0.next hb) (fun hHeld1 => ?_)
            clear hK K
            try clear hb
            try simp only [Act.put, List.setIfInBounds_toArray, List.set_cons_zero, List.set_cons_succ]
            refine wpAnyH_ready (rs := [3]) (by kernel_rfl) (by simp) ?_
            refine AllReadyH.cons (o := ⟨some 33, _, _, _, _, _⟩) rfl (fun K hK => ?_) AllReadyH.nil
            go_simp
            (first | ((with_reducible refine (PW.out _).mono ?_); rintro e wp ⟨b5, A5, n5, c5, rfl, hb, hz5⟩; (first | have zt1 := zt.below (undrew hb) | have zt2 := zt1.below hb); (first | have zq1 := zq.below (undrew hb) | have zq2 := zq1.below hb)) | ((with_reducible refine (LS.out _ _ _ hz5 zt1).mono ?_); rintro e wl ⟨rfl, hb⟩; replace zt1 := zt1.below hb; replace zq1 := zq1.below hb) | ((with_reducible refine (SM.out _ _ _ hz5 zt2).mono ?_); rintro e ws ⟨rfl, hb⟩; replace zq2 := zq2.below hb))
            refine hK.out _ _ (hHeld1.next hb) (fun hHeld2 => ?_)
            clear hK K
            try clear hb
            try simp only [Act.put, List.setIfInBounds_toArray, List.set_cons_zero, List.set_cons_succ]
            refine wpAnyH_take (i := 4) (oi := ⟨some 34, _, _, _, _, _⟩) (v := ?_) rfl (by kernel_rfl) (by kernel_rfl) (by kernel_rfl) (fun _ _ _ h => h) (Or.inl ⟨by rfl, ?_⟩) (by assumption) ?_
            rotate_left
            · intro wq hSw; go_simp; (try with_reducible rfl)
            try simp only [Act.put, List.setIfInBounds_toArray, List.set_cons_zero, List.set_cons_succ]
            refine wpAnyH_take (i := 5) (oi := ⟨some 35, _, _, _, _, _⟩) (v := ?_) rfl (by kernel_rfl) (by kernel_rfl) (by kernel_rfl) (fun _ _ _ h => h) (Or.inl ⟨by rfl, ?_⟩) (by assumption) ?_
            rotate_left
            · intro wq hSw; go_simp; (try with_reducible rfl)
            try simp only [Act.put, List.setIfInBounds_toArray, List.set_cons_zero, List.set_cons_succ]
            refine wpAnyH_take (i := 7) (oi := ⟨some 37, _, _, _, _, _⟩) (v := ?_) rfl (by kernel_rfl) (by kernel_rfl) (by kernel_rfl) (fun _ _ _ h => h) (Or.inl ⟨by rfl, ?_⟩) (by assumption) ?_
            rotate_left
            · intro wq hSw; obtain ⟨⟨qz0, qc0, qf0⟩, ⟨qz1, qc1, qf1⟩, ⟨qz2, qc2, qf2⟩, ⟨qz3, qc3, qf3⟩, ⟨qz4, qc4, qf4⟩, ⟨qz5, qc5, qf5⟩, _⟩ := hSw.2; go_simp; (try with_reducible rfl)
            try simp only [Act.put, List.setIfInBounds_toArray, List.set_cons_zero, List.set_cons_succ]
            refine wpAnyH_ready (rs := [6]) (by kernel_rfl) (by simp) ?_
            refine AllReadyH.cons (o := ⟨some 36, _, _, _, _, _⟩) rfl (fun K hK => ?_) AllReadyH.nil
            go_simp
            (first | ((with_reducible refine (PW.out _).mono ?_); rintro e wp ⟨b5, A5, n5, c5, rfl, hb, hz5⟩; (first | have zt1 := zt.below (undrew hb) | have zt2 := zt1.below hb); (first | have zq1 := zq.below (undrew hb) | have zq2 := zq1.below hb)) | ((with_reducible refine (LS.out _ _ _ hz5 zt1).mono ?_); rintro e wl ⟨rfl, hb⟩; replace zt1 := zt1.below hb; replace zq1 := zq1.below hb) | ((with_reducible refine (SM.out _ _ _ hz5 zt2).mono ?_); rintro e ws ⟨rfl, hb⟩; replace zq2 := zq2.below hb))
            refine hK.out _ _ (hHeld2.next hb) (fun hHeld3 => ?_)
            clear hK K
            try clear hb
            try simp only [Act.put, List.setIfInBounds_toArray, List.set_cons_zero, List.set_cons_succ]
            refine wpAnyH_ready (rs := [8]) (by kernel_rfl) (by simp) ?_
            refine AllReadyH.cons (o := ⟨some 38, _, _, _, _, _⟩) rfl (fun K hK => ?_) AllReadyH.nil
            go_simp
            (first | ((with_reducible refine (PW.out _).mono ?_); rintro e wp ⟨b5, A5, n5, c5, rfl, hb, hz5⟩; (first | have zt1 := zt.below (undrew hb) | have zt2 := zt1.below hb); (first | have zq1 := zq.below (undrew hb) | have zq2 := zq1.below hb)) | ((with_reducible refine (LS.out _ _ _ hz5 zt1).mono ?_); rintro e wl ⟨rfl, hb⟩; replace zt1 := zt1.below hb; replace zq1 := zq1.below hb) | ((with_reducible refine (SM.out _ _ _ hz5 zt2).mono ?_); rintro e ws ⟨rfl, hb⟩; replace zq2 := zq2.below hb))
            refine hK.out _ _ (hHeld3.next hb) (fun hHeld4 => ?_)
            clear hK K
            try clear hb
            try simp only [Act.put, List.setIfInBounds_toArray, List.set_cons_zero, List.set_cons_succ]
            refine wpAnyH_take (i := 9) (oi := ⟨some 39, _, _, _, _, _⟩) (v := ?_) rfl (by kernel_rfl) (by kernel_rfl) (by kernel_rfl) (fun _ _ _ h => h) (Or.inl ⟨by rfl, ?_⟩) (by assumption) ?_
            rotate_left
            · intro wq hSw; go_simp; (try with_reducible rfl)
            try simp only [Act.put, List.setIfInBounds_toArray, List.set_cons_zero, List.set_cons_succ]
            refine wpAnyH_take (i := 10) (oi := ⟨some 40, _, _, _, _, _⟩) (v := ?_) rfl (by kernel_rfl) (by kernel_rfl) (by kernel_rfl) (fun _ _ _ h => h) (Or.inl ⟨by rfl, ?_⟩) (by assumption) ?_
            rotate_left
            · intro wq hSw; go_simp; (try with_reducible rfl)
            try simp only [Act.put, List.setIfInBounds_toArray, List.set_cons_zero, List.set_cons_succ]
            refine wpAnyH_take (i := 11) (oi := ⟨some 41, _, _, _, _, _⟩) (v := ?_) rfl (by kernel_rfl) (by kernel_rfl) (by kernel_rfl) (fun _ _ _ h => h) (Or.inl ⟨by rfl, ?_⟩) (by assumption) ?_
            rotate_left
            · intro wq hSw; go_simp; (try with_reducible rfl)
            try simp only [Act.put, List.setIfInBounds_toArray, List.set_cons_zero, List.set_cons_succ]
            refine wpAnyH_take (i := 12) (oi := ⟨some 42, _, _, _, _, _⟩) (v := ?_) rfl (by kernel_rfl) (by kernel_rfl) (by kernel_rfl) (fun _ _ _ h => h) (Or.inl ⟨by rfl, ?_⟩) (by assumption) ?_
            rotate_left
            · intro wq hSw; go_simp; (try with_reducible rfl)
            try simp only [Act.put, List.setIfInBounds_toArray, List.set_cons_zero, List.set_cons_succ]
            refine wpAnyH_take (i := 13) (oi := ⟨some 43, _, _, _, _, _⟩) (v := ?_) rfl (by kernel_rfl) (by kernel_rfl) (by kernel_rfl) (fun _ _ _ h => h) (Or.inl ⟨by rfl, ?_⟩) (by assumption) ?_
            rotate_left
            · intro wq hSw; go_simp; (try with_reducible rfl)
            try simp only [Act.put, List.setIfInBounds_toArray, List.set_cons_zero, List.set_cons_succ]
            refine wpAnyH_done (by kernel_rfl) ?_ _
            have hHeld := hHeld4
            obtain ⟨⟨kz0, kc0, kf0⟩, ⟨kz1, kc1, kf1⟩, ⟨kz2, kc2, kf2⟩, ⟨kz3, kc3, kf3⟩, ⟨kz4, kc4, kf4⟩, ⟨kz5, kc5, kf5⟩, _⟩ := hHeld.2
            have zq3 := Lib.hid (show NumZ _ _ q from (by first | exact zq2 | exact zq1))
            obtain ⟨⟨mz0, mc0, mf0⟩, ⟨mz1, mc1, mf1⟩, ⟨mz2, mc2, mf2⟩, ⟨mz3, mc3, mf3⟩, _⟩ := hHeld.2
            have hM := hHeld.1
            go_wp2_with fail
            refine region_keepsB (w0 := w) (L := [(Bq, 0, .bool bq), (Bq, 1, .slice Aq nq cq)]) (M := [(w.heap.size + 1, 0, .bool false), (w.heap.size + 1, 1, .slice none 0 0)]) (by kernel_rfl) ⟨hM, ⟨mz2, mc2, mf2⟩, ⟨mz3, mc3, mf3⟩, trivial⟩ ⟨hM, ⟨mz0, mc0, mf0⟩, ⟨mz1, mc1, mf1⟩, trivial⟩ (fun hHeld0 hT0 => ?_)
            refine wpAnyH_take (i := 0) (oi := ⟨some 44, _, _, _, _, _⟩) (v := ?_) rfl (by kernel_rfl) (by kernel_rfl) (by kernel_rfl) (fun _ _ _ h => h) (Or.inl ⟨by rfl, ?_⟩) (by assumption) ?_
            rotate_left
            · intro wq hSw; obtain ⟨⟨qz0, qc0, qf0⟩, ⟨qz1, qc1, qf1⟩, _⟩ := hSw.2; go_simp; (try with_reducible rfl)
            try simp only [Act.put, List.setIfInBounds_toArray, List.set_cons_zero, List.set_cons_succ]
            refine wpAnyH_ready (rs := [1]) (by kernel_rfl) (by simp) ?_
            refine AllReadyH.cons (o := ⟨some 45, _, _, _, _, _⟩) rfl (fun K hK => ?_) AllReadyH.nil
            go_simp
            (first | ((with_reducible refine (I1.out _).mono ?_); rintro e wi ⟨b7, A7, n7, c7, rfl, hb, hz7⟩; have zq4 := zq3.out.below (undrew hb)) | ((with_reducible refine (AQ.out _ _ _ zq4 (by assumption)).mono ?_); rintro e w6 ⟨b6, A6, n6, c6, rfl, hb, hz6⟩))
            refine hK.out _ _ (hHeld0.next hb) (fun hHeld1 => ?_)
            replace hT0 := hT0.next hb
            clear hK K
            try clear hb
            try simp only [Act.put, List.setIfInBounds_toArray, List.set_cons_zero, List.set_cons_succ]
            refine wpAnyH_ready (rs := [2]) (by kernel_rfl) (by simp) ?_
            refine AllReadyH.cons (o := ⟨some 46, _, _, _, _, _⟩) rfl (fun K hK => ?_) AllReadyH.nil
            go_simp
            (first | ((with_reducible refine (I1.out _).mono ?_); rintro e wi ⟨b7, A7, n7, c7, rfl, hb, hz7⟩; have zq4 := zq3.out.below (undrew hb)) | ((with_reducible refine (AQ.out _ _ _ zq4 (by assumption)).mono ?_); rintro e w6 ⟨b6, A6, n6, c6, rfl, hb, hz6⟩))
            refine hK.out _ _ (hHeld1.next hb) (fun hHeld2 => ?_)
            replace hT0 := hT0.next hb
            clear hK K
            try clear hb
            try simp only [Act.put, List.setIfInBounds_toArray, List.set_cons_zero, List.set_cons_succ]
            refine wpAnyH_ready (rs := [3]) (by kernel_rfl) (by simp) ?_
            refine AllReadyH.cons (o := ⟨none, _, _, _, _, _⟩) rfl (fun K hK => ?_) AllReadyH.nil
            obtain ⟨⟨t0z0, t0c0, t0f0⟩, ⟨t0z1, t0c1, t0f1⟩, _⟩ := hT0.2; (try simp at t0z0); (try simp at t0c0); (try simp at t0f0); (try simp at t0z1); (try simp at t0c1); (try simp at t0f1)
            go_simp
            refine hK.out _ _ (by first | exact hHeld2.alloc _ | (repeat (first | (with_reducible exact hHeld2) | (with_reducible exact (Keeps.undrewR hHeld2)) | (refine Keeps.set ?_ (by simp <;> omega) (by simp <;> omega) _) | (with_reducible refine Keeps.drew ?_)))) (fun hHeld3 => ?_)
            clear hK K
            try clear hb
            try simp only [Act.put, List.setIfInBounds_toArray, List.set_cons_zero, List.set_cons_succ]
            refine wpAnyH_done (by kernel_rfl) ?_ _
            have hHeld := hHeld3
            obtain ⟨⟨kz0, kc0, kf0⟩, ⟨kz1, kc1, kf1⟩, _⟩ := hHeld.2
            obtain ⟨d0, d1⟩ := set2 (W := w6) (B := w.heap.size + 1) (u0 := .bool b6) (u1 := .slice A6 n6 c6) t0c0 t0c1; go_wp2_with fail; refine bodyPost_ret (v := .agg #[.bool b6, .slice A6 n6 c6]) (by simp [results, Try.results13, go_sem, d0, d1]) rfl ?_; exact ⟨b6, A6, n6, c6, rfl, hHeld.1, hz6.set2 t0c0 t0c1 _ _⟩
          · have er := hres.out
            rw [if_neg (fun hh => hh.elim g1 (fun h => absurd h.2 (by decide)))] at er
            rw [← er] at zq
            clear hres e1 e2 g1 g2
            go_wp2_with fail
            refine region_keeps (w0 := w) (L := [(w.heap.size + 1, 0, .bool false), (w.heap.size + 1, 1, .slice none 0 0), (Bq, 0, .bool bq), (Bq, 1, .slice Aq nq cq), (Bt, 0, .bool bt), (Bt, 1, .slice At nt ct)]) (by kernel_rfl) hK (fun hHeld0 => ?_)
            refine wpAnyH_take (i := 0) (oi := ⟨some 30, _, _, _, _, _⟩) (v := ?_) rfl (by kernel_rfl) (by kernel_rfl) (by kernel_rfl) (fun _ _ _ h => h) (Or.inl ⟨by rfl, ?_⟩) (by assumption) ?_
            rotate_left
            · intro wq hSw; go_simp; (try with_reducible rfl)
            try simp only [Act.put, List.setIfInBounds_toArray, List.set_cons_zero, List.set_cons_succ]
            refine wpAnyH_take (i := 2) (oi := ⟨some 32, _, _, _, _, _⟩) (v := ?_) rfl (by kernel_rfl) (by kernel_rfl) (by kernel_rfl) (fun _ _ _ h => h) (Or.inl ⟨by rfl, ?_⟩) (by assumption) ?_
            rotate_left
            · intro wq hSw; obtain ⟨⟨qz0, qc0, qf0⟩, ⟨qz1, qc1, qf1⟩, ⟨qz2, qc2, qf2⟩, ⟨qz3, qc3, qf3⟩, ⟨qz4, qc4, qf4⟩, ⟨qz5, qc5, qf5⟩, _⟩ := hSw.2; go_simp; (try with_reducible rfl)
            try simp only [Act.put, List.setIfInBounds_toArray, List.set_cons_zero, List.set_cons_succ]
            refine wpAnyH_ready (rs := [1]) (by kernel_rfl) (by simp) ?_
            refine AllReadyH.cons (o := ⟨some 31, _, _, _, _, _⟩) rfl (fun K hK => ?_) AllReadyH.nil
            go_simp
            (first | ((with_reducible refine (PW.out _).mono ?_); rintro e wp ⟨b5, A5, n5, c5, rfl, hb, hz5⟩; (first | have zt1 := zt.below (undrew hb) | have zt2 := zt1.below hb); (first | have zq1 := zq.below (undrew hb) | have zq2 := zq1.below hb)) | ((with_reducible refine (LS.out _ _ _ hz5 zt1).mono ?_); rintro e wl ⟨rfl, hb⟩; replace zt1 := zt1.below hb; replace zq1 := zq1.below hb) | ((with_reducible refine (SM.out _ _ _ hz5 zt2).mono ?_); rintro e ws ⟨rfl, hb⟩; replace zq2 := zq2.below hb))
            refine hK.out _ _ (hHeld0.next hb) (fun hHeld1 => ?_)
            clear hK K
            try clear hb
            try simp only [Act.put, List.setIfInBounds_toArray, List.set_cons_zero, List.set_cons_succ]
            refine wpAnyH_ready (rs := [3]) (by kernel_rfl) (by simp) ?_
            refine AllReadyH.cons (o := ⟨some 33, _, _, _, _, _⟩) rfl (fun K hK => ?_) AllReadyH.nil
            go_simp
            (first | ((with_reducible refine (PW.out _).mono ?_); rintro e wp ⟨b5, A5, n5, c5, rfl, hb, hz5⟩; (first | have zt1 := zt.below (undrew hb) | have zt2 := zt1.below hb); (first | have zq1 := zq.below (undrew hb) | have zq2 := zq1.below hb)) | ((with_reducible refine (LS.out _ _ _ hz5 zt1).mono ?_); rintro e wl ⟨rfl, hb⟩; replace zt1 := zt1.below hb; replace zq1 := zq1.below hb) | ((with_reducible refine (SM.out _ _ _ hz5 zt2).mono ?_); rintro e ws ⟨rfl, hb⟩; replace zq2 := zq2.below hb))
            refine hK.out _ _ (hHeld1.next hb) (fun hHeld2 => ?_)
            clear hK K
            try clear hb
            try simp only [Act.put, List.setIfInBounds_toArray, List.set_cons_zero, List.set_cons_succ]
            refine wpAnyH_take (i := 4) (oi := ⟨some 34, _, _, _, _, _⟩) (v := ?_) rfl (by kernel_rfl) (by kernel_rfl) (by kernel_rfl) (fun _ _ _ h => h) (Or.inl ⟨by rfl, ?_⟩) (by assumption) ?_
            rotate_left
            · intro wq hSw; go_simp; (try with_reducible rfl)
            try simp only [Act.put, List.setIfInBounds_toArray, List.set_cons_zero, List.set_cons_succ]
            refine wpAnyH_take (i := 5) (oi := ⟨some 35, _, _, _, _, _⟩) (v := ?_) rfl (by kernel_rfl) (by kernel_rfl) (by kernel_rfl) (fun _ _ _ h => h) (Or.inl ⟨by rfl, ?_⟩) (by assumption) ?_
            rotate_left
            · intro wq hSw; go_simp; (try with_reducible rfl)
            try simp only [Act.put, List.setIfInBounds_toArray, List.set_cons_zero, List.set_cons_succ]
            refine wpAnyH_take (i := 7) (oi := ⟨some 37, _, _, _, _, _⟩) (v := ?_) rfl (by kernel_rfl) (by kernel_rfl) (by kernel_rfl) (fun _ _ _ h => h) (Or.inl ⟨by rfl, ?_⟩) (by assumption) ?_
            rotate_left
            · intro wq hSw; obtain ⟨⟨qz0, qc0, qf0⟩, ⟨qz1, qc1, qf1⟩, ⟨qz2, qc2, qf2⟩, ⟨qz3, qc3, qf3⟩, ⟨qz4, qc4, qf4⟩, ⟨qz5, qc5, qf5⟩, _⟩ := hSw.2; go_simp; (try with_reducible rfl)
            try simp only [Act.put, List.setIfInBounds_toArray, List.set_cons_zero, List.set_cons_succ]
            refine wpAnyH_ready (rs := [6]) (by kernel_rfl) (by simp) ?_
            refine AllReadyH.cons (o := ⟨some 36, _, _, _, _, _⟩) rfl (fun K hK => ?_) AllReadyH.nil
            go_simp
            (first | ((with_reducible refine (PW.out _).mono ?_); rintro e wp ⟨b5, A5, n5, c5, rfl, hb, hz5⟩; (first | have zt1 := zt.below (undrew hb) | have zt2 := zt1.below hb); (first | have zq1 := zq.below (undrew hb) | have zq2 := zq1.below hb)) | ((with_reducible refine (LS.out _ _ _ hz5 zt1).mono ?_); rintro e wl ⟨rfl, hb⟩; replace zt1 := zt1.below hb; replace zq1 := zq1.below hb) | ((with_reducible refine (SM.out _ _ _ hz5 zt2).mono ?_); rintro e ws ⟨rfl, hb⟩; replace zq2 := zq2.below hb))
            refine hK.out _ _ (hHeld2.next hb) (fun hHeld3 => ?_)
            clear hK K
            try clear hb
            try simp only [Act.put, List.setIfInBounds_toArray, List.set_cons_zero, List.set_cons_succ]
            refine wpAnyH_ready (rs := [8]) (by kernel_rfl) (by simp) ?_
            refine AllReadyH.cons (o := ⟨some 38, _, _, _, _, _⟩) rfl (fun K hK => ?_) AllReadyH.nil
            go_simp
            (first | ((with_reducible refine (PW.out _).mono ?_); rintro e wp ⟨b5, A5, n5, c5, rfl, hb, hz5⟩; (first | have zt1 := zt.below (undrew hb) | have zt2 := zt1.below hb); (first | have zq1 := zq.below (undrew hb) | have zq2 := zq1.below hb)) | ((with_reducible refine (LS.out _ _ _ hz5 zt1).mono ?_); rintro e wl ⟨rfl, hb⟩; replace zt1 := zt1.below hb; replace zq1 := zq1.below hb) | ((with_reducible refine (SM.out _ _ _ hz5 zt2).mono ?_); rintro e ws ⟨rfl, hb⟩; replace zq2 := zq2.below hb))
            refine hK.out _ _ (hHeld3.next hb) (fun hHeld4 => ?_)
            clear hK K
            try clear hb
            try simp only [Act.put, List.setIfInBounds_toArray, List.set_cons_zero, List.set_cons_succ]
            refine wpAnyH_take (i := 9) (oi := ⟨some 39, _, _, _, _, _⟩) (v := ?_) rfl (by kernel_rfl) (by kernel_rfl) (by kernel_rfl) (fun _ _ _ h => h) (Or.inl ⟨by rfl, ?_⟩) (by assumption) ?_
            rotate_left
            · intro wq hSw; go_simp; (try with_reducible rfl)
            try simp only [Act.put, List.setIfInBounds_toArray, List.set_cons_zero, List.set_cons_succ]
            refine wpAnyH_take (i := 10) (oi := ⟨some 40, _, _, _, _, _⟩) (v := ?_) rfl (by kernel_rfl) (by kernel_rfl) (by kernel_rfl) (fun _ _ _ h => h) (Or.inl ⟨by rfl, ?_⟩) (by assumption) ?_
            rotate_left
            · intro wq hSw; go_simp; (try with_reducible rfl)
            try simp only [Act.put, List.setIfInBounds_toArray, List.set_cons_zero, List.set_cons_succ]
            refine wpAnyH_take (i := 11) (oi := ⟨some 41, _, _, _, _, _⟩) (v := ?_) rfl (by kernel_rfl) (by kernel_rfl) (by kernel_rfl) (fun _ _ _ h => h) (Or.inl ⟨by rfl, ?_⟩) (by assumption) ?_
            rotate_left
            · intro wq hSw; go_simp; (try with_reducible rfl)
            try simp only [Act.put, List.setIfInBounds_toArray, List.set_cons_zero, List.set_cons_succ]
            refine wpAnyH_take (i := 12) (oi := ⟨some 42, _, _, _, _, _⟩) (v := ?_) rfl (by kernel_rfl) (by kernel_rfl) (by kernel_rfl) (fun _ _ _ h => h) (Or.inl ⟨by rfl, ?_⟩) (by assumption) ?_
            rotate_left
            · intro wq hSw; go_simp; (try with_reducible rfl)
            try simp only [Act.put, List.setIfInBounds_toArray, List.set_cons_zero, List.set_cons_succ]
            refine wpAnyH_take (i := 13) (oi := ⟨some 43, _, _, _, _, _⟩) (v := ?_) rfl (by kernel_rfl) (by kernel_rfl) (by kernel_rfl) (fun _ _ _ h => h) (Or.inl ⟨by rfl, ?_⟩) (by assumption) ?_
            rotate_left
            · intro wq hSw; go_simp; (try with_reducible rfl)
            try simp only [Act.put, List.setIfInBounds_toArray, List.set_cons_zero, List.set_cons_succ]
            refine wpAnyH_done (by kernel_rfl) ?_ _
            have hHeld := hHeld4
            obtain ⟨⟨kz0, kc0, kf0⟩, ⟨kz1, kc1, kf1⟩, ⟨kz2, kc2, kf2⟩, ⟨kz3, kc3, kf3⟩, ⟨kz4, kc4, kf4⟩, ⟨kz5, kc5, kf5⟩, _⟩ := hHeld.2
            obtain ⟨⟨mz0, mc0, mf0⟩, ⟨mz1, mc1, mf1⟩, ⟨mz2, mc2, mf2⟩, ⟨mz3, mc3, mf3⟩, _⟩ := hHeld.2
            have zq3 : NumZ _ (.agg #[.bool bq, .slice Aq nq cq]) res := (by first | exact zq2 | exact zq1)
            have hM := hHeld.1
            go_wp2_with fail
            obtain ⟨d0, d1⟩ := set2 (B := w.heap.size + 1) (u0 := .bool bq) (u1 := .slice Aq nq cq) mc0 mc1
            refine bodyPost_ret (v := .agg #[.bool bq, .slice Aq nq cq]) (by simp [results, Try.results13, go_sem, d0, d1]) rfl ?_
            exact ⟨bq, Aq, nq, cq, rfl, (hM.setCell (p := ⟨w.heap.size + 1, 0, none⟩) (by simp) _).setCell (p := ⟨w.heap.size + 1, 1, none⟩) (by simp) _, zq3.set2 mc0 mc1 _ _⟩
        · have e2 : decide ((m : Int) = t) = false := decide_eq_false g2
          rw [e2] at SM
          have er := hres.out
          rw [if_neg (fun hh => hh.elim g1 (fun h => g2 h.1))] at er
          rw [← er] at zq
          clear hres e1 e2 g1 g2
          go_wp2_with fail
          refine region_keeps (w0 := w) (L := [(w.heap.size + 1, 0, .bool false), (w.heap.size + 1, 1, .slice none 0 0), (Bq, 0, .bool bq), (Bq, 1, .slice Aq nq cq), (Bt, 0, .bool bt), (Bt, 1, .slice At nt ct)]) (by kernel_rfl) hK (fun hHeld0 => ?_)
          refine wpAnyH_take (i := 0) (oi := ⟨some 30, _, _, _, _, _⟩) (v := ?_) rfl (by kernel_rfl) (by kernel_rfl) (by kernel_rfl) (fun _ _ _ h => h) (Or.inl ⟨by rfl, ?_⟩) (by assumption) ?_
          rotate_left
          · intro wq hSw; go_simp; (try with_reducible rfl)
          try simp only [Act.put, List.setIfInBounds_toArray, List.set_cons_zero, List.set_cons_succ]
          refine wpAnyH_take (i := 2) (oi := ⟨some 32, _, _, _, _, _⟩) (v := ?_) rfl (by kernel_rfl) (by kernel_rfl) (by kernel_rfl) (fun _ _ _ h => h) (Or.inl ⟨by rfl, ?_⟩) (by assumption) ?_
          rotate_left
          · intro wq hSw; obtain ⟨⟨qz0, qc0, qf0⟩, ⟨qz1, qc1, qf1⟩, ⟨qz2, qc2, qf2⟩, ⟨qz3, qc3, qf3⟩, ⟨qz4, qc4, qf4⟩, ⟨qz5, qc5, qf5⟩, _⟩ := hSw.2; go_simp; (try with_reducible rfl)
          try simp only [Act.put, List.setIfInBounds_toArray, List.set_cons_zero, List.set_cons_succ]
          refine wpAnyH_ready (rs := [1]) (by kernel_rfl) (by simp) ?_
          refine AllReadyH.cons (o := ⟨some 31, _, _, _, _, _⟩) rfl (fun K hK => ?_) AllReadyH.nil
          go_simp
          (first | ((with_reducible refine (PW.out _).mono ?_); rintro e wp ⟨b5, A5, n5, c5, rfl, hb, hz5⟩; (first | have zt1 := zt.below (undrew hb) | have zt2 := zt1.below hb); (first | have zq1 := zq.below (undrew hb) | have zq2 := zq1.below hb)) | ((with_reducible refine (LS.out _ _ _ hz5 zt1).mono ?_); rintro e wl ⟨rfl, hb⟩; replace zt1 := zt1.below hb; replace zq1 := zq1.below hb) | ((with_reducible refine (SM.out _ _ _ hz5 zt2).mono ?_); rintro e ws ⟨rfl, hb⟩; replace zq2 := zq2.below hb))
          refine hK.out _ _ (hHeld0.next hb) (fun hHeld1 => ?_)
          clear hK K
          try clear hb
          try simp only [Act.put, List.setIfInBounds_toArray, List.set_cons_zero, List.set_cons_succ]
          refine wpAnyH_ready (rs := [3]) (by kernel_rfl) (by simp) ?_
          refine AllReadyH.cons (o := ⟨some 33, _, _, _, _, _⟩) rfl (fun K hK => ?_) AllReadyH.nil
          go_simp
          (first | ((with_reducible refine (PW.out _).mono ?_); rintro e wp ⟨b5, A5, n5, c5, rfl, hb, hz5⟩; (first | have zt1 := zt.below (undrew hb) | have zt2 := zt1.below hb); (first | have zq1 := zq.below (undrew hb) | have zq2 := zq1.below hb)) | ((with_reducible refine (LS.out _ _ _ hz5 zt1).mono ?_); rintro e wl ⟨rfl, hb⟩; replace zt1 := zt1.below hb; replace zq1 := zq1.below hb) | ((with_reducible refine (SM.out _ _ _ hz5 zt2).mono ?_); rintro e ws ⟨rfl, hb⟩; replace zq2 := zq2.below hb))
          refine hK.out _ _ (hHeld1.next hb) (fun hHeld2 => ?_)
          clear hK K
          try clear hb
          try simp only [Act.put, List.setIfInBounds_toArray, List.set_cons_zero, List.set_cons_succ]
          refine wpAnyH_take (i := 4) (oi := ⟨some 34, _, _, _, _, _⟩) (v := ?_) rfl (by kernel_rfl) (by kernel_rfl) (by kernel_rfl) (fun _ _ _ h => h) (Or.inl ⟨by rfl, ?_⟩) (by assumption) ?_
          rotate_left
          · intro wq hSw; go_simp; (try with_reducible rfl)
          try simp only [Act.put, List.setIfInBounds_toArray, List.set_cons_zero, List.set_cons_succ]
          refine wpAnyH_take (i := 5) (oi := ⟨some 35, _, _, _, _, _⟩) (v := ?_) rfl (by kernel_rfl) (by kernel_rfl) (by kernel_rfl) (fun _ _ _ h => h) (Or.inl ⟨by rfl, ?_⟩) (by assumption) ?_
          rotate_left
          · intro wq hSw; go_simp; (try with_reducible rfl)
          try simp only [Act.put, List.setIfInBounds_toArray, List.set_cons_zero, List.set_cons_succ]
          refine wpAnyH_take (i := 7) (oi := ⟨some 37, _, _, _, _, _⟩) (v := ?_) rfl (by kernel_rfl) (by kernel_rfl) (by kernel_rfl) (fun _ _ _ h => h) (Or.inl ⟨by rfl, ?_⟩) (by assumption) ?_
          rotate_left
          · intro wq hSw; obtain ⟨⟨qz0, qc0, qf0⟩, ⟨qz1, qc1, qf1⟩, ⟨qz2, qc2, qf2⟩, ⟨qz3, qc3, qf3⟩, ⟨qz4, qc4, qf4⟩, ⟨qz5, qc5, qf5⟩, _⟩ := hSw.2; go_simp; (try with_reducible rfl)
          try simp only [Act.put, List.setIfInBounds_toArray, List.set_cons_zero, List.set_cons_succ]
          refine wpAnyH_ready (rs := [6]) (by kernel_rfl) (by simp) ?_
          refine AllReadyH.cons (o := ⟨some 36, _, _, _, _, _⟩) rfl (fun K hK => ?_) AllReadyH.nil
          go_simp
          (first | ((with_reducible refine (PW.out _).mono ?_); rintro e wp ⟨b5, A5, n5, c5, rfl, hb, hz5⟩; (first | have zt1 := zt.below (undrew hb) | have zt2 := zt1.below hb); (first | have zq1 := zq.below (undrew hb) | have zq2 := zq1.below hb)) | ((with_reducible refine (LS.out _ _ _ hz5 zt1).mono ?_); rintro e wl ⟨rfl, hb⟩; replace zt1 := zt1.below hb; replace zq1 := zq1.below hb) | ((with_reducible refine (SM.out _ _ _ hz5 zt2).mono ?_); rintro e ws ⟨rfl, hb⟩; replace zq2 := zq2.below hb))
          refine hK.out _ _ (hHeld2.next hb) (fun hHeld3 => ?_)
          clear hK K
          try clear hb
          try simp only [Act.put, List.setIfInBounds_toArray, List.set_cons_zero, List.set_cons_succ]
          refine wpAnyH_ready (rs := [8]) (by kernel_rfl) (by simp) ?_
          refine AllReadyH.cons (o := ⟨some 38, _, _, _, _, _⟩) rfl (fun K hK => ?_) AllReadyH.nil
          go_simp
          (first | ((with_reducible refine (PW.out _).mono ?_); rintro e wp ⟨b5, A5, n5, c5, rfl, hb, hz5⟩; (first | have zt1 := zt.below (undrew hb) | have zt2 := zt1.below hb); (first | have zq1 := zq.below (undrew hb) | have zq2 := zq1.below hb)) | ((with_reducible refine (LS.out _ _ _ hz5 zt1).mono ?_); rintro e wl ⟨rfl, hb⟩; replace zt1 := zt1.below hb; replace zq1 := zq1.below hb) | ((with_reducible refine (SM.out _ _ _ hz5 zt2).mono ?_); rintro e ws ⟨rfl, hb⟩; replace zq2 := zq2.below hb))
          refine hK.out _ _ (hHeld3.next hb) (fun hHeld4 => ?_)
          clear hK K
          try clear hb
          try simp only [Act.put, List.setIfInBounds_toArray, List.set_cons_zero, List.set_cons_succ]
          refine wpAnyH_take (i := 9) (oi := ⟨some 39, _, _, _, _, _⟩) (v := ?_) rfl (by kernel_rfl) (by kernel_rfl) (by kernel_rfl) (fun _ _ _ h => h) (Or.inl ⟨by rfl, ?_⟩) (by assumption) ?_
          rotate_left
          · intro wq hSw; go_simp; (try with_reducible rfl)
          try simp only [Act.put, List.setIfInBounds_toArray, List.set_cons_zero, List.set_cons_succ]
          refine wpAnyH_take (i := 10) (oi := ⟨some 40, _, _, _, _, _⟩) (v := undef) rfl (by kernel_rfl) (by kernel_rfl) (by kernel_rfl) (fun _ _ _ h => h) (Or.inr ⟨by rfl, rfl⟩) (by assumption) ?_
          try simp only [Act.put, List.setIfInBounds_toArray, List.set_cons_zero, List.set_cons_succ]
          refine wpAnyH_take (i := 11) (oi := ⟨some 41, _, _, _, _, _⟩) (v := undef) rfl (by kernel_rfl) (by kernel_rfl) (by kernel_rfl) (fun _ _ _ h => h) (Or.inr ⟨by rfl, rfl⟩) (by assumption) ?_
          try simp only [Act.put, List.setIfInBounds_toArray, List.set_cons_zero, List.set_cons_succ]
          refine wpAnyH_take (i := 12) (oi := ⟨some 42, _, _, _, _, _⟩) (v := ?_) rfl (by kernel_rfl) (by kernel_rfl) (by kernel_rfl) (fun _ _ _ h => h) (Or.inl ⟨by rfl, ?_⟩) (by assumption) ?_
          rotate_left
          · intro wq hSw; go_simp; (try with_reducible rfl)
          try simp only [Act.put, List.setIfInBounds_toArray, List.set_cons_zero, List.set_cons_succ]
          refine wpAnyH_take (i := 13) (oi := ⟨some 43, _, _, _, _, _⟩) (v := ?_) rfl (by kernel_rfl) (by kernel_rfl) (by kernel_rfl) (fun _ _ _ h => h) (Or.inl ⟨by rfl, ?_⟩) (by assumption) ?_
          rotate_left
          · intro wq hSw; go_simp; (try with_reducible rfl)
          try simp only [Act.put, List.setIfInBounds_toArray, List.set_cons_zero, List.set_cons_succ]
          refine wpAnyH_done (by kernel_rfl) ?_ _
          have hHeld := hHeld4
          obtain ⟨⟨kz0, kc0, kf0⟩, ⟨kz1, kc1, kf1⟩, ⟨kz2, kc2, kf2⟩, ⟨kz3, kc3, kf3⟩, ⟨kz4, kc4, kf4⟩, ⟨kz5, kc5, kf5⟩, _⟩ := hHeld.2
          obtain ⟨⟨mz0, mc0, mf0⟩, ⟨mz1, mc1, mf1⟩, ⟨mz2, mc2, mf2⟩, ⟨mz3, mc3, mf3⟩, _⟩ := hHeld.2
          have zq3 : NumZ _ (.agg #[.bool bq, .slice Aq nq cq]) res := (by first | exact zq2 | exact zq1)
          have hM := hHeld.1
          go_wp2_with fail
          obtain ⟨d0, d1⟩ := set2 (B := w.heap.size + 1) (u0 := .bool bq) (u1 := .slice Aq nq cq) mc0 mc1
          refine bodyPost_ret (v := .agg #[.bool bq, .slice Aq nq cq]) (by simp [results, Try.results13, go_sem, d0, d1]) rfl ?_
          exact ⟨bq, Aq, nq, cq, rfl, (hM.setCell (p := ⟨w.heap.size + 1, 0, none⟩) (by simp) _).setCell (p := ⟨w.heap.size + 1, 1, none⟩) (by simp) _, zq3.set2 mc0 mc1 _ _⟩
end Go.Proofs.Ytinppckjolkhpaa
