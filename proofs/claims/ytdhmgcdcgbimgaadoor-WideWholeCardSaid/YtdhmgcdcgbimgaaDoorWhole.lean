/-
  The walk of the law WideWhole: the part times the divisor, and what is left, are the number. Conditions: the words of a number are of 64 bits; the table of powers of ten holds what its initialiser lays.
-/
import Derived.Test.YtdhmgcdcgbimgaaDoorBack
namespace Go.Proofs.YtdhmgcdcgbimgaaDoor
open Go.RowKit Go.Shelf

set_option maxRecDepth 100000 in
set_option maxHeartbeats 3200000 in
theorem whole_no (ah al m : Int) (g : m < 1) (w : World) (htab : Tab w) :
    Calls Tryd.prog 9 #[wideV ah al, .int .i64 m] w (Ret w (.bool true)) := by
  have WK := wakes_on htab
  have CM : ∀ w, Calls Tryd.prog 29 #[wideV ah al, wideV ah al] w (Ret w (.int .i64 0)) := fun w => by simpa using compare_any ah al ah al w
  replace CM := Lib.hid CM
  clear htab
  go_enter Tryd.func9, Tryd.ntmps9
  go_wp2_with fail
  refine (WK.out _ (by go_grown)).mono ?_
  rintro e w1 ⟨rfl, hb⟩
  have hHeld : Keeps w [(w.heap.size, 0, .int .i64 ah), (w.heap.size, 1, .int .u64 al)] _ := Keeps.next (by refine ⟨by go_grown, ?_⟩; simp [Cells, go_sem]) hb
  clear hb
  obtain ⟨⟨kz0, kc0, kf0⟩, ⟨kz1, kc1, kf1⟩, _⟩ := hHeld.2
  go_wp2_with fail
  refine (CM.out _).mono ?_
  rintro e w2 ⟨rfl, hb⟩
  replace hHeld := Keeps.next (hHeld) hb
  clear hb kz0 kc0 kf0 kz1 kc1 kf1
  obtain ⟨⟨kz0, kc0, kf0⟩, ⟨kz1, kc1, kf1⟩, _⟩ := hHeld.2
  go_wp2_with fail
  go_ret
  exact ⟨by simp, hHeld.1⟩

set_option maxRecDepth 100000 in
set_option maxHeartbeats 3200000 in
theorem whole_walk (ah al m q1 q2 r p1 p2 r1 r2 : Int) (c : Bool) (w : World) (htab : Tab w) (g : ¬ m < 1) (g0 : ¬ r < 0) (g1 : r < m) (X : c = false → ah < 0 ∧ 0 < r)
    (DV : ∀ w, Calls Tryd.prog 30 #[wideV ah al, .int .i64 m] w (Ret w (.tuple #[wideV q1 q2, .int .i64 r, .int .i64 0])))
    (SC : ∀ w, Calls Tryd.prog 22 #[wideV q1 q2, .int .i64 m] w (Ret w (.tuple #[wideV p1 p2, .int .i64 (if c then 0 else 5)])))
    (OF : ∀ w, Calls Tryd.prog 23 #[.int .i64 r] w (Ret w (wideV r1 r2)))
    (AD : c = true → ∀ w, Calls Tryd.prog 14 #[wideV p1 p2, wideV r1 r2] w (Ret w (.tuple #[wideV ah al, .int .i64 0]))) :
    Calls Tryd.prog 9 #[wideV ah al, .int .i64 m] w (Ret w (.bool true)) := by
  have WK := wakes_on htab
  have g2 : ¬ m ≤ r := by omega
  replace DV := Lib.hid DV
  replace SC := Lib.hid SC
  replace OF := Lib.hid OF
  replace AD := Lib.hid AD
  clear htab
  cases c
  · simp only [Bool.false_eq_true, if_false] at SC
    obtain ⟨x1, x2⟩ := X rfl
    clear X
    go_enter Tryd.func9, Tryd.ntmps9
    go_wp2_with fail
    refine (WK.out _ (by go_grown)).mono ?_
    rintro e w1 ⟨rfl, hb⟩
    have hHeld : Keeps w [(w.heap.size, 0, .int .i64 ah), (w.heap.size, 1, .int .u64 al)] _ := Keeps.next (by refine ⟨by go_grown, ?_⟩; simp [Cells, go_sem]) hb
    clear hb
    obtain ⟨⟨kz0, kc0, kf0⟩, ⟨kz1, kc1, kf1⟩, _⟩ := hHeld.2
    go_wp2_with fail
    refine (DV.out _).mono ?_
    rintro e w2 ⟨rfl, hb⟩
    replace hHeld := Keeps.next (hHeld) hb
    clear hb kz0 kc0 kf0 kz1 kc1 kf1
    obtain ⟨⟨kz0, kc0, kf0⟩, ⟨kz1, kc1, kf1⟩, _⟩ := hHeld.2
    go_wp2_with fail
    refine (SC.out _).mono ?_
    rintro e w3 ⟨rfl, hb⟩
    replace hHeld : Keeps w [(w.heap.size, 0, .int .i64 ah), (w.heap.size, 1, .int .u64 al), (w2.heap.size, 0, .int .i64 q1), (w2.heap.size, 1, .int .u64 q2)] _ := Keeps.next (((hHeld.alloc _).app (newK2 (hHeld.alloc _)))) hb
    clear hb kz0 kc0 kf0 kz1 kc1 kf1
    obtain ⟨⟨kz0, kc0, kf0⟩, ⟨kz1, kc1, kf1⟩, ⟨kz2, kc2, kf2⟩, ⟨kz3, kc3, kf3⟩, _⟩ := hHeld.2
    go_wp2_with fail
    go_ret
    exact ⟨by simp, (hHeld.alloc _).1⟩
  · simp only [if_true] at SC
    clear X
    go_enter Tryd.func9, Tryd.ntmps9
    go_wp2_with fail
    refine (WK.out _ (by go_grown)).mono ?_
    rintro e w1 ⟨rfl, hb⟩
    have hHeld : Keeps w [(w.heap.size, 0, .int .i64 ah), (w.heap.size, 1, .int .u64 al)] _ := Keeps.next (by refine ⟨by go_grown, ?_⟩; simp [Cells, go_sem]) hb
    clear hb
    obtain ⟨⟨kz0, kc0, kf0⟩, ⟨kz1, kc1, kf1⟩, _⟩ := hHeld.2
    go_wp2_with fail
    refine (DV.out _).mono ?_
    rintro e w2 ⟨rfl, hb⟩
    replace hHeld := Keeps.next (hHeld) hb
    clear hb kz0 kc0 kf0 kz1 kc1 kf1
    obtain ⟨⟨kz0, kc0, kf0⟩, ⟨kz1, kc1, kf1⟩, _⟩ := hHeld.2
    go_wp2_with fail
    refine (SC.out _).mono ?_
    rintro e w3 ⟨rfl, hb⟩
    replace hHeld : Keeps w [(w.heap.size, 0, .int .i64 ah), (w.heap.size, 1, .int .u64 al), (w2.heap.size, 0, .int .i64 q1), (w2.heap.size, 1, .int .u64 q2)] _ := Keeps.next (((hHeld.alloc _).app (newK2 (hHeld.alloc _)))) hb
    clear hb kz0 kc0 kf0 kz1 kc1 kf1
    obtain ⟨⟨kz0, kc0, kf0⟩, ⟨kz1, kc1, kf1⟩, ⟨kz2, kc2, kf2⟩, ⟨kz3, kc3, kf3⟩, _⟩ := hHeld.2
    go_wp2_with fail
    refine region_keeps (w0 := w) (L := [(w.heap.size, 0, .int .i64 ah), (w.heap.size, 1, .int .u64 al), (w3.heap.size, 0, .int .i64 p1), (w3.heap.size, 1, .int .u64 p2)]) (by kernel_rfl) (⟨(hHeld.alloc _).1, (hHeld.alloc _).2.1, (hHeld.alloc _).2.2.1, (newK2 (hHeld.alloc _)).2⟩) (fun hHeld0 => ?_)
    refine wpAnyH_take (i := 0) (oi := ⟨some 57, _, _, _, _, _⟩) (v := ?_) rfl (by kernel_rfl) (by kernel_rfl) (by kernel_rfl) (fun _ _ _ h => h) (Or.inl ⟨by rfl, ?_⟩) (by assumption) ?_
    rotate_left
    · intro wq hSw; obtain ⟨⟨qz0, qc0, qf0⟩, ⟨qz1, qc1, qf1⟩, ⟨qz2, qc2, qf2⟩, ⟨qz3, qc3, qf3⟩, _⟩ := hSw.2; go_simp; (try with_reducible rfl)
    try simp only [Act.put, List.setIfInBounds_toArray, List.set_cons_zero, List.set_cons_succ]
    refine wpAnyH_take (i := 1) (oi := ⟨some 58, _, _, _, _, _⟩) (v := ?_) rfl (by kernel_rfl) (by kernel_rfl) (by kernel_rfl) (fun _ _ _ h => h) (Or.inl ⟨by rfl, ?_⟩) (by assumption) ?_
    rotate_left
    · intro wq hSw; go_simp; (try with_reducible rfl)
    try simp only [Act.put, List.setIfInBounds_toArray, List.set_cons_zero, List.set_cons_succ]
    refine wpAnyH_ready (rs := [2, 7]) (by kernel_rfl) (by simp) ?_
    refine AllReadyH.cons (o := ⟨some 59, _, _, _, _, _⟩) rfl (fun K hK => ?_) ?_
    · skip
      go_simp
      (first | ((with_reducible refine (OF.out _).mono ?_); rintro e w5 ⟨rfl, hb⟩) | ((with_reducible refine (AD.out trivial _).mono ?_); rintro e w6 ⟨rfl, hb⟩))
      refine hK.out _ _ (hHeld0.next hb) (fun hHeld1 => ?_)
      clear hK K
      try clear hb
      try simp only [Act.put, List.setIfInBounds_toArray, List.set_cons_zero, List.set_cons_succ]
      refine wpAnyH_ready (rs := [3, 7]) (by kernel_rfl) (by simp) ?_
      refine AllReadyH.cons (o := ⟨some 60, _, _, _, _, _⟩) rfl (fun K hK => ?_) ?_
      · skip
        go_simp
        (first | ((with_reducible refine (OF.out _).mono ?_); rintro e w5 ⟨rfl, hb⟩) | ((with_reducible refine (AD.out trivial _).mono ?_); rintro e w6 ⟨rfl, hb⟩))
        refine hK.out _ _ (hHeld1.next hb) (fun hHeld2 => ?_)
        clear hK K
        try clear hb
        try simp only [Act.put, List.setIfInBounds_toArray, List.set_cons_zero, List.set_cons_succ]
        refine wpAnyH_take (i := 4) (oi := ⟨some 56, _, _, _, _, _⟩) (v := ?_) rfl (by kernel_rfl) (by kernel_rfl) (by kernel_rfl) (fun _ _ _ h => h) (Or.inl ⟨by rfl, ?_⟩) (by assumption) ?_
        rotate_left
        · intro wq hSw; go_simp; (try with_reducible rfl)
        try simp only [Act.put, List.setIfInBounds_toArray, List.set_cons_zero, List.set_cons_succ]
        refine wpAnyH_take (i := 5) (oi := ⟨some 61, _, _, _, _, _⟩) (v := ?_) rfl (by kernel_rfl) (by kernel_rfl) (by kernel_rfl) (fun _ _ _ h => h) (Or.inl ⟨by rfl, ?_⟩) (by assumption) ?_
        rotate_left
        · intro wq hSw; go_simp; (try with_reducible rfl)
        try simp only [Act.put, List.setIfInBounds_toArray, List.set_cons_zero, List.set_cons_succ]
        refine wpAnyH_take (i := 6) (oi := ⟨some 62, _, _, _, _, _⟩) (v := ?_) rfl (by kernel_rfl) (by kernel_rfl) (by kernel_rfl) (fun _ _ _ h => h) (Or.inl ⟨by rfl, ?_⟩) (by assumption) ?_
        rotate_left
        · intro wq hSw; go_simp; (try with_reducible rfl)
        try simp only [Act.put, List.setIfInBounds_toArray, List.set_cons_zero, List.set_cons_succ]
        refine wpAnyH_ready (rs := [7]) (by kernel_rfl) (by simp) ?_
        refine AllReadyH.cons (o := ⟨some 9, _, _, _, _, _⟩) rfl (fun K hK => ?_) AllReadyH.nil
        go_simp
        refine hK.out _ _ (by first | exact hHeld2.alloc _ | exact (hHeld2.alloc _).drew) (fun hHeld3 => ?_)
        first | have hN3 := newK2 hHeld3 | have hN3 := newK2d hHeld3
        clear hK K
        try clear hb
        try simp only [Act.put, List.setIfInBounds_toArray, List.set_cons_zero, List.set_cons_succ]
        refine wpAnyH_ready (rs := [8]) (by kernel_rfl) (by simp) ?_
        refine AllReadyH.cons (o := ⟨none, _, _, _, _, _⟩) rfl (fun K hK => ?_) AllReadyH.nil
        have hz0 := hHeld2.1.size; obtain ⟨⟨az0, ac0, af0⟩, ⟨az1, ac1, af1⟩, ⟨az2, ac2, af2⟩, ⟨az3, ac3, af3⟩, _⟩ := hHeld2.2; (try simp at hz0); (try simp at az0); (try simp at az1); (try simp at az2); (try simp at az3)
        obtain ⟨⟨t0z0, t0c0, t0f0⟩, ⟨t0z1, t0c1, t0f1⟩, _⟩ := hN3.2; (try simp at t0z0); (try simp at t0c0); (try simp at t0f0); (try simp at t0z1); (try simp at t0c1); (try simp at t0f1)
        go_simp
        refine hK.out _ _ (by first | exact hHeld2.alloc _ | ((repeat (refine Keeps.set ?_ (by simp <;> omega) (by simp <;> omega) _)); exact hHeld3)) (fun hHeld4 => ?_)
        clear hK K
        try clear hb
        try simp only [Act.put, List.setIfInBounds_toArray, List.set_cons_zero, List.set_cons_succ]
        refine wpAnyH_take (i := 9) (oi := ⟨some 10, _, _, _, _, _⟩) (v := ?_) rfl (by kernel_rfl) (by kernel_rfl) (by kernel_rfl) (fun _ _ _ h => h) (Or.inl ⟨by rfl, ?_⟩) (by assumption) ?_
        rotate_left
        · intro wq hSw; go_simp; (try with_reducible rfl)
        try simp only [Act.put, List.setIfInBounds_toArray, List.set_cons_zero, List.set_cons_succ]
        refine wpAnyH_done (by kernel_rfl) ?_ _
        have hHeld := hHeld4
        obtain ⟨⟨kz0, kc0, kf0⟩, ⟨kz1, kc1, kf1⟩, ⟨kz2, kc2, kf2⟩, ⟨kz3, kc3, kf3⟩, _⟩ := hHeld.2
        (go_wp2_with fail; go_ret; exact ⟨by simp, hHeld.1⟩)
      refine AllReadyH.cons (o := ⟨some 9, _, _, _, _, _⟩) rfl (fun K hK => ?_) ?_
      · skip
        go_simp
        refine hK.out _ _ (by first | exact hHeld1.alloc _ | exact (hHeld1.alloc _).drew) (fun hHeld5 => ?_)
        first | have hN5 := newK2 hHeld5 | have hN5 := newK2d hHeld5
        clear hK K
        try clear hb
        try simp only [Act.put, List.setIfInBounds_toArray, List.set_cons_zero, List.set_cons_succ]
        refine wpAnyH_ready (rs := [3]) (by kernel_rfl) (by simp) ?_
        refine AllReadyH.cons (o := ⟨some 60, _, _, _, _, _⟩) rfl (fun K hK => ?_) AllReadyH.nil
        go_simp
        (first | ((with_reducible refine (OF.out _).mono ?_); rintro e w5 ⟨rfl, hb⟩) | ((with_reducible refine (AD.out trivial _).mono ?_); rintro e w6 ⟨rfl, hb⟩))
        refine hK.out _ _ (hHeld5.next hb) (fun hHeld6 => ?_)
        replace hN5 := hN5.next hb
        clear hK K
        try clear hb
        try simp only [Act.put, List.setIfInBounds_toArray, List.set_cons_zero, List.set_cons_succ]
        refine wpAnyH_take (i := 4) (oi := ⟨some 56, _, _, _, _, _⟩) (v := ?_) rfl (by kernel_rfl) (by kernel_rfl) (by kernel_rfl) (fun _ _ _ h => h) (Or.inl ⟨by rfl, ?_⟩) (by assumption) ?_
        rotate_left
        · intro wq hSw; go_simp; (try with_reducible rfl)
        try simp only [Act.put, List.setIfInBounds_toArray, List.set_cons_zero, List.set_cons_succ]
        refine wpAnyH_take (i := 5) (oi := ⟨some 61, _, _, _, _, _⟩) (v := ?_) rfl (by kernel_rfl) (by kernel_rfl) (by kernel_rfl) (fun _ _ _ h => h) (Or.inl ⟨by rfl, ?_⟩) (by assumption) ?_
        rotate_left
        · intro wq hSw; go_simp; (try with_reducible rfl)
        try simp only [Act.put, List.setIfInBounds_toArray, List.set_cons_zero, List.set_cons_succ]
        refine wpAnyH_take (i := 6) (oi := ⟨some 62, _, _, _, _, _⟩) (v := ?_) rfl (by kernel_rfl) (by kernel_rfl) (by kernel_rfl) (fun _ _ _ h => h) (Or.inl ⟨by rfl, ?_⟩) (by assumption) ?_
        rotate_left
        · intro wq hSw; go_simp; (try with_reducible rfl)
        try simp only [Act.put, List.setIfInBounds_toArray, List.set_cons_zero, List.set_cons_succ]
        refine wpAnyH_ready (rs := [8]) (by kernel_rfl) (by simp) ?_
        refine AllReadyH.cons (o := ⟨none, _, _, _, _, _⟩) rfl (fun K hK => ?_) AllReadyH.nil
        have hz0 := hHeld1.1.size; obtain ⟨⟨az0, ac0, af0⟩, ⟨az1, ac1, af1⟩, ⟨az2, ac2, af2⟩, ⟨az3, ac3, af3⟩, _⟩ := hHeld1.2; (try simp at hz0); (try simp at az0); (try simp at az1); (try simp at az2); (try simp at az3)
        obtain ⟨⟨t0z0, t0c0, t0f0⟩, ⟨t0z1, t0c1, t0f1⟩, _⟩ := hN5.2; (try simp at t0z0); (try simp at t0c0); (try simp at t0f0); (try simp at t0z1); (try simp at t0c1); (try simp at t0f1)
        go_simp
        refine hK.out _ _ (by first | exact hHeld1.alloc _ | ((repeat (refine Keeps.set ?_ (by simp <;> omega) (by simp <;> omega) _)); exact hHeld6)) (fun hHeld7 => ?_)
        clear hK K
        try clear hb
        try simp only [Act.put, List.setIfInBounds_toArray, List.set_cons_zero, List.set_cons_succ]
        refine wpAnyH_take (i := 9) (oi := ⟨some 10, _, _, _, _, _⟩) (v := ?_) rfl (by kernel_rfl) (by kernel_rfl) (by kernel_rfl) (fun _ _ _ h => h) (Or.inl ⟨by rfl, ?_⟩) (by assumption) ?_
        rotate_left
        · intro wq hSw; go_simp; (try with_reducible rfl)
        try simp only [Act.put, List.setIfInBounds_toArray, List.set_cons_zero, List.set_cons_succ]
        refine wpAnyH_done (by kernel_rfl) ?_ _
        have hHeld := hHeld7
        obtain ⟨⟨kz0, kc0, kf0⟩, ⟨kz1, kc1, kf1⟩, ⟨kz2, kc2, kf2⟩, ⟨kz3, kc3, kf3⟩, _⟩ := hHeld.2
        (go_wp2_with fail; go_ret; exact ⟨by simp, hHeld.1⟩)
      exact AllReadyH.nil
    refine AllReadyH.cons (o := ⟨some 9, _, _, _, _, _⟩) rfl (fun K hK => ?_) ?_
    · skip
      go_simp
      refine hK.out _ _ (by first | exact hHeld0.alloc _ | exact (hHeld0.alloc _).drew) (fun hHeld8 => ?_)
      first | have hN8 := newK2 hHeld8 | have hN8 := newK2d hHeld8
      clear hK K
      try clear hb
      try simp only [Act.put, List.setIfInBounds_toArray, List.set_cons_zero, List.set_cons_succ]
      refine wpAnyH_ready (rs := [2]) (by kernel_rfl) (by simp) ?_
      refine AllReadyH.cons (o := ⟨some 59, _, _, _, _, _⟩) rfl (fun K hK => ?_) AllReadyH.nil
      go_simp
      (first | ((with_reducible refine (OF.out _).mono ?_); rintro e w5 ⟨rfl, hb⟩) | ((with_reducible refine (AD.out trivial _).mono ?_); rintro e w6 ⟨rfl, hb⟩))
      refine hK.out _ _ (hHeld8.next hb) (fun hHeld9 => ?_)
      replace hN8 := hN8.next hb
      clear hK K
      try clear hb
      try simp only [Act.put, List.setIfInBounds_toArray, List.set_cons_zero, List.set_cons_succ]
      refine wpAnyH_ready (rs := [3]) (by kernel_rfl) (by simp) ?_
      refine AllReadyH.cons (o := ⟨some 60, _, _, _, _, _⟩) rfl (fun K hK => ?_) AllReadyH.nil
      go_simp
      (first | ((with_reducible refine (OF.out _).mono ?_); rintro e w5 ⟨rfl, hb⟩) | ((with_reducible refine (AD.out trivial _).mono ?_); rintro e w6 ⟨rfl, hb⟩))
      refine hK.out _ _ (hHeld9.next hb) (fun hHeld10 => ?_)
      replace hN8 := hN8.next hb
      clear hK K
      try clear hb
      try simp only [Act.put, List.setIfInBounds_toArray, List.set_cons_zero, List.set_cons_succ]
      refine wpAnyH_take (i := 4) (oi := ⟨some 56, _, _, _, _, _⟩) (v := ?_) rfl (by kernel_rfl) (by kernel_rfl) (by kernel_rfl) (fun _ _ _ h => h) (Or.inl ⟨by rfl, ?_⟩) (by assumption) ?_
      rotate_left
      · intro wq hSw; go_simp; (try with_reducible rfl)
      try simp only [Act.put, List.setIfInBounds_toArray, List.set_cons_zero, List.set_cons_succ]
      refine wpAnyH_take (i := 5) (oi := ⟨some 61, _, _, _, _, _⟩) (v := ?_) rfl (by kernel_rfl) (by kernel_rfl) (by kernel_rfl) (fun _ _ _ h => h) (Or.inl ⟨by rfl, ?_⟩) (by assumption) ?_
      rotate_left
      · intro wq hSw; go_simp; (try with_reducible rfl)
      try simp only [Act.put, List.setIfInBounds_toArray, List.set_cons_zero, List.set_cons_succ]
      refine wpAnyH_take (i := 6) (oi := ⟨some 62, _, _, _, _, _⟩) (v := ?_) rfl (by kernel_rfl) (by kernel_rfl) (by kernel_rfl) (fun _ _ _ h => h) (Or.inl ⟨by rfl, ?_⟩) (by assumption) ?_
      rotate_left
      · intro wq hSw; go_simp; (try with_reducible rfl)
      try simp only [Act.put, List.setIfInBounds_toArray, List.set_cons_zero, List.set_cons_succ]
      refine wpAnyH_ready (rs := [8]) (by kernel_rfl) (by simp) ?_
      refine AllReadyH.cons (o := ⟨none, _, _, _, _, _⟩) rfl (fun K hK => ?_) AllReadyH.nil
      have hz0 := hHeld0.1.size; obtain ⟨⟨az0, ac0, af0⟩, ⟨az1, ac1, af1⟩, ⟨az2, ac2, af2⟩, ⟨az3, ac3, af3⟩, _⟩ := hHeld0.2; (try simp at hz0); (try simp at az0); (try simp at az1); (try simp at az2); (try simp at az3)
      obtain ⟨⟨t0z0, t0c0, t0f0⟩, ⟨t0z1, t0c1, t0f1⟩, _⟩ := hN8.2; (try simp at t0z0); (try simp at t0c0); (try simp at t0f0); (try simp at t0z1); (try simp at t0c1); (try simp at t0f1)
      go_simp
      refine hK.out _ _ (by first | exact hHeld0.alloc _ | ((repeat (refine Keeps.set ?_ (by simp <;> omega) (by simp <;> omega) _)); exact hHeld10)) (fun hHeld11 => ?_)
      clear hK K
      try clear hb
      try simp only [Act.put, List.setIfInBounds_toArray, List.set_cons_zero, List.set_cons_succ]
      refine wpAnyH_take (i := 9) (oi := ⟨some 10, _, _, _, _, _⟩) (v := ?_) rfl (by kernel_rfl) (by kernel_rfl) (by kernel_rfl) (fun _ _ _ h => h) (Or.inl ⟨by rfl, ?_⟩) (by assumption) ?_
      rotate_left
      · intro wq hSw; go_simp; (try with_reducible rfl)
      try simp only [Act.put, List.setIfInBounds_toArray, List.set_cons_zero, List.set_cons_succ]
      refine wpAnyH_done (by kernel_rfl) ?_ _
      have hHeld := hHeld11
      obtain ⟨⟨kz0, kc0, kf0⟩, ⟨kz1, kc1, kf1⟩, ⟨kz2, kc2, kf2⟩, ⟨kz3, kc3, kf3⟩, _⟩ := hHeld.2
      (go_wp2_with fail; go_ret; exact ⟨by simp, hHeld.1⟩)
    exact AllReadyH.nil

theorem whole_any (ah al m : Int) (h1 : I64 ah) (h2 : U64 al) (hm : I64 m) (w : World) (htab : Tab w) :
    Calls Tryd.prog 9 #[wideV ah al, .int .i64 m] w (Ret w (.bool true)) := by
  by_cases g : m < 1
  · exact whole_no ah al m g w htab
  have hc : ∀ z : Int, rcode z = if decide (Fits z) then 0 else 5 := fun z => by unfold rcode; simp
  have fv := fits_val h1 h2
  have hm1 : 0 < m := by omega
  have fq : Fits (val ah al / m) := div_fits fv (m := m) (by omega)
  have r0 := Int.emod_nonneg (val ah al) (show m ≠ 0 by omega)
  have r1 := Int.emod_lt_of_pos (val ah al) hm1
  have de := Int.mul_ediv_add_emod (val ah al) m
  have hr : I64 (val ah al % m) := ⟨by omega, by have := hm.2; omega⟩
  have dv := div_any ah al m h1 h2 hm
  have ev : divV (val ah al) m = .tuple #[wideV (rhi (val ah al / m)) (rlo (val ah al / m)), .int .i64 (val ah al % m), .int .i64 0] := by simp [divV, qhi, qlo, qrest, qcode, g]
  rw [ev] at dv
  have sc := scale_any _ _ m (rhi_i64 (val ah al / m)) (rlo_u64 (val ah al / m)) hm
  rw [val_r fq] at sc
  unfold roomV at sc
  rw [hc] at sc
  have of := of_any _ hr
  have fr : Fits (val ah al % m) := by unfold Fits; have := hm.2; omega
  refine whole_walk ah al m _ _ _ _ _ _ _ _ w htab g (by omega) r1 ?_ dv sc of ?_
  · intro k
    have nf : ¬ Fits (val ah al / m * m) := by simpa using k
    have e : val ah al / m * m = m * (val ah al / m) := Int.mul_comm _ _
    rw [e] at nf
    generalize m * (val ah al / m) = z at *
    unfold Fits at nf fv
    have hm2 := hm.2
    refine ⟨?_, ?_⟩
    · unfold val at *
      obtain ⟨_, _⟩ := h2
      omega
    · omega
  · intro k w
    have f : Fits (val ah al / m * m) := by simpa using k
    have ad := add_any _ _ _ _ (rhi_i64 (val ah al / m * m)) (rlo_u64 (val ah al / m * m)) (rhi_i64 (val ah al % m)) (rlo_u64 (val ah al % m)) w
    rw [val_r f, val_r fr, show val ah al / m * m + val ah al % m = val ah al from by rw [Int.mul_comm]; exact de] at ad
    unfold roomV at ad
    rw [rhi_val h1 h2, rlo_val h1 h2, hc, decide_eq_true fv] at ad
    exact ad
end Go.Proofs.YtdhmgcdcgbimgaaDoor
