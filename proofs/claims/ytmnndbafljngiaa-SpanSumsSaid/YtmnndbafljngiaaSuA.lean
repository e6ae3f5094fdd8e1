/-
  The document's own answers to Plus and Times. Conditions: those written at each fact.
-/
import Derived.Test.YtmnndbafljngiaaSrB
import Derived.Test.YtmnndbafljngiaaJoA
import Derived.Test.YtmnndbafljngiaaJoB
namespace Go.Proofs.Ytmnndbafljngiaa
open Go.RowKit

theorem numZ_zero (w : World) : NumZ w (.agg #[.bool false, .slice none 0 0]) 0 := ⟨.slice none 0 0, rfl, none, 0, by rw [show (0 : Int).natAbs = 0 from rfl, sizeL_zero]; rfl, ⟨by rw [show (0 : Int).natAbs = 0 from rfl, sizeL_zero]; simp, fun _ => rfl⟩, fun k hk => by rw [show (0 : Int).natAbs = 0 from rfl, sizeL_zero] at hk; simp at hk⟩
theorem sum_len {l : List (Int × Int)} (h : OkS l) (hl : l.length ≤ 10000000) : (sizeL (sumS l).1.natAbs).length ≤ 3990 ∧ (sizeL (sumS l).2.natAbs).length ≤ 3990 := by
  have := sumS_far h hl
  unfold Far at this
  exact ⟨len_of 130 _ (by omega) (by omega), len_of 130 _ (by omega) (by omega)⟩
set_option maxRecDepth 100000 in
set_option maxHeartbeats 4000000 in
theorem refPlus_any (l : List (Int × Int)) (hok : OkS l) (hl : l.length ≤ 10000000) (q0 q1 : Int) (b : Bool)
    (OF : ∀ u u' w, NumZ w u (sumS l).1 → NumZ w u' (sumS l).2 → Calls Try.prog 65 #[u, u'] w (Ret w (.tuple #[spV q0 q1, .bool b]))) (v : Value) (w : World) (h : ReadsS w v l) :
    Calls Try.prog 34 #[v] w (Ret w (.tuple #[spV q0 q1, .bool b])) := by
  obtain ⟨A, c, rfl, hk⟩ := h
  have HK := Lib.hid hk
  have HO := Lib.hid hok
  replace OF := Lib.hid OF
  have NZ := Lib.hid numZ_zero
  clear hk hok
  go_enter Try.func34, Try.ntmps34
  go_wp2_with fail
  go_loopw [10] (fun i wr => ∃ (k : Nat) (b1 : Bool) (A1 : Option Addr) (n1 c1 : Nat) (b2 : Bool) (A2 : Option Addr) (n2 c2 : Nat), i = .int .i64 k ∧ k ≤ l.length ∧ Hid (NumZ wr (.agg #[.bool b1, .slice A1 n1 c1]) (sumS (l.take k)).1) ∧ Hid (NumZ wr (.agg #[.bool b2, .slice A2 n2 c2]) (sumS (l.take k)).2) ∧ Keeps w [(w.heap.size, 0, .int .i64 0), (w.heap.size, 1, .int .i64 0), (w.heap.size + 1, 0, .bool b1), (w.heap.size + 1, 1, .slice A1 n1 c1), (w.heap.size + 1 + 1, 0, .bool b2), (w.heap.size + 1 + 1, 1, .slice A2 n2 c2)] wr) (fun i _ => l.length - (intOf i).toNat)
  case atStart => exact ⟨0, false, none, 0, 0, false, none, 0, 0, rfl, by omega, Lib.hid (NZ.out _), Lib.hid (NZ.out _), ⟨by go_grown, by simp [Cells, go_sem]⟩⟩
  case round =>
    obtain ⟨k, b1, A1, n1, c1, b2, A2, n2, c2, rfl, hkl, Z1, Z2, hHeld⟩ := hrel
    obtain ⟨⟨kz0, kc0, kf0⟩, ⟨kz1, kc1, kf1⟩, ⟨kz2, kc2, kf2⟩, ⟨kz3, kc3, kf3⟩, ⟨kz4, kc4, kf4⟩, ⟨kz5, kc5, kf5⟩, _⟩ := hHeld.2
    by_cases gk : k < l.length
    · obtain ⟨⟨x, y⟩, hx⟩ : ∃ s, l[k]? = some s := ⟨_, List.getElem?_eq_getElem gk⟩
      obtain ⟨bb, off, rfl, hbw, hc1, hc2⟩ := HK.out k _ hx
      have d1 := (hHeld.1.cell (p := ⟨bb, off + k * 2, none⟩) hbw).trans hc1
      have d2 := (hHeld.1.cell (p := ⟨bb, off + k * 2 + 1, none⟩) hbw).trans hc2
      have i1 : (k : Int) < (l.length : Int) := by omega
      have i0 : (0 : Int) ≤ (k : Int) := by omega
      obtain ⟨x1, x2, y1, y2⟩ := HO.out.at hx
      have SL := sum_len (HO.out.take k) (by rw [List.length_take]; omega)
      have FN := Lib.hid (sumS_next hx)
      clear hc1 hc2 hx
      generalize sumS (l.take k) = p at *
      obtain ⟨p0, p1⟩ := p
      simp only at d1 d2 Z1 Z2 FN SL x1 x2 y1 y2
      have lx := i64_len x x1 x2
      have ly := i64_len y y1 y2
      have IX := Lib.hid (fun W => intZ_any x x1 x2 W)
      have IY := Lib.hid (fun W => intZ_any y y1 y2 W)
      have AX := Lib.hid (fun u u' W k k' => addZ_any p0 x (by omega) (by omega) u u' W k k')
      have AY := Lib.hid (fun u u' W k k' => addZ_any p1 y (by omega) (by omega) u u' W k k')
      have hzw := kz5
      clear x1 x2 y1 y2 lx ly SL
      go_wp2_with fail
      have hK := (hHeld.alloc (.cells #[.int .i64 x, .int .i64 y] 23)).app (newK2 (hHeld.alloc (.cells #[.int .i64 x, .int .i64 y] 23)))
      have Y1 := Lib.hid (Z1.out.below (below_alloc wr (.cells #[.int .i64 x, .int .i64 y] 23)))
      have Y2 := Lib.hid (Z2.out.below (below_alloc wr (.cells #[.int .i64 x, .int .i64 y] 23)))
      refine region_keepsB (w0 := w) (L := [(w.heap.size, 0, .int .i64 0), (w.heap.size, 1, .int .i64 0), (wr.heap.size, 0, .int .i64 x), (wr.heap.size, 1, .int .i64 y)]) (M := [(w.heap.size + 1, 0, .bool b1), (w.heap.size + 1, 1, .slice A1 n1 c1), (w.heap.size + 1 + 1, 0, .bool b2), (w.heap.size + 1 + 1, 1, .slice A2 n2 c2)]) (by kernel_rfl) ⟨hK.1, hK.2.1, hK.2.2.1, hK.2.2.2.2.2.2.2.1, hK.2.2.2.2.2.2.2.2.1, trivial⟩ ⟨hK.1, hK.2.2.2.1, hK.2.2.2.2.1, hK.2.2.2.2.2.1, hK.2.2.2.2.2.2.1, trivial⟩ (fun hHeld0 hT0 => ?_)
      refine wpAnyH_take (i := 1) (oi := ⟨some 15, _, _, _, _, _⟩) (v := ?_) rfl (by kernel_rfl) (by kernel_rfl) (by kernel_rfl) (fun _ _ _ h => h) (Or.inl ⟨by rfl, ?_⟩) (by assumption) ?_
      rotate_left
      · intro wq hSw; go_simp; (try with_reducible rfl)
      try simp only [Act.put, List.setIfInBounds_toArray, List.set_cons_zero, List.set_cons_succ]
      refine wpAnyH_take (i := 2) (oi := ⟨some 16, _, _, _, _, _⟩) (v := ?_) rfl (by kernel_rfl) (by kernel_rfl) (by kernel_rfl) (fun _ _ _ h => h) (Or.inl ⟨by rfl, ?_⟩) (by assumption) ?_
      rotate_left
      · intro wq hSw; obtain ⟨⟨qz0, qc0, qf0⟩, ⟨qz1, qc1, qf1⟩, ⟨qz2, qc2, qf2⟩, ⟨qz3, qc3, qf3⟩, _⟩ := hSw.2; go_simp; (try with_reducible rfl)
      try simp only [Act.put, List.setIfInBounds_toArray, List.set_cons_zero, List.set_cons_succ]
      refine wpAnyH_take (i := 6) (oi := ⟨some 20, _, _, _, _, _⟩) (v := ?_) rfl (by kernel_rfl) (by kernel_rfl) (by kernel_rfl) (fun _ _ _ h => h) (Or.inl ⟨by rfl, ?_⟩) (by assumption) ?_
      rotate_left
      · intro wq hSw; go_simp; (try with_reducible rfl)
      try simp only [Act.put, List.setIfInBounds_toArray, List.set_cons_zero, List.set_cons_succ]
      refine wpAnyH_take (i := 7) (oi := ⟨some 21, _, _, _, _, _⟩) (v := ?_) rfl (by kernel_rfl) (by kernel_rfl) (by kernel_rfl) (fun _ _ _ h => h) (Or.inl ⟨by rfl, ?_⟩) (by assumption) ?_
      rotate_left
      · intro wq hSw; obtain ⟨⟨qz0, qc0, qf0⟩, ⟨qz1, qc1, qf1⟩, ⟨qz2, qc2, qf2⟩, ⟨qz3, qc3, qf3⟩, _⟩ := hSw.2; go_simp; (try with_reducible rfl)
      try simp only [Act.put, List.setIfInBounds_toArray, List.set_cons_zero, List.set_cons_succ]
      refine wpAnyH_ready (rs := [0, 3, 5]) (by kernel_rfl) (by simp) ?_
      refine AllReadyH.cons (o := ⟨some 14, _, _, _, _, _⟩) rfl (fun K hK => ?_) ?_
      obtain ⟨⟨kz0, kc0, kf0⟩, ⟨kz1, kc1, kf1⟩, ⟨kz2, kc2, kf2⟩, ⟨kz3, kc3, kf3⟩, _⟩ := hHeld0.2
      obtain ⟨⟨t0z0, t0c0, t0f0⟩, ⟨t0z1, t0c1, t0f1⟩, ⟨t0z2, t0c2, t0f2⟩, ⟨t0z3, t0c3, t0f3⟩, _⟩ := hT0.2
      go_simp
      refine hK.out _ _ (by first | exact hHeld0 | (first | exact hHeld | (refine ⟨by go_grown, ?_⟩; simp [Cells, go_sem]; done))) (fun hHeld1 => ?_)
      clear hK K
      try clear hb
      try simp only [Act.put, List.setIfInBounds_toArray, List.set_cons_zero, List.set_cons_succ]
      refine wpAnyH_ready (rs := [3, 5]) (by kernel_rfl) (by simp) ?_
      refine AllReadyH.cons (o := ⟨some 17, _, _, _, _, _⟩) rfl (fun K hK => ?_) ?_
      go_simp
      (first | ((with_reducible refine (IX.out _).mono ?_); rintro e w5 ⟨b5, A5, n5, c5, rfl, hb, hz5⟩; have U1 := Lib.hid (Y1.out.below (by exact ⟨hb.os, hb.tape, hb.output, hb.size, hb.block⟩)); have U2 := Lib.hid (Y2.out.below (by exact ⟨hb.os, hb.tape, hb.output, hb.size, hb.block⟩))) | ((with_reducible refine (AX.out _ _ _ U1.out hz5).mono ?_); rintro e w6 ⟨b6, A6, n6, c6, rfl, hb, hz6⟩; have V2 := Lib.hid (U2.out.below hb)) | ((with_reducible refine (IY.out _).mono ?_); rintro e w7 ⟨b7, A7, n7, c7, rfl, hb, hz7⟩; have X2 := Lib.hid (V2.out.below hb); have X1 := Lib.hid (hz6.below hb)) | ((with_reducible refine (AY.out _ _ _ X2.out hz7).mono ?_); rintro e w8 ⟨b8, A8, n8, c8, rfl, hb, hz8⟩; have X3 := Lib.hid (X1.out.below hb)))
      refine hK.out _ _ (hHeld1.next hb) (fun hHeld2 => ?_)
      replace hT0 := hT0.next hb
      clear hK K
      try clear hb
      try simp only [Act.put, List.setIfInBounds_toArray, List.set_cons_zero, List.set_cons_succ]
      refine wpAnyH_ready (rs := [4, 5]) (by kernel_rfl) (by simp) ?_
      refine AllReadyH.cons (o := ⟨some 18, _, _, _, _, _⟩) rfl (fun K hK => ?_) ?_
      go_simp
      (first | ((with_reducible refine (IX.out _).mono ?_); rintro e w5 ⟨b5, A5, n5, c5, rfl, hb, hz5⟩; have U1 := Lib.hid (Y1.out.below (by exact ⟨hb.os, hb.tape, hb.output, hb.size, hb.block⟩)); have U2 := Lib.hid (Y2.out.below (by exact ⟨hb.os, hb.tape, hb.output, hb.size, hb.block⟩))) | ((with_reducible refine (AX.out _ _ _ U1.out hz5).mono ?_); rintro e w6 ⟨b6, A6, n6, c6, rfl, hb, hz6⟩; have V2 := Lib.hid (U2.out.below hb)) | ((with_reducible refine (IY.out _).mono ?_); rintro e w7 ⟨b7, A7, n7, c7, rfl, hb, hz7⟩; have X2 := Lib.hid (V2.out.below hb); have X1 := Lib.hid (hz6.below hb)) | ((with_reducible refine (AY.out _ _ _ X2.out hz7).mono ?_); rintro e w8 ⟨b8, A8, n8, c8, rfl, hb, hz8⟩; have X3 := Lib.hid (X1.out.below hb)))
      refine hK.out _ _ (hHeld2.next hb) (fun hHeld3 => ?_)
      replace hT0 := hT0.next hb
      clear hK K
      try clear hb
      try simp only [Act.put, List.setIfInBounds_toArray, List.set_cons_zero, List.set_cons_succ]
      refine wpAnyH_ready (rs := [5, 8]) (by kernel_rfl) (by simp) ?_
      refine AllReadyH.cons (o := ⟨some 19, _, _, _, _, _⟩) rfl (fun K hK => ?_) ?_
      obtain ⟨⟨kz0, kc0, kf0⟩, ⟨kz1, kc1, kf1⟩, ⟨kz2, kc2, kf2⟩, ⟨kz3, kc3, kf3⟩, _⟩ := hHeld3.2
      obtain ⟨⟨t0z0, t0c0, t0f0⟩, ⟨t0z1, t0c1, t0f1⟩, ⟨t0z2, t0c2, t0f2⟩, ⟨t0z3, t0c3, t0f3⟩, _⟩ := hT0.2
      go_simp
      refine hK.out _ _ (by first | exact hHeld3 | (first | exact hHeld | (refine ⟨by go_grown, ?_⟩; simp [Cells, go_sem]; done))) (fun hHeld4 => ?_)
      clear hK K
      try clear hb
      try simp only [Act.put, List.setIfInBounds_toArray, List.set_cons_zero, List.set_cons_succ]
      refine wpAnyH_ready (rs := [8]) (by kernel_rfl) (by simp) ?_
      refine AllReadyH.cons (o := ⟨some 22, _, _, _, _, _⟩) rfl (fun K hK => ?_) AllReadyH.nil
      go_simp
      (first | ((with_reducible refine (IX.out _).mono ?_); rintro e w5 ⟨b5, A5, n5, c5, rfl, hb, hz5⟩; have U1 := Lib.hid (Y1.out.below (by exact ⟨hb.os, hb.tape, hb.output, hb.size, hb.block⟩)); have U2 := Lib.hid (Y2.out.below (by exact ⟨hb.os, hb.tape, hb.output, hb.size, hb.block⟩))) | ((with_reducible refine (AX.out _ _ _ U1.out hz5).mono ?_); rintro e w6 ⟨b6, A6, n6, c6, rfl, hb, hz6⟩; have V2 := Lib.hid (U2.out.below hb)) | ((with_reducible refine (IY.out _).mono ?_); rintro e w7 ⟨b7, A7, n7, c7, rfl, hb, hz7⟩; have X2 := Lib.hid (V2.out.below hb); have X1 := Lib.hid (hz6.below hb)) | ((with_reducible refine (AY.out _ _ _ X2.out hz7).mono ?_); rintro e w8 ⟨b8, A8, n8, c8, rfl, hb, hz8⟩; have X3 := Lib.hid (X1.out.below hb)))
      refine hK.out _ _ (hHeld4.next hb) (fun hHeld5 => ?_)
      replace hT0 := hT0.next hb
      clear hK K
      try clear hb
      try simp only [Act.put, List.setIfInBounds_toArray, List.set_cons_zero, List.set_cons_succ]
      refine wpAnyH_ready (rs := [9]) (by kernel_rfl) (by simp) ?_
      refine AllReadyH.cons (o := ⟨some 23, _, _, _, _, _⟩) rfl (fun K hK => ?_) AllReadyH.nil
      go_simp
      (first | ((with_reducible refine (IX.out _).mono ?_); rintro e w5 ⟨b5, A5, n5, c5, rfl, hb, hz5⟩; have U1 := Lib.hid (Y1.out.below (by exact ⟨hb.os, hb.tape, hb.output, hb.size, hb.block⟩)); have U2 := Lib.hid (Y2.out.below (by exact ⟨hb.os, hb.tape, hb.output, hb.size, hb.block⟩))) | ((with_reducible refine (AX.out _ _ _ U1.out hz5).mono ?_); rintro e w6 ⟨b6, A6, n6, c6, rfl, hb, hz6⟩; have V2 := Lib.hid (U2.out.below hb)) | ((with_reducible refine (IY.out _).mono ?_); rintro e w7 ⟨b7, A7, n7, c7, rfl, hb, hz7⟩; have X2 := Lib.hid (V2.out.below hb); have X1 := Lib.hid (hz6.below hb)) | ((with_reducible refine (AY.out _ _ _ X2.out hz7).mono ?_); rintro e w8 ⟨b8, A8, n8, c8, rfl, hb, hz8⟩; have X3 := Lib.hid (X1.out.below hb)))
      refine hK.out _ _ (hHeld5.next hb) (fun hHeld6 => ?_)
      replace hT0 := hT0.next hb
      clear hK K
      try clear hb
      try simp only [Act.put, List.setIfInBounds_toArray, List.set_cons_zero, List.set_cons_succ]
      refine wpAnyH_ready (rs := [10]) (by kernel_rfl) (by simp) ?_
      refine AllReadyH.cons (o := ⟨none, _, _, _, _, _⟩) rfl (fun K hK => ?_) AllReadyH.nil
      obtain ⟨⟨t0z0, t0c0, t0f0⟩, ⟨t0z1, t0c1, t0f1⟩, ⟨t0z2, t0c2, t0f2⟩, ⟨t0z3, t0c3, t0f3⟩, _⟩ := hT0.2; (try simp at t0z0); (try simp at t0c0); (try simp at t0f0); (try simp at t0z1); (try simp at t0c1); (try simp at t0f1); (try simp at t0z2); (try simp at t0c2); (try simp at t0f2); (try simp at t0z3); (try simp at t0c3); (try simp at t0f3)
      go_simp
      refine hK.out _ _ (by first | exact hHeld6.alloc _ | (repeat (first | (with_reducible exact hHeld6) | (refine Keeps.set ?_ (by simp <;> omega) (by simp <;> omega) _)))) (fun hHeld7 => ?_)
      clear hK K
      try clear hb
      try simp only [Act.put, List.setIfInBounds_toArray, List.set_cons_zero, List.set_cons_succ]
      refine wpAnyH_ready (rs := [11]) (by kernel_rfl) (by simp) ?_
      refine AllReadyH.cons (o := ⟨none, _, _, _, _, _⟩) rfl (fun K hK => ?_) AllReadyH.nil
      go_simp
      refine hK.out _ _ (by first | exact hHeld7.alloc _ | (repeat (first | (with_reducible exact hHeld7) | (refine Keeps.set ?_ (by simp <;> omega) (by simp <;> omega) _)))) (fun hHeld8 => ?_)
      clear hK K
      try clear hb
      try simp only [Act.put, List.setIfInBounds_toArray, List.set_cons_zero, List.set_cons_succ]
      refine wpAnyH_done (by kernel_rfl) ?_ _
      have hHeld := hHeld8
      obtain ⟨⟨kz0, kc0, kf0⟩, ⟨kz1, kc1, kf1⟩, ⟨kz2, kc2, kf2⟩, ⟨kz3, kc3, kf3⟩, _⟩ := hHeld.2
      rotate_left 1
      refine AllReadyH.cons (o := ⟨some 22, _, _, _, _, _⟩) rfl (fun K hK => ?_) ?_
      go_simp
      (first | ((with_reducible refine (IX.out _).mono ?_); rintro e w5 ⟨b5, A5, n5, c5, rfl, hb, hz5⟩; have U1 := Lib.hid (Y1.out.below (by exact ⟨hb.os, hb.tape, hb.output, hb.size, hb.block⟩)); have U2 := Lib.hid (Y2.out.below (by exact ⟨hb.os, hb.tape, hb.output, hb.size, hb.block⟩))) | ((with_reducible refine (AX.out _ _ _ U1.out hz5).mono ?_); rintro e w6 ⟨b6, A6, n6, c6, rfl, hb, hz6⟩; have V2 := Lib.hid (U2.out.below hb)) | ((with_reducible refine (IY.out _).mono ?_); rintro e w7 ⟨b7, A7, n7, c7, rfl, hb, hz7⟩; have X2 := Lib.hid (V2.out.below hb); have X1 := Lib.hid (hz6.below hb)) | ((with_reducible refine (AY.out _ _ _ X2.out hz7).mono ?_); rintro e w8 ⟨b8, A8, n8, c8, rfl, hb, hz8⟩; have X3 := Lib.hid (X1.out.below hb)))
      refine hK.out _ _ (hHeld3.next hb) (fun hHeld9 => ?_)
      replace hT0 := hT0.next hb
      clear hK K
      try clear hb
      try simp only [Act.put, List.setIfInBounds_toArray, List.set_cons_zero, List.set_cons_succ]
      refine wpAnyH_ready (rs := [5]) (by kernel_rfl) (by simp) ?_
      refine AllReadyH.cons (o := ⟨some 19, _, _, _, _, _⟩) rfl (fun K hK => ?_) AllReadyH.nil
      obtain ⟨⟨kz0, kc0, kf0⟩, ⟨kz1, kc1, kf1⟩, ⟨kz2, kc2, kf2⟩, ⟨kz3, kc3, kf3⟩, _⟩ := hHeld9.2
      obtain ⟨⟨t0z0, t0c0, t0f0⟩, ⟨t0z1, t0c1, t0f1⟩, ⟨t0z2, t0c2, t0f2⟩, ⟨t0z3, t0c3, t0f3⟩, _⟩ := hT0.2
      go_simp
      refine hK.out _ _ (by first | exact hHeld9 | (first | exact hHeld | (refine ⟨by go_grown, ?_⟩; simp [Cells, go_sem]; done))) (fun hHeld10 => ?_)
      clear hK K
      try clear hb
      try simp only [Act.put, List.setIfInBounds_toArray, List.set_cons_zero, List.set_cons_succ]
      refine wpAnyH_ready (rs := [9]) (by kernel_rfl) (by simp) ?_
      refine AllReadyH.cons (o := ⟨some 23, _, _, _, _, _⟩) rfl (fun K hK => ?_) AllReadyH.nil
      go_simp
      (first | ((with_reducible refine (IX.out _).mono ?_); rintro e w5 ⟨b5, A5, n5, c5, rfl, hb, hz5⟩; have U1 := Lib.hid (Y1.out.below (by exact ⟨hb.os, hb.tape, hb.output, hb.size, hb.block⟩)); have U2 := Lib.hid (Y2.out.below (by exact ⟨hb.os, hb.tape, hb.output, hb.size, hb.block⟩))) | ((with_reducible refine (AX.out _ _ _ U1.out hz5).mono ?_); rintro e w6 ⟨b6, A6, n6, c6, rfl, hb, hz6⟩; have V2 := Lib.hid (U2.out.below hb)) | ((with_reducible refine (IY.out _).mono ?_); rintro e w7 ⟨b7, A7, n7, c7, rfl, hb, hz7⟩; have X2 := Lib.hid (V2.out.below hb); have X1 := Lib.hid (hz6.below hb)) | ((with_reducible refine (AY.out _ _ _ X2.out hz7).mono ?_); rintro e w8 ⟨b8, A8, n8, c8, rfl, hb, hz8⟩; have X3 := Lib.hid (X1.out.below hb)))
      refine hK.out _ _ (hHeld10.next hb) (fun hHeld11 => ?_)
      replace hT0 := hT0.next hb
      clear hK K
      try clear hb
      try simp only [Act.put, List.setIfInBounds_toArray, List.set_cons_zero, List.set_cons_succ]
      refine wpAnyH_ready (rs := [10]) (by kernel_rfl) (by simp) ?_
      refine AllReadyH.cons (o := ⟨none, _, _, _, _, _⟩) rfl (fun K hK => ?_) AllReadyH.nil
      obtain ⟨⟨t0z0, t0c0, t0f0⟩, ⟨t0z1, t0c1, t0f1⟩, ⟨t0z2, t0c2, t0f2⟩, ⟨t0z3, t0c3, t0f3⟩, _⟩ := hT0.2; (try simp at t0z0); (try simp at t0c0); (try simp at t0f0); (try simp at t0z1); (try simp at t0c1); (try simp at t0f1); (try simp at t0z2); (try simp at t0c2); (try simp at t0f2); (try simp at t0z3); (try simp at t0c3); (try simp at t0f3)
      go_simp
      refine hK.out _ _ (by first | exact hHeld11.alloc _ | (repeat (first | (with_reducible exact hHeld11) | (refine Keeps.set ?_ (by simp <;> omega) (by simp <;> omega) _)))) (fun hHeld12 => ?_)
      clear hK K
      try clear hb
      try simp only [Act.put, List.setIfInBounds_toArray, List.set_cons_zero, List.set_cons_succ]
      refine wpAnyH_ready (rs := [11]) (by kernel_rfl) (by simp) ?_
      refine AllReadyH.cons (o := ⟨none, _, _, _, _, _⟩) rfl (fun K hK => ?_) AllReadyH.nil
      go_simp
      refine hK.out _ _ (by first | exact hHeld12.alloc _ | (repeat (first | (with_reducible exact hHeld12) | (refine Keeps.set ?_ (by simp <;> omega) (by simp <;> omega) _)))) (fun hHeld13 => ?_)
      clear hK K
      try clear hb
      try simp only [Act.put, List.setIfInBounds_toArray, List.set_cons_zero, List.set_cons_succ]
      refine wpAnyH_done (by kernel_rfl) ?_ _
      have hHeld := hHeld13
      obtain ⟨⟨kz0, kc0, kf0⟩, ⟨kz1, kc1, kf1⟩, ⟨kz2, kc2, kf2⟩, ⟨kz3, kc3, kf3⟩, _⟩ := hHeld.2
      rotate_left 1
      exact AllReadyH.nil
      refine AllReadyH.cons (o := ⟨some 19, _, _, _, _, _⟩) rfl (fun K hK => ?_) ?_
      obtain ⟨⟨kz0, kc0, kf0⟩, ⟨kz1, kc1, kf1⟩, ⟨kz2, kc2, kf2⟩, ⟨kz3, kc3, kf3⟩, _⟩ := hHeld2.2
      obtain ⟨⟨t0z0, t0c0, t0f0⟩, ⟨t0z1, t0c1, t0f1⟩, ⟨t0z2, t0c2, t0f2⟩, ⟨t0z3, t0c3, t0f3⟩, _⟩ := hT0.2
      go_simp
      refine hK.out _ _ (by first | exact hHeld2 | (first | exact hHeld | (refine ⟨by go_grown, ?_⟩; simp [Cells, go_sem]; done))) (fun hHeld14 => ?_)
      clear hK K
      try clear hb
      try simp only [Act.put, List.setIfInBounds_toArray, List.set_cons_zero, List.set_cons_succ]
      refine wpAnyH_ready (rs := [4]) (by kernel_rfl) (by simp) ?_
      refine AllReadyH.cons (o := ⟨some 18, _, _, _, _, _⟩) rfl (fun K hK => ?_) AllReadyH.nil
      go_simp
      (first | ((with_reducible refine (IX.out _).mono ?_); rintro e w5 ⟨b5, A5, n5, c5, rfl, hb, hz5⟩; have U1 := Lib.hid (Y1.out.below (by exact ⟨hb.os, hb.tape, hb.output, hb.size, hb.block⟩)); have U2 := Lib.hid (Y2.out.below (by exact ⟨hb.os, hb.tape, hb.output, hb.size, hb.block⟩))) | ((with_reducible refine (AX.out _ _ _ U1.out hz5).mono ?_); rintro e w6 ⟨b6, A6, n6, c6, rfl, hb, hz6⟩; have V2 := Lib.hid (U2.out.below hb)) | ((with_reducible refine (IY.out _).mono ?_); rintro e w7 ⟨b7, A7, n7, c7, rfl, hb, hz7⟩; have X2 := Lib.hid (V2.out.below hb); have X1 := Lib.hid (hz6.below hb)) | ((with_reducible refine (AY.out _ _ _ X2.out hz7).mono ?_); rintro e w8 ⟨b8, A8, n8, c8, rfl, hb, hz8⟩; have X3 := Lib.hid (X1.out.below hb)))
      refine hK.out _ _ (hHeld14.next hb) (fun hHeld15 => ?_)
      replace hT0 := hT0.next hb
      clear hK K
      try clear hb
      try simp only [Act.put, List.setIfInBounds_toArray, List.set_cons_zero, List.set_cons_succ]
      refine wpAnyH_ready (rs := [8]) (by kernel_rfl) (by simp) ?_
      refine AllReadyH.cons (o := ⟨some 22, _, _, _, _, _⟩) rfl (fun K hK => ?_) AllReadyH.nil
      go_simp
      (first | ((with_reducible refine (IX.out _).mono ?_); rintro e w5 ⟨b5, A5, n5, c5, rfl, hb, hz5⟩; have U1 := Lib.hid (Y1.out.below (by exact ⟨hb.os, hb.tape, hb.output, hb.size, hb.block⟩)); have U2 := Lib.hid (Y2.out.below (by exact ⟨hb.os, hb.tape, hb.output, hb.size, hb.block⟩))) | ((with_reducible refine (AX.out _ _ _ U1.out hz5).mono ?_); rintro e w6 ⟨b6, A6, n6, c6, rfl, hb, hz6⟩; have V2 := Lib.hid (U2.out.below hb)) | ((with_reducible refine (IY.out _).mono ?_); rintro e w7 ⟨b7, A7, n7, c7, rfl, hb, hz7⟩; have X2 := Lib.hid (V2.out.below hb); have X1 := Lib.hid (hz6.below hb)) | ((with_reducible refine (AY.out _ _ _ X2.out hz7).mono ?_); rintro e w8 ⟨b8, A8, n8, c8, rfl, hb, hz8⟩; have X3 := Lib.hid (X1.out.below hb)))
      refine hK.out _ _ (hHeld15.next hb) (fun hHeld16 => ?_)
      replace hT0 := hT0.next hb
      clear hK K
      try clear hb
      try simp only [Act.put, List.setIfInBounds_toArray, List.set_cons_zero, List.set_cons_succ]
      refine wpAnyH_ready (rs := [9]) (by kernel_rfl) (by simp) ?_
      refine AllReadyH.cons (o := ⟨some 23, _, _, _, _, _⟩) rfl (fun K hK => ?_) AllReadyH.nil
      go_simp
      (first | ((with_reducible refine (IX.out _).mono ?_); rintro e w5 ⟨b5, A5, n5, c5, rfl, hb, hz5⟩; have U1 := Lib.hid (Y1.out.below (by exact ⟨hb.os, hb.tape, hb.output, hb.size, hb.block⟩)); have U2 := Lib.hid (Y2.out.below (by exact ⟨hb.os, hb.tape, hb.output, hb.size, hb.block⟩))) | ((with_reducible refine (AX.out _ _ _ U1.out hz5).mono ?_); rintro e w6 ⟨b6, A6, n6, c6, rfl, hb, hz6⟩; have V2 := Lib.hid (U2.out.below hb)) | ((with_reducible refine (IY.out _).mono ?_); rintro e w7 ⟨b7, A7, n7, c7, rfl, hb, hz7⟩; have X2 := Lib.hid (V2.out.below hb); have X1 := Lib.hid (hz6.below hb)) | ((with_reducible refine (AY.out _ _ _ X2.out hz7).mono ?_); rintro e w8 ⟨b8, A8, n8, c8, rfl, hb, hz8⟩; have X3 := Lib.hid (X1.out.below hb)))
      refine hK.out _ _ (hHeld16.next hb) (fun hHeld17 => ?_)
      replace hT0 := hT0.next hb
      clear hK K
      try clear hb
      try simp only [Act.put, List.setIfInBounds_toArray, List.set_cons_zero, List.set_cons_succ]
      refine wpAnyH_ready (rs := [10]) (by kernel_rfl) (by simp) ?_
      refine AllReadyH.cons (o := ⟨none, _, _, _, _, _⟩) rfl (fun K hK => ?_) AllReadyH.nil
      obtain ⟨⟨t0z0, t0c0, t0f0⟩, ⟨t0z1, t0c1, t0f1⟩, ⟨t0z2, t0c2, t0f2⟩, ⟨t0z3, t0c3, t0f3⟩, _⟩ := hT0.2; (try simp at t0z0); (try simp at t0c0); (try simp at t0f0); (try simp at t0z1); (try simp at t0c1); (try simp at t0f1); (try simp at t0z2); (try simp at t0c2); (try simp at t0f2); (try simp at t0z3); (try simp at t0c3); (try simp at t0f3)
      go_simp
      refine hK.out _ _ (by first | exact hHeld17.alloc _ | (repeat (first | (with_reducible exact hHeld17) | (refine Keeps.set ?_ (by simp <;> omega) (by simp <;> omega) _)))) (fun hHeld18 => ?_)
      clear hK K
      try clear hb
      try simp only [Act.put, List.setIfInBounds_toArray, List.set_cons_zero, List.set_cons_succ]
      refine wpAnyH_ready (rs := [11]) (by kernel_rfl) (by simp) ?_
      refine AllReadyH.cons (o := ⟨none, _, _, _, _, _⟩) rfl (fun K hK => ?_) AllReadyH.nil
      go_simp
      refine hK.out _ _ (by first | exact hHeld18.alloc _ | (repeat (first | (with_reducible exact hHeld18) | (refine Keeps.set ?_ (by simp <;> omega) (by simp <;> omega) _)))) (fun hHeld19 => ?_)
      clear hK K
      try clear hb
      try simp only [Act.put, List.setIfInBounds_toArray, List.set_cons_zero, List.set_cons_succ]
      refine wpAnyH_done (by kernel_rfl) ?_ _
      have hHeld := hHeld19
      obtain ⟨⟨kz0, kc0, kf0⟩, ⟨kz1, kc1, kf1⟩, ⟨kz2, kc2, kf2⟩, ⟨kz3, kc3, kf3⟩, _⟩ := hHeld.2
      rotate_left 1
      exact AllReadyH.nil
      refine AllReadyH.cons (o := ⟨some 19, _, _, _, _, _⟩) rfl (fun K hK => ?_) ?_
      obtain ⟨⟨kz0, kc0, kf0⟩, ⟨kz1, kc1, kf1⟩, ⟨kz2, kc2, kf2⟩, ⟨kz3, kc3, kf3⟩, _⟩ := hHeld1.2
      obtain ⟨⟨t0z0, t0c0, t0f0⟩, ⟨t0z1, t0c1, t0f1⟩, ⟨t0z2, t0c2, t0f2⟩, ⟨t0z3, t0c3, t0f3⟩, _⟩ := hT0.2
      go_simp
      refine hK.out _ _ (by first | exact hHeld1 | (first | exact hHeld | (refine ⟨by go_grown, ?_⟩; simp [Cells, go_sem]; done))) (fun hHeld20 => ?_)
      clear hK K
      try clear hb
      try simp only [Act.put, List.setIfInBounds_toArray, List.set_cons_zero, List.set_cons_succ]
      refine wpAnyH_ready (rs := [3]) (by kernel_rfl) (by simp) ?_
      refine AllReadyH.cons (o := ⟨some 17, _, _, _, _, _⟩) rfl (fun K hK => ?_) AllReadyH.nil
      go_simp
      (first | ((with_reducible refine (IX.out _).mono ?_); rintro e w5 ⟨b5, A5, n5, c5, rfl, hb, hz5⟩; have U1 := Lib.hid (Y1.out.below (by exact ⟨hb.os, hb.tape, hb.output, hb.size, hb.block⟩)); have U2 := Lib.hid (Y2.out.below (by exact ⟨hb.os, hb.tape, hb.output, hb.size, hb.block⟩))) | ((with_reducible refine (AX.out _ _ _ U1.out hz5).mono ?_); rintro e w6 ⟨b6, A6, n6, c6, rfl, hb, hz6⟩; have V2 := Lib.hid (U2.out.below hb)) | ((with_reducible refine (IY.out _).mono ?_); rintro e w7 ⟨b7, A7, n7, c7, rfl, hb, hz7⟩; have X2 := Lib.hid (V2.out.below hb); have X1 := Lib.hid (hz6.below hb)) | ((with_reducible refine (AY.out _ _ _ X2.out hz7).mono ?_); rintro e w8 ⟨b8, A8, n8, c8, rfl, hb, hz8⟩; have X3 := Lib.hid (X1.out.below hb)))
      refine hK.out _ _ (hHeld20.next hb) (fun hHeld21 => ?_)
      replace hT0 := hT0.next hb
      clear hK K
      try clear hb
      try simp only [Act.put, List.setIfInBounds_toArray, List.set_cons_zero, List.set_cons_succ]
      refine wpAnyH_ready (rs := [4]) (by kernel_rfl) (by simp) ?_
      refine AllReadyH.cons (o := ⟨some 18, _, _, _, _, _⟩) rfl (fun K hK => ?_) AllReadyH.nil
      go_simp
      (first | ((with_reducible refine (IX.out _).mono ?_); rintro e w5 ⟨b5, A5, n5, c5, rfl, hb, hz5⟩; have U1 := Lib.hid (Y1.out.below (by exact ⟨hb.os, hb.tape, hb.output, hb.size, hb.block⟩)); have U2 := Lib.hid (Y2.out.below (by exact ⟨hb.os, hb.tape, hb.output, hb.size, hb.block⟩))) | ((with_reducible refine (AX.out _ _ _ U1.out hz5).mono ?_); rintro e w6 ⟨b6, A6, n6, c6, rfl, hb, hz6⟩; have V2 := Lib.hid (U2.out.below hb)) | ((with_reducible refine (IY.out _).mono ?_); rintro e w7 ⟨b7, A7, n7, c7, rfl, hb, hz7⟩; have X2 := Lib.hid (V2.out.below hb); have X1 := Lib.hid (hz6.below hb)) | ((with_reducible refine (AY.out _ _ _ X2.out hz7).mono ?_); rintro e w8 ⟨b8, A8, n8, c8, rfl, hb, hz8⟩; have X3 := Lib.hid (X1.out.below hb)))
      refine hK.out _ _ (hHeld21.next hb) (fun hHeld22 => ?_)
      replace hT0 := hT0.next hb
      clear hK K
      try clear hb
      try simp only [Act.put, List.setIfInBounds_toArray, List.set_cons_zero, List.set_cons_succ]
      refine wpAnyH_ready (rs := [8]) (by kernel_rfl) (by simp) ?_
      refine AllReadyH.cons (o := ⟨some 22, _, _, _, _, _⟩) rfl (fun K hK => ?_) AllReadyH.nil
      go_simp
      (first | ((with_reducible refine (IX.out _).mono ?_); rintro e w5 ⟨b5, A5, n5, c5, rfl, hb, hz5⟩; have U1 := Lib.hid (Y1.out.below (by exact ⟨hb.os, hb.tape, hb.output, hb.size, hb.block⟩)); have U2 := Lib.hid (Y2.out.below (by exact ⟨hb.os, hb.tape, hb.output, hb.size, hb.block⟩))) | ((with_reducible refine (AX.out _ _ _ U1.out hz5).mono ?_); rintro e w6 ⟨b6, A6, n6, c6, rfl, hb, hz6⟩; have V2 := Lib.hid (U2.out.below hb)) | ((with_reducible refine (IY.out _).mono ?_); rintro e w7 ⟨b7, A7, n7, c7, rfl, hb, hz7⟩; have X2 := Lib.hid (V2.out.below hb); have X1 := Lib.hid (hz6.below hb)) | ((with_reducible refine (AY.out _ _ _ X2.out hz7).mono ?_); rintro e w8 ⟨b8, A8, n8, c8, rfl, hb, hz8⟩; have X3 := Lib.hid (X1.out.below hb)))
      refine hK.out _ _ (hHeld22.next hb) (fun hHeld23 => ?_)
      replace hT0 := hT0.next hb
      clear hK K
      try clear hb
      try simp only [Act.put, List.setIfInBounds_toArray, List.set_cons_zero, List.set_cons_succ]
      refine wpAnyH_ready (rs := [9]) (by kernel_rfl) (by simp) ?_
      refine AllReadyH.cons (o := ⟨some 23, _, _, _, _, _⟩) rfl (fun K hK => ?_) AllReadyH.nil
      go_simp
      (first | ((with_reducible refine (IX.out _).mono ?_); rintro e w5 ⟨b5, A5, n5, c5, rfl, hb, hz5⟩; have U1 := Lib.hid (Y1.out.below (by exact ⟨hb.os, hb.tape, hb.output, hb.size, hb.block⟩)); have U2 := Lib.hid (Y2.out.below (by exact ⟨hb.os, hb.tape, hb.output, hb.size, hb.block⟩))) | ((with_reducible refine (AX.out _ _ _ U1.out hz5).mono ?_); rintro e w6 ⟨b6, A6, n6, c6, rfl, hb, hz6⟩; have V2 := Lib.hid (U2.out.below hb)) | ((with_reducible refine (IY.out _).mono ?_); rintro e w7 ⟨b7, A7, n7, c7, rfl, hb, hz7⟩; have X2 := Lib.hid (V2.out.below hb); have X1 := Lib.hid (hz6.below hb)) | ((with_reducible refine (AY.out _ _ _ X2.out hz7).mono ?_); rintro e w8 ⟨b8, A8, n8, c8, rfl, hb, hz8⟩; have X3 := Lib.hid (X1.out.below hb)))
      refine hK.out _ _ (hHeld23.next hb) (fun hHeld24 => ?_)
      replace hT0 := hT0.next hb
      clear hK K
      try clear hb
      try simp only [Act.put, List.setIfInBounds_toArray, List.set_cons_zero, List.set_cons_succ]
      refine wpAnyH_ready (rs := [10]) (by kernel_rfl) (by simp) ?_
      refine AllReadyH.cons (o := ⟨none, _, _, _, _, _⟩) rfl (fun K hK => ?_) AllReadyH.nil
      obtain ⟨⟨t0z0, t0c0, t0f0⟩, ⟨t0z1, t0c1, t0f1⟩, ⟨t0z2, t0c2, t0f2⟩, ⟨t0z3, t0c3, t0f3⟩, _⟩ := hT0.2; (try simp at t0z0); (try simp at t0c0); (try simp at t0f0); (try simp at t0z1); (try simp at t0c1); (try simp at t0f1); (try simp at t0z2); (try simp at t0c2); (try simp at t0f2); (try simp at t0z3); (try simp at t0c3); (try simp at t0f3)
      go_simp
      refine hK.out _ _ (by first | exact hHeld24.alloc _ | (repeat (first | (with_reducible exact hHeld24) | (refine Keeps.set ?_ (by simp <;> omega) (by simp <;> omega) _)))) (fun hHeld25 => ?_)
      clear hK K
      try clear hb
      try simp only [Act.put, List.setIfInBounds_toArray, List.set_cons_zero, List.set_cons_succ]
      refine wpAnyH_ready (rs := [11]) (by kernel_rfl) (by simp) ?_
      refine AllReadyH.cons (o := ⟨none, _, _, _, _, _⟩) rfl (fun K hK => ?_) AllReadyH.nil
      go_simp
      refine hK.out _ _ (by first | exact hHeld25.alloc _ | (repeat (first | (with_reducible exact hHeld25) | (refine Keeps.set ?_ (by simp <;> omega) (by simp <;> omega) _)))) (fun hHeld26 => ?_)
      clear hK K
      try clear hb
      try simp only [Act.put, List.setIfInBounds_toArray, List.set_cons_zero, List.set_cons_succ]
      refine wpAnyH_done (by kernel_rfl) ?_ _
      have hHeld := hHeld26
      obtain ⟨⟨kz0, kc0, kf0⟩, ⟨kz1, kc1, kf1⟩, ⟨kz2, kc2, kf2⟩, ⟨kz3, kc3, kf3⟩, _⟩ := hHeld.2
      rotate_left 1
      exact AllReadyH.nil
      refine AllReadyH.cons (o := ⟨some 17, _, _, _, _, _⟩) rfl (fun K hK => ?_) ?_
      go_simp
      (first | ((with_reducible refine (IX.out _).mono ?_); rintro e w5 ⟨b5, A5, n5, c5, rfl, hb, hz5⟩; have U1 := Lib.hid (Y1.out.below (by exact ⟨hb.os, hb.tape, hb.output, hb.size, hb.block⟩)); have U2 := Lib.hid (Y2.out.below (by exact ⟨hb.os, hb.tape, hb.output, hb.size, hb.block⟩))) | ((with_reducible refine (AX.out _ _ _ U1.out hz5).mono ?_); rintro e w6 ⟨b6, A6, n6, c6, rfl, hb, hz6⟩; have V2 := Lib.hid (U2.out.below hb)) | ((with_reducible refine (IY.out _).mono ?_); rintro e w7 ⟨b7, A7, n7, c7, rfl, hb, hz7⟩; have X2 := Lib.hid (V2.out.below hb); have X1 := Lib.hid (hz6.below hb)) | ((with_reducible refine (AY.out _ _ _ X2.out hz7).mono ?_); rintro e w8 ⟨b8, A8, n8, c8, rfl, hb, hz8⟩; have X3 := Lib.hid (X1.out.below hb)))
      refine hK.out _ _ (hHeld0.next hb) (fun hHeld27 => ?_)
      replace hT0 := hT0.next hb
      clear hK K
      try clear hb
      try simp only [Act.put, List.setIfInBounds_toArray, List.set_cons_zero, List.set_cons_succ]
      refine wpAnyH_ready (rs := [0, 5]) (by kernel_rfl) (by simp) ?_
      refine AllReadyH.cons (o := ⟨some 14, _, _, _, _, _⟩) rfl (fun K hK => ?_) ?_
      obtain ⟨⟨kz0, kc0, kf0⟩, ⟨kz1, kc1, kf1⟩, ⟨kz2, kc2, kf2⟩, ⟨kz3, kc3, kf3⟩, _⟩ := hHeld27.2
      obtain ⟨⟨t0z0, t0c0, t0f0⟩, ⟨t0z1, t0c1, t0f1⟩, ⟨t0z2, t0c2, t0f2⟩, ⟨t0z3, t0c3, t0f3⟩, _⟩ := hT0.2
      go_simp
      refine hK.out _ _ (by first | exact hHeld27 | (first | exact hHeld | (refine ⟨by go_grown, ?_⟩; simp [Cells, go_sem]; done))) (fun hHeld28 => ?_)
      clear hK K
      try clear hb
      try simp only [Act.put, List.setIfInBounds_toArray, List.set_cons_zero, List.set_cons_succ]
      refine wpAnyH_ready (rs := [4, 5]) (by kernel_rfl) (by simp) ?_
      refine AllReadyH.cons (o := ⟨some 18, _, _, _, _, _⟩) rfl (fun K hK => ?_) ?_
      go_simp
      (first | ((with_reducible refine (IX.out _).mono ?_); rintro e w5 ⟨b5, A5, n5, c5, rfl, hb, hz5⟩; have U1 := Lib.hid (Y1.out.below (by exact ⟨hb.os, hb.tape, hb.output, hb.size, hb.block⟩)); have U2 := Lib.hid (Y2.out.below (by exact ⟨hb.os, hb.tape, hb.output, hb.size, hb.block⟩))) | ((with_reducible refine (AX.out _ _ _ U1.out hz5).mono ?_); rintro e w6 ⟨b6, A6, n6, c6, rfl, hb, hz6⟩; have V2 := Lib.hid (U2.out.below hb)) | ((with_reducible refine (IY.out _).mono ?_); rintro e w7 ⟨b7, A7, n7, c7, rfl, hb, hz7⟩; have X2 := Lib.hid (V2.out.below hb); have X1 := Lib.hid (hz6.below hb)) | ((with_reducible refine (AY.out _ _ _ X2.out hz7).mono ?_); rintro e w8 ⟨b8, A8, n8, c8, rfl, hb, hz8⟩; have X3 := Lib.hid (X1.out.below hb)))
      refine hK.out _ _ (hHeld28.next hb) (fun hHeld29 => ?_)
      replace hT0 := hT0.next hb
      clear hK K
      try clear hb
      try simp only [Act.put, List.setIfInBounds_toArray, List.set_cons_zero, List.set_cons_succ]
      refine wpAnyH_ready (rs := [5, 8]) (by kernel_rfl) (by simp) ?_
      refine AllReadyH.cons (o := ⟨some 19, _, _, _, _, _⟩) rfl (fun K hK => ?_) ?_
      obtain ⟨⟨kz0, kc0, kf0⟩, ⟨kz1, kc1, kf1⟩, ⟨kz2, kc2, kf2⟩, ⟨kz3, kc3, kf3⟩, _⟩ := hHeld29.2
      obtain ⟨⟨t0z0, t0c0, t0f0⟩, ⟨t0z1, t0c1, t0f1⟩, ⟨t0z2, t0c2, t0f2⟩, ⟨t0z3, t0c3, t0f3⟩, _⟩ := hT0.2
      go_simp
      refine hK.out _ _ (by first | exact hHeld29 | (first | exact hHeld | (refine ⟨by go_grown, ?_⟩; simp [Cells, go_sem]; done))) (fun hHeld30 => ?_)
      clear hK K
      try clear hb
      try simp only [Act.put, List.setIfInBounds_toArray, List.set_cons_zero, List.set_cons_succ]
      refine wpAnyH_ready (rs := [8]) (by kernel_rfl) (by simp) ?_
      refine AllReadyH.cons (o := ⟨some 22, _, _, _, _, _⟩) rfl (fun K hK => ?_) AllReadyH.nil
      go_simp
      (first | ((with_reducible refine (IX.out _).mono ?_); rintro e w5 ⟨b5, A5, n5, c5, rfl, hb, hz5⟩; have U1 := Lib.hid (Y1.out.below (by exact ⟨hb.os, hb.tape, hb.output, hb.size, hb.block⟩)); have U2 := Lib.hid (Y2.out.below (by exact ⟨hb.os, hb.tape, hb.output, hb.size, hb.block⟩))) | ((with_reducible refine (AX.out _ _ _ U1.out hz5).mono ?_); rintro e w6 ⟨b6, A6, n6, c6, rfl, hb, hz6⟩; have V2 := Lib.hid (U2.out.below hb)) | ((with_reducible refine (IY.out _).mono ?_); rintro e w7 ⟨b7, A7, n7, c7, rfl, hb, hz7⟩; have X2 := Lib.hid (V2.out.below hb); have X1 := Lib.hid (hz6.below hb)) | ((with_reducible refine (AY.out _ _ _ X2.out hz7).mono ?_); rintro e w8 ⟨b8, A8, n8, c8, rfl, hb, hz8⟩; have X3 := Lib.hid (X1.out.below hb)))
      refine hK.out _ _ (hHeld30.next hb) (fun hHeld31 => ?_)
      replace hT0 := hT0.next hb
      clear hK K
      try clear hb
      try simp only [Act.put, List.setIfInBounds_toArray, List.set_cons_zero, List.set_cons_succ]
      refine wpAnyH_ready (rs := [9]) (by kernel_rfl) (by simp) ?_
      refine AllReadyH.cons (o := ⟨some 23, _, _, _, _, _⟩) rfl (fun K hK => ?_) AllReadyH.nil
      go_simp
      (first | ((with_reducible refine (IX.out _).mono ?_); rintro e w5 ⟨b5, A5, n5, c5, rfl, hb, hz5⟩; have U1 := Lib.hid (Y1.out.below (by exact ⟨hb.os, hb.tape, hb.output, hb.size, hb.block⟩)); have U2 := Lib.hid (Y2.out.below (by exact ⟨hb.os, hb.tape, hb.output, hb.size, hb.block⟩))) | ((with_reducible refine (AX.out _ _ _ U1.out hz5).mono ?_); rintro e w6 ⟨b6, A6, n6, c6, rfl, hb, hz6⟩; have V2 := Lib.hid (U2.out.below hb)) | ((with_reducible refine (IY.out _).mono ?_); rintro e w7 ⟨b7, A7, n7, c7, rfl, hb, hz7⟩; have X2 := Lib.hid (V2.out.below hb); have X1 := Lib.hid (hz6.below hb)) | ((with_reducible refine (AY.out _ _ _ X2.out hz7).mono ?_); rintro e w8 ⟨b8, A8, n8, c8, rfl, hb, hz8⟩; have X3 := Lib.hid (X1.out.below hb)))
      refine hK.out _ _ (hHeld31.next hb) (fun hHeld32 => ?_)
      replace hT0 := hT0.next hb
      clear hK K
      try clear hb
      try simp only [Act.put, List.setIfInBounds_toArray, List.set_cons_zero, List.set_cons_succ]
      refine wpAnyH_ready (rs := [10]) (by kernel_rfl) (by simp) ?_
      refine AllReadyH.cons (o := ⟨none, _, _, _, _, _⟩) rfl (fun K hK => ?_) AllReadyH.nil
      obtain ⟨⟨t0z0, t0c0, t0f0⟩, ⟨t0z1, t0c1, t0f1⟩, ⟨t0z2, t0c2, t0f2⟩, ⟨t0z3, t0c3, t0f3⟩, _⟩ := hT0.2; (try simp at t0z0); (try simp at t0c0); (try simp at t0f0); (try simp at t0z1); (try simp at t0c1); (try simp at t0f1); (try simp at t0z2); (try simp at t0c2); (try simp at t0f2); (try simp at t0z3); (try simp at t0c3); (try simp at t0f3)
      go_simp
      refine hK.out _ _ (by first | exact hHeld32.alloc _ | (repeat (first | (with_reducible exact hHeld32) | (refine Keeps.set ?_ (by simp <;> omega) (by simp <;> omega) _)))) (fun hHeld33 => ?_)
      clear hK K
      try clear hb
      try simp only [Act.put, List.setIfInBounds_toArray, List.set_cons_zero, List.set_cons_succ]
      refine wpAnyH_ready (rs := [11]) (by kernel_rfl) (by simp) ?_
      refine AllReadyH.cons (o := ⟨none, _, _, _, _, _⟩) rfl (fun K hK => ?_) AllReadyH.nil
      go_simp
      refine hK.out _ _ (by first | exact hHeld33.alloc _ | (repeat (first | (with_reducible exact hHeld33) | (refine Keeps.set ?_ (by simp <;> omega) (by simp <;> omega) _)))) (fun hHeld34 => ?_)
      clear hK K
      try clear hb
      try simp only [Act.put, List.setIfInBounds_toArray, List.set_cons_zero, List.set_cons_succ]
      refine wpAnyH_done (by kernel_rfl) ?_ _
      have hHeld := hHeld34
      obtain ⟨⟨kz0, kc0, kf0⟩, ⟨kz1, kc1, kf1⟩, ⟨kz2, kc2, kf2⟩, ⟨kz3, kc3, kf3⟩, _⟩ := hHeld.2
      rotate_left 1
      refine AllReadyH.cons (o := ⟨some 22, _, _, _, _, _⟩) rfl (fun K hK => ?_) ?_
      go_simp
      (first | ((with_reducible refine (IX.out _).mono ?_); rintro e w5 ⟨b5, A5, n5, c5, rfl, hb, hz5⟩; have U1 := Lib.hid (Y1.out.below (by exact ⟨hb.os, hb.tape, hb.output, hb.size, hb.block⟩)); have U2 := Lib.hid (Y2.out.below (by exact ⟨hb.os, hb.tape, hb.output, hb.size, hb.block⟩))) | ((with_reducible refine (AX.out _ _ _ U1.out hz5).mono ?_); rintro e w6 ⟨b6, A6, n6, c6, rfl, hb, hz6⟩; have V2 := Lib.hid (U2.out.below hb)) | ((with_reducible refine (IY.out _).mono ?_); rintro e w7 ⟨b7, A7, n7, c7, rfl, hb, hz7⟩; have X2 := Lib.hid (V2.out.below hb); have X1 := Lib.hid (hz6.below hb)) | ((with_reducible refine (AY.out _ _ _ X2.out hz7).mono ?_); rintro e w8 ⟨b8, A8, n8, c8, rfl, hb, hz8⟩; have X3 := Lib.hid (X1.out.below hb)))
      refine hK.out _ _ (hHeld29.next hb) (fun hHeld35 => ?_)
      replace hT0 := hT0.next hb
      clear hK K
      try clear hb
      try simp only [Act.put, List.setIfInBounds_toArray, List.set_cons_zero, List.set_cons_succ]
      refine wpAnyH_ready (rs := [5]) (by kernel_rfl) (by simp) ?_
      refine AllReadyH.cons (o := ⟨some 19, _, _, _, _, _⟩) rfl (fun K hK => ?_) AllReadyH.nil
      obtain ⟨⟨kz0, kc0, kf0⟩, ⟨kz1, kc1, kf1⟩, ⟨kz2, kc2, kf2⟩, ⟨kz3, kc3, kf3⟩, _⟩ := hHeld35.2
      obtain ⟨⟨t0z0, t0c0, t0f0⟩, ⟨t0z1, t0c1, t0f1⟩, ⟨t0z2, t0c2, t0f2⟩, ⟨t0z3, t0c3, t0f3⟩, _⟩ := hT0.2
      go_simp
      refine hK.out _ _ (by first | exact hHeld35 | (first | exact hHeld | (refine ⟨by go_grown, ?_⟩; simp [Cells, go_sem]; done))) (fun hHeld36 => ?_)
      clear hK K
      try clear hb
      try simp only [Act.put, List.setIfInBounds_toArray, List.set_cons_zero, List.set_cons_succ]
      refine wpAnyH_ready (rs := [9]) (by kernel_rfl) (by simp) ?_
      refine AllReadyH.cons (o := ⟨some 23, _, _, _, _, _⟩) rfl (fun K hK => ?_) AllReadyH.nil
      go_simp
      (first | ((with_reducible refine (IX.out _).mono ?_); rintro e w5 ⟨b5, A5, n5, c5, rfl, hb, hz5⟩; have U1 := Lib.hid (Y1.out.below (by exact ⟨hb.os, hb.tape, hb.output, hb.size, hb.block⟩)); have U2 := Lib.hid (Y2.out.below (by exact ⟨hb.os, hb.tape, hb.output, hb.size, hb.block⟩))) | ((with_reducible refine (AX.out _ _ _ U1.out hz5).mono ?_); rintro e w6 ⟨b6, A6, n6, c6, rfl, hb, hz6⟩; have V2 := Lib.hid (U2.out.below hb)) | ((with_reducible refine (IY.out _).mono ?_); rintro e w7 ⟨b7, A7, n7, c7, rfl, hb, hz7⟩; have X2 := Lib.hid (V2.out.below hb); have X1 := Lib.hid (hz6.below hb)) | ((with_reducible refine (AY.out _ _ _ X2.out hz7).mono ?_); rintro e w8 ⟨b8, A8, n8, c8, rfl, hb, hz8⟩; have X3 := Lib.hid (X1.out.below hb)))
      refine hK.out _ _ (hHeld36.next hb) (fun hHeld37 => ?_)
      replace hT0 := hT0.next hb
      clear hK K
      try clear hb
      try simp only [Act.put, List.setIfInBounds_toArray, List.set_cons_zero, List.set_cons_succ]
      refine wpAnyH_ready (rs := [10]) (by kernel_rfl) (by simp) ?_
      refine AllReadyH.cons (o := ⟨none, _, _, _, _, _⟩) rfl (fun K hK => ?_) AllReadyH.nil
      obtain ⟨⟨t0z0, t0c0, t0f0⟩, ⟨t0z1, t0c1, t0f1⟩, ⟨t0z2, t0c2, t0f2⟩, ⟨t0z3, t0c3, t0f3⟩, _⟩ := hT0.2; (try simp at t0z0); (try simp at t0c0); (try simp at t0f0); (try simp at t0z1); (try simp at t0c1); (try simp at t0f1); (try simp at t0z2); (try simp at t0c2); (try simp at t0f2); (try simp at t0z3); (try simp at t0c3); (try simp at t0f3)
      go_simp
      refine hK.out _ _ (by first | exact hHeld37.alloc _ | (repeat (first | (with_reducible exact hHeld37) | (refine Keeps.set ?_ (by simp <;> omega) (by simp <;> omega) _)))) (fun hHeld38 => ?_)
      clear hK K
      try clear hb
      try simp only [Act.put, List.setIfInBounds_toArray, List.set_cons_zero, List.set_cons_succ]
      refine wpAnyH_ready (rs := [11]) (by kernel_rfl) (by simp) ?_
      refine AllReadyH.cons (o := ⟨none, _, _, _, _, _⟩) rfl (fun K hK => ?_) AllReadyH.nil
      go_simp
      refine hK.out _ _ (by first | exact hHeld38.alloc _ | (repeat (first | (with_reducible exact hHeld38) | (refine Keeps.set ?_ (by simp <;> omega) (by simp <;> omega) _)))) (fun hHeld39 => ?_)
      clear hK K
      try clear hb
      try simp only [Act.put, List.setIfInBounds_toArray, List.set_cons_zero, List.set_cons_succ]
      refine wpAnyH_done (by kernel_rfl) ?_ _
      have hHeld := hHeld39
      obtain ⟨⟨kz0, kc0, kf0⟩, ⟨kz1, kc1, kf1⟩, ⟨kz2, kc2, kf2⟩, ⟨kz3, kc3, kf3⟩, _⟩ := hHeld.2
      rotate_left 1
      exact AllReadyH.nil
      refine AllReadyH.cons (o := ⟨some 19, _, _, _, _, _⟩) rfl (fun K hK => ?_) ?_
      obtain ⟨⟨kz0, kc0, kf0⟩, ⟨kz1, kc1, kf1⟩, ⟨kz2, kc2, kf2⟩, ⟨kz3, kc3, kf3⟩, _⟩ := hHeld28.2
      obtain ⟨⟨t0z0, t0c0, t0f0⟩, ⟨t0z1, t0c1, t0f1⟩, ⟨t0z2, t0c2, t0f2⟩, ⟨t0z3, t0c3, t0f3⟩, _⟩ := hT0.2
      go_simp
      refine hK.out _ _ (by first | exact hHeld28 | (first | exact hHeld | (refine ⟨by go_grown, ?_⟩; simp [Cells, go_sem]; done))) (fun hHeld40 => ?_)
      clear hK K
      try clear hb
      try simp only [Act.put, List.setIfInBounds_toArray, List.set_cons_zero, List.set_cons_succ]
      refine wpAnyH_ready (rs := [4]) (by kernel_rfl) (by simp) ?_
      refine AllReadyH.cons (o := ⟨some 18, _, _, _, _, _⟩) rfl (fun K hK => ?_) AllReadyH.nil
      go_simp
      (first | ((with_reducible refine (IX.out _).mono ?_); rintro e w5 ⟨b5, A5, n5, c5, rfl, hb, hz5⟩; have U1 := Lib.hid (Y1.out.below (by exact ⟨hb.os, hb.tape, hb.output, hb.size, hb.block⟩)); have U2 := Lib.hid (Y2.out.below (by exact ⟨hb.os, hb.tape, hb.output, hb.size, hb.block⟩))) | ((with_reducible refine (AX.out _ _ _ U1.out hz5).mono ?_); rintro e w6 ⟨b6, A6, n6, c6, rfl, hb, hz6⟩; have V2 := Lib.hid (U2.out.below hb)) | ((with_reducible refine (IY.out _).mono ?_); rintro e w7 ⟨b7, A7, n7, c7, rfl, hb, hz7⟩; have X2 := Lib.hid (V2.out.below hb); have X1 := Lib.hid (hz6.below hb)) | ((with_reducible refine (AY.out _ _ _ X2.out hz7).mono ?_); rintro e w8 ⟨b8, A8, n8, c8, rfl, hb, hz8⟩; have X3 := Lib.hid (X1.out.below hb)))
      refine hK.out _ _ (hHeld40.next hb) (fun hHeld41 => ?_)
      replace hT0 := hT0.next hb
      clear hK K
      try clear hb
      try simp only [Act.put, List.setIfInBounds_toArray, List.set_cons_zero, List.set_cons_succ]
      refine wpAnyH_ready (rs := [8]) (by kernel_rfl) (by simp) ?_
      refine AllReadyH.cons (o := ⟨some 22, _, _, _, _, _⟩) rfl (fun K hK => ?_) AllReadyH.nil
      go_simp
      (first | ((with_reducible refine (IX.out _).mono ?_); rintro e w5 ⟨b5, A5, n5, c5, rfl, hb, hz5⟩; have U1 := Lib.hid (Y1.out.below (by exact ⟨hb.os, hb.tape, hb.output, hb.size, hb.block⟩)); have U2 := Lib.hid (Y2.out.below (by exact ⟨hb.os, hb.tape, hb.output, hb.size, hb.block⟩))) | ((with_reducible refine (AX.out _ _ _ U1.out hz5).mono ?_); rintro e w6 ⟨b6, A6, n6, c6, rfl, hb, hz6⟩; have V2 := Lib.hid (U2.out.below hb)) | ((with_reducible refine (IY.out _).mono ?_); rintro e w7 ⟨b7, A7, n7, c7, rfl, hb, hz7⟩; have X2 := Lib.hid (V2.out.below hb); have X1 := Lib.hid (hz6.below hb)) | ((with_reducible refine (AY.out _ _ _ X2.out hz7).mono ?_); rintro e w8 ⟨b8, A8, n8, c8, rfl, hb, hz8⟩; have X3 := Lib.hid (X1.out.below hb)))
      refine hK.out _ _ (hHeld41.next hb) (fun hHeld42 => ?_)
      replace hT0 := hT0.next hb
      clear hK K
      try clear hb
      try simp only [Act.put, List.setIfInBounds_toArray, List.set_cons_zero, List.set_cons_succ]
      refine wpAnyH_ready (rs := [9]) (by kernel_rfl) (by simp) ?_
      refine AllReadyH.cons (o := ⟨some 23, _, _, _, _, _⟩) rfl (fun K hK => ?_) AllReadyH.nil
      go_simp
      (first | ((with_reducible refine (IX.out _).mono ?_); rintro e w5 ⟨b5, A5, n5, c5, rfl, hb, hz5⟩; have U1 := Lib.hid (Y1.out.below (by exact ⟨hb.os, hb.tape, hb.output, hb.size, hb.block⟩)); have U2 := Lib.hid (Y2.out.below (by exact ⟨hb.os, hb.tape, hb.output, hb.size, hb.block⟩))) | ((with_reducible refine (AX.out _ _ _ U1.out hz5).mono ?_); rintro e w6 ⟨b6, A6, n6, c6, rfl, hb, hz6⟩; have V2 := Lib.hid (U2.out.below hb)) | ((with_reducible refine (IY.out _).mono ?_); rintro e w7 ⟨b7, A7, n7, c7, rfl, hb, hz7⟩; have X2 := Lib.hid (V2.out.below hb); have X1 := Lib.hid (hz6.below hb)) | ((with_reducible refine (AY.out _ _ _ X2.out hz7).mono ?_); rintro e w8 ⟨b8, A8, n8, c8, rfl, hb, hz8⟩; have X3 := Lib.hid (X1.out.below hb)))
      refine hK.out _ _ (hHeld42.next hb) (fun hHeld43 => ?_)
      replace hT0 := hT0.next hb
      clear hK K
      try clear hb
      try simp only [Act.put, List.setIfInBounds_toArray, List.set_cons_zero, List.set_cons_succ]
      refine wpAnyH_ready (rs := [10]) (by kernel_rfl) (by simp) ?_
      refine AllReadyH.cons (o := ⟨none, _, _, _, _, _⟩) rfl (fun K hK => ?_) AllReadyH.nil
      obtain ⟨⟨t0z0, t0c0, t0f0⟩, ⟨t0z1, t0c1, t0f1⟩, ⟨t0z2, t0c2, t0f2⟩, ⟨t0z3, t0c3, t0f3⟩, _⟩ := hT0.2; (try simp at t0z0); (try simp at t0c0); (try simp at t0f0); (try simp at t0z1); (try simp at t0c1); (try simp at t0f1); (try simp at t0z2); (try simp at t0c2); (try simp at t0f2); (try simp at t0z3); (try simp at t0c3); (try simp at t0f3)
      go_simp
      refine hK.out _ _ (by first | exact hHeld43.alloc _ | (repeat (first | (with_reducible exact hHeld43) | (refine Keeps.set ?_ (by simp <;> omega) (by simp <;> omega) _)))) (fun hHeld44 => ?_)
      clear hK K
      try clear hb
      try simp only [Act.put, List.setIfInBounds_toArray, List.set_cons_zero, List.set_cons_succ]
      refine wpAnyH_ready (rs := [11]) (by kernel_rfl) (by simp) ?_
      refine AllReadyH.cons (o := ⟨none, _, _, _, _, _⟩) rfl (fun K hK => ?_) AllReadyH.nil
      go_simp
      refine hK.out _ _ (by first | exact hHeld44.alloc _ | (repeat (first | (with_reducible exact hHeld44) | (refine Keeps.set ?_ (by simp <;> omega) (by simp <;> omega) _)))) (fun hHeld45 => ?_)
      clear hK K
      try clear hb
      try simp only [Act.put, List.setIfInBounds_toArray, List.set_cons_zero, List.set_cons_succ]
      refine wpAnyH_done (by kernel_rfl) ?_ _
      have hHeld := hHeld45
      obtain ⟨⟨kz0, kc0, kf0⟩, ⟨kz1, kc1, kf1⟩, ⟨kz2, kc2, kf2⟩, ⟨kz3, kc3, kf3⟩, _⟩ := hHeld.2
      rotate_left 1
      exact AllReadyH.nil
      refine AllReadyH.cons (o := ⟨some 19, _, _, _, _, _⟩) rfl (fun K hK => ?_) ?_
      obtain ⟨⟨kz0, kc0, kf0⟩, ⟨kz1, kc1, kf1⟩, ⟨kz2, kc2, kf2⟩, ⟨kz3, kc3, kf3⟩, _⟩ := hHeld27.2
      obtain ⟨⟨t0z0, t0c0, t0f0⟩, ⟨t0z1, t0c1, t0f1⟩, ⟨t0z2, t0c2, t0f2⟩, ⟨t0z3, t0c3, t0f3⟩, _⟩ := hT0.2
      go_simp
      refine hK.out _ _ (by first | exact hHeld27 | (first | exact hHeld | (refine ⟨by go_grown, ?_⟩; simp [Cells, go_sem]; done))) (fun hHeld46 => ?_)
      clear hK K
      try clear hb
      try simp only [Act.put, List.setIfInBounds_toArray, List.set_cons_zero, List.set_cons_succ]
      refine wpAnyH_ready (rs := [0]) (by kernel_rfl) (by simp) ?_
      refine AllReadyH.cons (o := ⟨some 14, _, _, _, _, _⟩) rfl (fun K hK => ?_) AllReadyH.nil
      obtain ⟨⟨kz0, kc0, kf0⟩, ⟨kz1, kc1, kf1⟩, ⟨kz2, kc2, kf2⟩, ⟨kz3, kc3, kf3⟩, _⟩ := hHeld46.2
      obtain ⟨⟨t0z0, t0c0, t0f0⟩, ⟨t0z1, t0c1, t0f1⟩, ⟨t0z2, t0c2, t0f2⟩, ⟨t0z3, t0c3, t0f3⟩, _⟩ := hT0.2
      go_simp
      refine hK.out _ _ (by first | exact hHeld46 | (first | exact hHeld | (refine ⟨by go_grown, ?_⟩; simp [Cells, go_sem]; done))) (fun hHeld47 => ?_)
      clear hK K
      try clear hb
      try simp only [Act.put, List.setIfInBounds_toArray, List.set_cons_zero, List.set_cons_succ]
      refine wpAnyH_ready (rs := [4]) (by kernel_rfl) (by simp) ?_
      refine AllReadyH.cons (o := ⟨some 18, _, _, _, _, _⟩) rfl (fun K hK => ?_) AllReadyH.nil
      go_simp
      (first | ((with_reducible refine (IX.out _).mono ?_); rintro e w5 ⟨b5, A5, n5, c5, rfl, hb, hz5⟩; have U1 := Lib.hid (Y1.out.below (by exact ⟨hb.os, hb.tape, hb.output, hb.size, hb.block⟩)); have U2 := Lib.hid (Y2.out.below (by exact ⟨hb.os, hb.tape, hb.output, hb.size, hb.block⟩))) | ((with_reducible refine (AX.out _ _ _ U1.out hz5).mono ?_); rintro e w6 ⟨b6, A6, n6, c6, rfl, hb, hz6⟩; have V2 := Lib.hid (U2.out.below hb)) | ((with_reducible refine (IY.out _).mono ?_); rintro e w7 ⟨b7, A7, n7, c7, rfl, hb, hz7⟩; have X2 := Lib.hid (V2.out.below hb); have X1 := Lib.hid (hz6.below hb)) | ((with_reducible refine (AY.out _ _ _ X2.out hz7).mono ?_); rintro e w8 ⟨b8, A8, n8, c8, rfl, hb, hz8⟩; have X3 := Lib.hid (X1.out.below hb)))
      refine hK.out _ _ (hHeld47.next hb) (fun hHeld48 => ?_)
      replace hT0 := hT0.next hb
      clear hK K
      try clear hb
      try simp only [Act.put, List.setIfInBounds_toArray, List.set_cons_zero, List.set_cons_succ]
      refine wpAnyH_ready (rs := [8]) (by kernel_rfl) (by simp) ?_
      refine AllReadyH.cons (o := ⟨some 22, _, _, _, _, _⟩) rfl (fun K hK => ?_) AllReadyH.nil
      go_simp
      (first | ((with_reducible refine (IX.out _).mono ?_); rintro e w5 ⟨b5, A5, n5, c5, rfl, hb, hz5⟩; have U1 := Lib.hid (Y1.out.below (by exact ⟨hb.os, hb.tape, hb.output, hb.size, hb.block⟩)); have U2 := Lib.hid (Y2.out.below (by exact ⟨hb.os, hb.tape, hb.output, hb.size, hb.block⟩))) | ((with_reducible refine (AX.out _ _ _ U1.out hz5).mono ?_); rintro e w6 ⟨b6, A6, n6, c6, rfl, hb, hz6⟩; have V2 := Lib.hid (U2.out.below hb)) | ((with_reducible refine (IY.out _).mono ?_); rintro e w7 ⟨b7, A7, n7, c7, rfl, hb, hz7⟩; have X2 := Lib.hid (V2.out.below hb); have X1 := Lib.hid (hz6.below hb)) | ((with_reducible refine (AY.out _ _ _ X2.out hz7).mono ?_); rintro e w8 ⟨b8, A8, n8, c8, rfl, hb, hz8⟩; have X3 := Lib.hid (X1.out.below hb)))
      refine hK.out _ _ (hHeld48.next hb) (fun hHeld49 => ?_)
      replace hT0 := hT0.next hb
      clear hK K
      try clear hb
      try simp only [Act.put, List.setIfInBounds_toArray, List.set_cons_zero, List.set_cons_succ]
      refine wpAnyH_ready (rs := [9]) (by kernel_rfl) (by simp) ?_
      refine AllReadyH.cons (o := ⟨some 23, _, _, _, _, _⟩) rfl (fun K hK => ?_) AllReadyH.nil
      go_simp
      (first | ((with_reducible refine (IX.out _).mono ?_); rintro e w5 ⟨b5, A5, n5, c5, rfl, hb, hz5⟩; have U1 := Lib.hid (Y1.out.below (by exact ⟨hb.os, hb.tape, hb.output, hb.size, hb.block⟩)); have U2 := Lib.hid (Y2.out.below (by exact ⟨hb.os, hb.tape, hb.output, hb.size, hb.block⟩))) | ((with_reducible refine (AX.out _ _ _ U1.out hz5).mono ?_); rintro e w6 ⟨b6, A6, n6, c6, rfl, hb, hz6⟩; have V2 := Lib.hid (U2.out.below hb)) | ((with_reducible refine (IY.out _).mono ?_); rintro e w7 ⟨b7, A7, n7, c7, rfl, hb, hz7⟩; have X2 := Lib.hid (V2.out.below hb); have X1 := Lib.hid (hz6.below hb)) | ((with_reducible refine (AY.out _ _ _ X2.out hz7).mono ?_); rintro e w8 ⟨b8, A8, n8, c8, rfl, hb, hz8⟩; have X3 := Lib.hid (X1.out.below hb)))
      refine hK.out _ _ (hHeld49.next hb) (fun hHeld50 => ?_)
      replace hT0 := hT0.next hb
      clear hK K
      try clear hb
      try simp only [Act.put, List.setIfInBounds_toArray, List.set_cons_zero, List.set_cons_succ]
      refine wpAnyH_ready (rs := [10]) (by kernel_rfl) (by simp) ?_
      refine AllReadyH.cons (o := ⟨none, _, _, _, _, _⟩) rfl (fun K hK => ?_) AllReadyH.nil
      obtain ⟨⟨t0z0, t0c0, t0f0⟩, ⟨t0z1, t0c1, t0f1⟩, ⟨t0z2, t0c2, t0f2⟩, ⟨t0z3, t0c3, t0f3⟩, _⟩ := hT0.2; (try simp at t0z0); (try simp at t0c0); (try simp at t0f0); (try simp at t0z1); (try simp at t0c1); (try simp at t0f1); (try simp at t0z2); (try simp at t0c2); (try simp at t0f2); (try simp at t0z3); (try simp at t0c3); (try simp at t0f3)
      go_simp
      refine hK.out _ _ (by first | exact hHeld50.alloc _ | (repeat (first | (with_reducible exact hHeld50) | (refine Keeps.set ?_ (by simp <;> omega) (by simp <;> omega) _)))) (fun hHeld51 => ?_)
      clear hK K
      try clear hb
      try simp only [Act.put, List.setIfInBounds_toArray, List.set_cons_zero, List.set_cons_succ]
      refine wpAnyH_ready (rs := [11]) (by kernel_rfl) (by simp) ?_
      refine AllReadyH.cons (o := ⟨none, _, _, _, _, _⟩) rfl (fun K hK => ?_) AllReadyH.nil
      go_simp
      refine hK.out _ _ (by first | exact hHeld51.alloc _ | (repeat (first | (with_reducible exact hHeld51) | (refine Keeps.set ?_ (by simp <;> omega) (by simp <;> omega) _)))) (fun hHeld52 => ?_)
      clear hK K
      try clear hb
      try simp only [Act.put, List.setIfInBounds_toArray, List.set_cons_zero, List.set_cons_succ]
      refine wpAnyH_done (by kernel_rfl) ?_ _
      have hHeld := hHeld52
      obtain ⟨⟨kz0, kc0, kf0⟩, ⟨kz1, kc1, kf1⟩, ⟨kz2, kc2, kf2⟩, ⟨kz3, kc3, kf3⟩, _⟩ := hHeld.2
      rotate_left 1
      exact AllReadyH.nil
      refine AllReadyH.cons (o := ⟨some 19, _, _, _, _, _⟩) rfl (fun K hK => ?_) ?_
      obtain ⟨⟨kz0, kc0, kf0⟩, ⟨kz1, kc1, kf1⟩, ⟨kz2, kc2, kf2⟩, ⟨kz3, kc3, kf3⟩, _⟩ := hHeld0.2
      obtain ⟨⟨t0z0, t0c0, t0f0⟩, ⟨t0z1, t0c1, t0f1⟩, ⟨t0z2, t0c2, t0f2⟩, ⟨t0z3, t0c3, t0f3⟩, _⟩ := hT0.2
      go_simp
      refine hK.out _ _ (by first | exact hHeld0 | (first | exact hHeld | (refine ⟨by go_grown, ?_⟩; simp [Cells, go_sem]; done))) (fun hHeld53 => ?_)
      clear hK K
      try clear hb
      try simp only [Act.put, List.setIfInBounds_toArray, List.set_cons_zero, List.set_cons_succ]
      refine wpAnyH_ready (rs := [0, 3]) (by kernel_rfl) (by simp) ?_
      refine AllReadyH.cons (o := ⟨some 14, _, _, _, _, _⟩) rfl (fun K hK => ?_) ?_
      obtain ⟨⟨kz0, kc0, kf0⟩, ⟨kz1, kc1, kf1⟩, ⟨kz2, kc2, kf2⟩, ⟨kz3, kc3, kf3⟩, _⟩ := hHeld53.2
      obtain ⟨⟨t0z0, t0c0, t0f0⟩, ⟨t0z1, t0c1, t0f1⟩, ⟨t0z2, t0c2, t0f2⟩, ⟨t0z3, t0c3, t0f3⟩, _⟩ := hT0.2
      go_simp
      refine hK.out _ _ (by first | exact hHeld53 | (first | exact hHeld | (refine ⟨by go_grown, ?_⟩; simp [Cells, go_sem]; done))) (fun hHeld54 => ?_)
      clear hK K
      try clear hb
      try simp only [Act.put, List.setIfInBounds_toArray, List.set_cons_zero, List.set_cons_succ]
      refine wpAnyH_ready (rs := [3]) (by kernel_rfl) (by simp) ?_
      refine AllReadyH.cons (o := ⟨some 17, _, _, _, _, _⟩) rfl (fun K hK => ?_) AllReadyH.nil
      go_simp
      (first | ((with_reducible refine (IX.out _).mono ?_); rintro e w5 ⟨b5, A5, n5, c5, rfl, hb, hz5⟩; have U1 := Lib.hid (Y1.out.below (by exact ⟨hb.os, hb.tape, hb.output, hb.size, hb.block⟩)); have U2 := Lib.hid (Y2.out.below (by exact ⟨hb.os, hb.tape, hb.output, hb.size, hb.block⟩))) | ((with_reducible refine (AX.out _ _ _ U1.out hz5).mono ?_); rintro e w6 ⟨b6, A6, n6, c6, rfl, hb, hz6⟩; have V2 := Lib.hid (U2.out.below hb)) | ((with_reducible refine (IY.out _).mono ?_); rintro e w7 ⟨b7, A7, n7, c7, rfl, hb, hz7⟩; have X2 := Lib.hid (V2.out.below hb); have X1 := Lib.hid (hz6.below hb)) | ((with_reducible refine (AY.out _ _ _ X2.out hz7).mono ?_); rintro e w8 ⟨b8, A8, n8, c8, rfl, hb, hz8⟩; have X3 := Lib.hid (X1.out.below hb)))
      refine hK.out _ _ (hHeld54.next hb) (fun hHeld55 => ?_)
      replace hT0 := hT0.next hb
      clear hK K
      try clear hb
      try simp only [Act.put, List.setIfInBounds_toArray, List.set_cons_zero, List.set_cons_succ]
      refine wpAnyH_ready (rs := [4]) (by kernel_rfl) (by simp) ?_
      refine AllReadyH.cons (o := ⟨some 18, _, _, _, _, _⟩) rfl (fun K hK => ?_) AllReadyH.nil
      go_simp
      (first | ((with_reducible refine (IX.out _).mono ?_); rintro e w5 ⟨b5, A5, n5, c5, rfl, hb, hz5⟩; have U1 := Lib.hid (Y1.out.below (by exact ⟨hb.os, hb.tape, hb.output, hb.size, hb.block⟩)); have U2 := Lib.hid (Y2.out.below (by exact ⟨hb.os, hb.tape, hb.output, hb.size, hb.block⟩))) | ((with_reducible refine (AX.out _ _ _ U1.out hz5).mono ?_); rintro e w6 ⟨b6, A6, n6, c6, rfl, hb, hz6⟩; have V2 := Lib.hid (U2.out.below hb)) | ((with_reducible refine (IY.out _).mono ?_); rintro e w7 ⟨b7, A7, n7, c7, rfl, hb, hz7⟩; have X2 := Lib.hid (V2.out.below hb); have X1 := Lib.hid (hz6.below hb)) | ((with_reducible refine (AY.out _ _ _ X2.out hz7).mono ?_); rintro e w8 ⟨b8, A8, n8, c8, rfl, hb, hz8⟩; have X3 := Lib.hid (X1.out.below hb)))
      refine hK.out _ _ (hHeld55.next hb) (fun hHeld56 => ?_)
      replace hT0 := hT0.next hb
      clear hK K
      try clear hb
      try simp only [Act.put, List.setIfInBounds_toArray, List.set_cons_zero, List.set_cons_succ]
      refine wpAnyH_ready (rs := [8]) (by kernel_rfl) (by simp) ?_
      refine AllReadyH.cons (o := ⟨some 22, _, _, _, _, _⟩) rfl (fun K hK => ?_) AllReadyH.nil
      go_simp
      (first | ((with_reducible refine (IX.out _).mono ?_); rintro e w5 ⟨b5, A5, n5, c5, rfl, hb, hz5⟩; have U1 := Lib.hid (Y1.out.below (by exact ⟨hb.os, hb.tape, hb.output, hb.size, hb.block⟩)); have U2 := Lib.hid (Y2.out.below (by exact ⟨hb.os, hb.tape, hb.output, hb.size, hb.block⟩))) | ((with_reducible refine (AX.out _ _ _ U1.out hz5).mono ?_); rintro e w6 ⟨b6, A6, n6, c6, rfl, hb, hz6⟩; have V2 := Lib.hid (U2.out.below hb)) | ((with_reducible refine (IY.out _).mono ?_); rintro e w7 ⟨b7, A7, n7, c7, rfl, hb, hz7⟩; have X2 := Lib.hid (V2.out.below hb); have X1 := Lib.hid (hz6.below hb)) | ((with_reducible refine (AY.out _ _ _ X2.out hz7).mono ?_); rintro e w8 ⟨b8, A8, n8, c8, rfl, hb, hz8⟩; have X3 := Lib.hid (X1.out.below hb)))
      refine hK.out _ _ (hHeld56.next hb) (fun hHeld57 => ?_)
      replace hT0 := hT0.next hb
      clear hK K
      try clear hb
      try simp only [Act.put, List.setIfInBounds_toArray, List.set_cons_zero, List.set_cons_succ]
      refine wpAnyH_ready (rs := [9]) (by kernel_rfl) (by simp) ?_
      refine AllReadyH.cons (o := ⟨some 23, _, _, _, _, _⟩) rfl (fun K hK => ?_) AllReadyH.nil
      go_simp
      (first | ((with_reducible refine (IX.out _).mono ?_); rintro e w5 ⟨b5, A5, n5, c5, rfl, hb, hz5⟩; have U1 := Lib.hid (Y1.out.below (by exact ⟨hb.os, hb.tape, hb.output, hb.size, hb.block⟩)); have U2 := Lib.hid (Y2.out.below (by exact ⟨hb.os, hb.tape, hb.output, hb.size, hb.block⟩))) | ((with_reducible refine (AX.out _ _ _ U1.out hz5).mono ?_); rintro e w6 ⟨b6, A6, n6, c6, rfl, hb, hz6⟩; have V2 := Lib.hid (U2.out.below hb)) | ((with_reducible refine (IY.out _).mono ?_); rintro e w7 ⟨b7, A7, n7, c7, rfl, hb, hz7⟩; have X2 := Lib.hid (V2.out.below hb); have X1 := Lib.hid (hz6.below hb)) | ((with_reducible refine (AY.out _ _ _ X2.out hz7).mono ?_); rintro e w8 ⟨b8, A8, n8, c8, rfl, hb, hz8⟩; have X3 := Lib.hid (X1.out.below hb)))
      refine hK.out _ _ (hHeld57.next hb) (fun hHeld58 => ?_)
      replace hT0 := hT0.next hb
      clear hK K
      try clear hb
      try simp only [Act.put, List.setIfInBounds_toArray, List.set_cons_zero, List.set_cons_succ]
      refine wpAnyH_ready (rs := [10]) (by kernel_rfl) (by simp) ?_
      refine AllReadyH.cons (o := ⟨none, _, _, _, _, _⟩) rfl (fun K hK => ?_) AllReadyH.nil
      obtain ⟨⟨t0z0, t0c0, t0f0⟩, ⟨t0z1, t0c1, t0f1⟩, ⟨t0z2, t0c2, t0f2⟩, ⟨t0z3, t0c3, t0f3⟩, _⟩ := hT0.2; (try simp at t0z0); (try simp at t0c0); (try simp at t0f0); (try simp at t0z1); (try simp at t0c1); (try simp at t0f1); (try simp at t0z2); (try simp at t0c2); (try simp at t0f2); (try simp at t0z3); (try simp at t0c3); (try simp at t0f3)
      go_simp
      refine hK.out _ _ (by first | exact hHeld58.alloc _ | (repeat (first | (with_reducible exact hHeld58) | (refine Keeps.set ?_ (by simp <;> omega) (by simp <;> omega) _)))) (fun hHeld59 => ?_)
      clear hK K
      try clear hb
      try simp only [Act.put, List.setIfInBounds_toArray, List.set_cons_zero, List.set_cons_succ]
      refine wpAnyH_ready (rs := [11]) (by kernel_rfl) (by simp) ?_
      refine AllReadyH.cons (o := ⟨none, _, _, _, _, _⟩) rfl (fun K hK => ?_) AllReadyH.nil
      go_simp
      refine hK.out _ _ (by first | exact hHeld59.alloc _ | (repeat (first | (with_reducible exact hHeld59) | (refine Keeps.set ?_ (by simp <;> omega) (by simp <;> omega) _)))) (fun hHeld60 => ?_)
      clear hK K
      try clear hb
      try simp only [Act.put, List.setIfInBounds_toArray, List.set_cons_zero, List.set_cons_succ]
      refine wpAnyH_done (by kernel_rfl) ?_ _
      have hHeld := hHeld60
      obtain ⟨⟨kz0, kc0, kf0⟩, ⟨kz1, kc1, kf1⟩, ⟨kz2, kc2, kf2⟩, ⟨kz3, kc3, kf3⟩, _⟩ := hHeld.2
      rotate_left 1
      refine AllReadyH.cons (o := ⟨some 17, _, _, _, _, _⟩) rfl (fun K hK => ?_) ?_
      go_simp
      (first | ((with_reducible refine (IX.out _).mono ?_); rintro e w5 ⟨b5, A5, n5, c5, rfl, hb, hz5⟩; have U1 := Lib.hid (Y1.out.below (by exact ⟨hb.os, hb.tape, hb.output, hb.size, hb.block⟩)); have U2 := Lib.hid (Y2.out.below (by exact ⟨hb.os, hb.tape, hb.output, hb.size, hb.block⟩))) | ((with_reducible refine (AX.out _ _ _ U1.out hz5).mono ?_); rintro e w6 ⟨b6, A6, n6, c6, rfl, hb, hz6⟩; have V2 := Lib.hid (U2.out.below hb)) | ((with_reducible refine (IY.out _).mono ?_); rintro e w7 ⟨b7, A7, n7, c7, rfl, hb, hz7⟩; have X2 := Lib.hid (V2.out.below hb); have X1 := Lib.hid (hz6.below hb)) | ((with_reducible refine (AY.out _ _ _ X2.out hz7).mono ?_); rintro e w8 ⟨b8, A8, n8, c8, rfl, hb, hz8⟩; have X3 := Lib.hid (X1.out.below hb)))
      refine hK.out _ _ (hHeld53.next hb) (fun hHeld61 => ?_)
      replace hT0 := hT0.next hb
      clear hK K
      try clear hb
      try simp only [Act.put, List.setIfInBounds_toArray, List.set_cons_zero, List.set_cons_succ]
      refine wpAnyH_ready (rs := [0]) (by kernel_rfl) (by simp) ?_
      refine AllReadyH.cons (o := ⟨some 14, _, _, _, _, _⟩) rfl (fun K hK => ?_) AllReadyH.nil
      obtain ⟨⟨kz0, kc0, kf0⟩, ⟨kz1, kc1, kf1⟩, ⟨kz2, kc2, kf2⟩, ⟨kz3, kc3, kf3⟩, _⟩ := hHeld61.2
      obtain ⟨⟨t0z0, t0c0, t0f0⟩, ⟨t0z1, t0c1, t0f1⟩, ⟨t0z2, t0c2, t0f2⟩, ⟨t0z3, t0c3, t0f3⟩, _⟩ := hT0.2
      go_simp
      refine hK.out _ _ (by first | exact hHeld61 | (first | exact hHeld | (refine ⟨by go_grown, ?_⟩; simp [Cells, go_sem]; done))) (fun hHeld62 => ?_)
      clear hK K
      try clear hb
      try simp only [Act.put, List.setIfInBounds_toArray, List.set_cons_zero, List.set_cons_succ]
      refine wpAnyH_ready (rs := [4]) (by kernel_rfl) (by simp) ?_
      refine AllReadyH.cons (o := ⟨some 18, _, _, _, _, _⟩) rfl (fun K hK => ?_) AllReadyH.nil
      go_simp
      (first | ((with_reducible refine (IX.out _).mono ?_); rintro e w5 ⟨b5, A5, n5, c5, rfl, hb, hz5⟩; have U1 := Lib.hid (Y1.out.below (by exact ⟨hb.os, hb.tape, hb.output, hb.size, hb.block⟩)); have U2 := Lib.hid (Y2.out.below (by exact ⟨hb.os, hb.tape, hb.output, hb.size, hb.block⟩))) | ((with_reducible refine (AX.out _ _ _ U1.out hz5).mono ?_); rintro e w6 ⟨b6, A6, n6, c6, rfl, hb, hz6⟩; have V2 := Lib.hid (U2.out.below hb)) | ((with_reducible refine (IY.out _).mono ?_); rintro e w7 ⟨b7, A7, n7, c7, rfl, hb, hz7⟩; have X2 := Lib.hid (V2.out.below hb); have X1 := Lib.hid (hz6.below hb)) | ((with_reducible refine (AY.out _ _ _ X2.out hz7).mono ?_); rintro e w8 ⟨b8, A8, n8, c8, rfl, hb, hz8⟩; have X3 := Lib.hid (X1.out.below hb)))
      refine hK.out _ _ (hHeld62.next hb) (fun hHeld63 => ?_)
      replace hT0 := hT0.next hb
      clear hK K
      try clear hb
      try simp only [Act.put, List.setIfInBounds_toArray, List.set_cons_zero, List.set_cons_succ]
      refine wpAnyH_ready (rs := [8]) (by kernel_rfl) (by simp) ?_
      refine AllReadyH.cons (o := ⟨some 22, _, _, _, _, _⟩) rfl (fun K hK => ?_) AllReadyH.nil
      go_simp
      (first | ((with_reducible refine (IX.out _).mono ?_); rintro e w5 ⟨b5, A5, n5, c5, rfl, hb, hz5⟩; have U1 := Lib.hid (Y1.out.below (by exact ⟨hb.os, hb.tape, hb.output, hb.size, hb.block⟩)); have U2 := Lib.hid (Y2.out.below (by exact ⟨hb.os, hb.tape, hb.output, hb.size, hb.block⟩))) | ((with_reducible refine (AX.out _ _ _ U1.out hz5).mono ?_); rintro e w6 ⟨b6, A6, n6, c6, rfl, hb, hz6⟩; have V2 := Lib.hid (U2.out.below hb)) | ((with_reducible refine (IY.out _).mono ?_); rintro e w7 ⟨b7, A7, n7, c7, rfl, hb, hz7⟩; have X2 := Lib.hid (V2.out.below hb); have X1 := Lib.hid (hz6.below hb)) | ((with_reducible refine (AY.out _ _ _ X2.out hz7).mono ?_); rintro e w8 ⟨b8, A8, n8, c8, rfl, hb, hz8⟩; have X3 := Lib.hid (X1.out.below hb)))
      refine hK.out _ _ (hHeld63.next hb) (fun hHeld64 => ?_)
      replace hT0 := hT0.next hb
      clear hK K
      try clear hb
      try simp only [Act.put, List.setIfInBounds_toArray, List.set_cons_zero, List.set_cons_succ]
      refine wpAnyH_ready (rs := [9]) (by kernel_rfl) (by simp) ?_
      refine AllReadyH.cons (o := ⟨some 23, _, _, _, _, _⟩) rfl (fun K hK => ?_) AllReadyH.nil
      go_simp
      (first | ((with_reducible refine (IX.out _).mono ?_); rintro e w5 ⟨b5, A5, n5, c5, rfl, hb, hz5⟩; have U1 := Lib.hid (Y1.out.below (by exact ⟨hb.os, hb.tape, hb.output, hb.size, hb.block⟩)); have U2 := Lib.hid (Y2.out.below (by exact ⟨hb.os, hb.tape, hb.output, hb.size, hb.block⟩))) | ((with_reducible refine (AX.out _ _ _ U1.out hz5).mono ?_); rintro e w6 ⟨b6, A6, n6, c6, rfl, hb, hz6⟩; have V2 := Lib.hid (U2.out.below hb)) | ((with_reducible refine (IY.out _).mono ?_); rintro e w7 ⟨b7, A7, n7, c7, rfl, hb, hz7⟩; have X2 := Lib.hid (V2.out.below hb); have X1 := Lib.hid (hz6.below hb)) | ((with_reducible refine (AY.out _ _ _ X2.out hz7).mono ?_); rintro e w8 ⟨b8, A8, n8, c8, rfl, hb, hz8⟩; have X3 := Lib.hid (X1.out.below hb)))
      refine hK.out _ _ (hHeld64.next hb) (fun hHeld65 => ?_)
      replace hT0 := hT0.next hb
      clear hK K
      try clear hb
      try simp only [Act.put, List.setIfInBounds_toArray, List.set_cons_zero, List.set_cons_succ]
      refine wpAnyH_ready (rs := [10]) (by kernel_rfl) (by simp) ?_
      refine AllReadyH.cons (o := ⟨none, _, _, _, _, _⟩) rfl (fun K hK => ?_) AllReadyH.nil
      obtain ⟨⟨t0z0, t0c0, t0f0⟩, ⟨t0z1, t0c1, t0f1⟩, ⟨t0z2, t0c2, t0f2⟩, ⟨t0z3, t0c3, t0f3⟩, _⟩ := hT0.2; (try simp at t0z0); (try simp at t0c0); (try simp at t0f0); (try simp at t0z1); (try simp at t0c1); (try simp at t0f1); (try simp at t0z2); (try simp at t0c2); (try simp at t0f2); (try simp at t0z3); (try simp at t0c3); (try simp at t0f3)
      go_simp
      refine hK.out _ _ (by first | exact hHeld65.alloc _ | (repeat (first | (with_reducible exact hHeld65) | (refine Keeps.set ?_ (by simp <;> omega) (by simp <;> omega) _)))) (fun hHeld66 => ?_)
      clear hK K
      try clear hb
      try simp only [Act.put, List.setIfInBounds_toArray, List.set_cons_zero, List.set_cons_succ]
      refine wpAnyH_ready (rs := [11]) (by kernel_rfl) (by simp) ?_
      refine AllReadyH.cons (o := ⟨none, _, _, _, _, _⟩) rfl (fun K hK => ?_) AllReadyH.nil
      go_simp
      refine hK.out _ _ (by first | exact hHeld66.alloc _ | (repeat (first | (with_reducible exact hHeld66) | (refine Keeps.set ?_ (by simp <;> omega) (by simp <;> omega) _)))) (fun hHeld67 => ?_)
      clear hK K
      try clear hb
      try simp only [Act.put, List.setIfInBounds_toArray, List.set_cons_zero, List.set_cons_succ]
      refine wpAnyH_done (by kernel_rfl) ?_ _
      have hHeld := hHeld67
      obtain ⟨⟨kz0, kc0, kf0⟩, ⟨kz1, kc1, kf1⟩, ⟨kz2, kc2, kf2⟩, ⟨kz3, kc3, kf3⟩, _⟩ := hHeld.2
      rotate_left 1
      exact AllReadyH.nil
      exact AllReadyH.nil
      all_goals
        obtain ⟨g0, g1⟩ := set2 (W := w8) (B := w.heap.size + 1) (u0 := .bool b6) (u1 := .slice A6 n6 c6) t0c0 t0c1
        have e2 : ((w8.setCell ⟨w.heap.size + 1, 0, none⟩ (.bool b6)).setCell ⟨w.heap.size + 1, 1, none⟩ (.slice A6 n6 c6)).cell? ⟨w.heap.size + 1 + 1, 0, none⟩ = some (.bool b2) := off_cell (by simp) (off_cell (by simp) t0c2)
        have e3 : ((w8.setCell ⟨w.heap.size + 1, 0, none⟩ (.bool b6)).setCell ⟨w.heap.size + 1, 1, none⟩ (.slice A6 n6 c6)).cell? ⟨w.heap.size + 1 + 1, 1, none⟩ = some (.slice A2 n2 c2) := off_cell (by simp) (off_cell (by simp) t0c3)
        obtain ⟨g2, g3⟩ := set2 (W := ((w8.setCell ⟨w.heap.size + 1, 0, none⟩ (.bool b6)).setCell ⟨w.heap.size + 1, 1, none⟩ (.slice A6 n6 c6))) (B := w.heap.size + 1 + 1) (u0 := .bool b8) (u1 := .slice A8 n8 c8) e2 e3
        have M1 := Lib.hid ((X3.out.set2 t0c0 t0c1 (.bool b6) (.slice A6 n6 c6)).set2 e2 e3 (.bool b8) (.slice A8 n8 c8))
        have M2 := Lib.hid ((hz8.set2 t0c0 t0c1 (.bool b6) (.slice A6 n6 c6)).set2 e2 e3 (.bool b8) (.slice A8 n8 c8))
        have NK := Lib.hid (show Keeps w [(w.heap.size, 0, .int .i64 0), (w.heap.size, 1, .int .i64 0), (w.heap.size + 1, 0, .bool b6), (w.heap.size + 1, 1, .slice A6 n6 c6), (w.heap.size + 1 + 1, 0, .bool b8), (w.heap.size + 1 + 1, 1, .slice A8 n8 c8)] ((((w8.setCell ⟨w.heap.size + 1, 0, none⟩ (.bool b6)).setCell ⟨w.heap.size + 1, 1, none⟩ (.slice A6 n6 c6)).setCell ⟨w.heap.size + 1 + 1, 0, none⟩ (.bool b8)).setCell ⟨w.heap.size + 1 + 1, 1, none⟩ (.slice A8 n8 c8)) from
          ⟨hHeld.1, hHeld.2.1, hHeld.2.2.1, ⟨by simpa using t0z0, off_cell (by simp) (off_cell (by simp) g0), by simpa using t0f0⟩, ⟨by simpa using t0z1, off_cell (by simp) (off_cell (by simp) g1), by simpa using t0f1⟩, ⟨by simpa using t0z2, g2, by simpa using t0f2⟩, ⟨by simpa using t0z3, g3, by simpa using t0f3⟩, trivial⟩)
        go_wp2_with fail
        go_roundw
        case rel => exact ⟨k + 1, b6, A6, n6, c6, b8, A8, n8, c8, by simp, by omega, Lib.hid (by rw [FN.out]; exact M1.out), Lib.hid (by rw [FN.out]; exact M2.out), NK.out⟩
        case measure => simp [intOf]; omega
    · have i1 : ¬ (k : Int) < (l.length : Int) := by omega
      have ET : l.take k = l := List.take_of_length_le (by omega)
      rw [ET] at Z1 Z2
      clear ET
      go_wp2_with fail
      refine (OF.out _ _ _ Z1.out Z2.out).mono ?_
      rintro e w9 ⟨rfl, hb⟩
      replace hHeld := hHeld.next hb
      clear hb kz0 kc0 kf0 kz1 kc1 kf1 kz2 kc2 kf2 kz3 kc3 kf3 kz4 kc4 kf4 kz5 kc5 kf5
      obtain ⟨⟨kz0, kc0, kf0⟩, ⟨kz1, kc1, kf1⟩, _⟩ := hHeld.2
      go_wp2_with fail
      obtain ⟨d0, d1⟩ := set2 (W := w9) (B := w.heap.size) (u0 := .int .i64 q0) (u1 := .int .i64 q1) kc0 kc1
      refine bodyPost_ret (v := .tuple #[spV q0 q1, .bool b]) (by simp [results, Try.results34, go_sem, d0, d1]) rfl ?_
      exact ⟨rfl, by first | (with_reducible exact hHeld.1) | (have hB := hHeld.1; have hz := hB.size; go_grown)⟩
end Go.Proofs.Ytmnndbafljngiaa
