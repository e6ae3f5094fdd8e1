/-
  The walk of the law WideSums. Conditions: the words are of 64 bits; the table of powers of ten holds what its initialiser lays.
-/
import Derived.Test.YtinppckjolkhpaaDoorWakes
import Derived.Test.YtinppckjolkhpaaDoorIs
import Derived.Test.YtinppckjolkhpaaDoorWideI
import Derived.Test.YtinppckjolkhpaaDoorWideK
namespace Go.Proofs.YtinppckjolkhpaaDoor
open Go.RowKit

theorem word_len (hi lo : Int) (h : I64 hi) (k : U64 lo) : (sizeL (val hi lo).natAbs).length ≤ 130 := sizeL_length 130 _ (by have := fits_val h k; unfold Fits at this; omega)
theorem fits_len {z : Int} (h : z.natAbs < 2 ^ 400) : (sizeL z.natAbs).length ≤ 400 := sizeL_length 400 _ h
set_option maxRecDepth 100000 in
set_option maxHeartbeats 16000000 in
theorem sums_any (ah al bh bl : Int) (i1 : I64 ah) (k1 : U64 al) (i2 : I64 bh) (k2 : U64 bl) (w : World) (htab : Tab w) : Calls Tryd.prog 3 #[wideV ah al, wideV bh bl] w (Ret w (.bool true)) := by
  have WK := Lib.hid (fun W (k : Below w.heap.size w W) => wakes_any W (htab.on k))
  have AD := fun W => add_any ah al bh bl i1 k1 i2 k2 W
  have SB := fun W => sub_any ah al bh bl i1 k1 i2 k2 W
  have NG := fun W => neg_any ah al i1 k1 W
  have l1 := word_len ah al i1 k1
  have l2 := word_len bh bl i2 k2
  have f1 := fits_val i1 k1
  have f2 := fits_val i2 k2
  have OA := fun W => refOf_any ah al i1.1 i1.2 k1.1 k1.2 W
  have OB := fun W => refOf_any bh bl i2.1 i2.2 k2.1 k2.2 W
  rw [show ah * 18446744073709551616 + al = val ah al by unfold val; rfl] at OA
  rw [show bh * 18446744073709551616 + bl = val bh bl by unfold val; rfl] at OB
  generalize val ah al = x at *
  generalize val bh bl = y at *
  have RA := Lib.hid (fun u u' W k k' => addZ_any x y (by omega) (by omega) u u' W k k')
  have RS := Lib.hid (fun u u' W k k' => subZ_any x y (by omega) (by omega) u u' W k k')
  have RN := Lib.hid (fun (u : Value) (W : World) (k : NumZ W u x) => (negZ_any x u W k).mono fun _ _ h => retZ_of h)
  have la := fits_len (z := x + y) (by unfold Fits at f1 f2; omega)
  have ls := fits_len (z := x - y) (by unfold Fits at f1 f2; omega)
  have ln := fits_len (z := -x) (by unfold Fits at f1 f2; omega)
  have I1 := fun b A n c W k => is_any (x + y) (by omega) b A n c W k
  have I2 := fun b A n c W k => is_any (x - y) (by omega) b A n c W k
  have I3 := fun b A n c W k => is_any (-x) (by omega) b A n c W k
  rw [show (0 : Int) - x = -x by omega] at NG
  clear f1 f2 l1 l2 la ls ln htab i1 k1 i2 k2
  simp only [roomV] at AD SB NG
  generalize x + y = s at *
  generalize x - y = d at *
  generalize -x = n at *
  generalize rhi s = s0 at *
  generalize rlo s = s1 at *
  generalize rcode s = s2 at *
  generalize rhi d = d0 at *
  generalize rlo d = d1 at *
  generalize rcode d = d2 at *
  generalize rhi n = n0 at *
  generalize rlo n = n1 at *
  generalize rcode n = n2 at *
  replace OA := Lib.hid OA
  replace OB := Lib.hid OB
  replace AD := Lib.hid AD
  replace SB := Lib.hid SB
  replace NG := Lib.hid NG
  replace I1 := Lib.hid I1
  replace I2 := Lib.hid I2
  replace I3 := Lib.hid I3
  go_enter Tryd.func3, Tryd.ntmps3
  go_wp2_with fail
  refine (WK.out _ (by go_grown)).mono ?_
  rintro e w0 ⟨rfl, hb⟩
  have hHeld : Keeps w [(w.heap.size, 0, .int .i64 ah), (w.heap.size, 1, .int .u64 al), (w.heap.size + 1, 0, .int .i64 bh), (w.heap.size + 1, 1, .int .u64 bl)] _ := Keeps.next (by refine ⟨by go_grown, ?_⟩; simp [Cells, go_sem]) hb
  clear hb
  obtain ⟨⟨kz0, kc0, kf0⟩, ⟨kz1, kc1, kf1⟩, ⟨kz2, kc2, kf2⟩, ⟨kz3, kc3, kf3⟩, _⟩ := hHeld.2
  go_upto_region 3 with (fail)
  have hHs : Keeps w [(w.heap.size, 0, .int .i64 ah), (w.heap.size, 1, .int .u64 al), (w.heap.size + 1, 0, .int .i64 bh), (w.heap.size + 1, 1, .int .u64 bl)] w0 := hHeld
  clear hHeld kz0 kc0 kf0 kz1 kc1 kf1 kz2 kc2 kf2 kz3 kc3 kf3
  go_cut [5, 6] (fun s5 s6 wx => ∃ (g : Nat) (b : Bool) (A : Option Addr) (m c : Nat) (g' : Nat) (b' : Bool) (A' : Option Addr) (m' c' : Nat), s5 = .pointer (some ⟨g, 0, none⟩) ∧ s6 = .pointer (some ⟨g', 0, none⟩) ∧ Hid (NumZ wx (.agg #[.bool b, .slice A m c]) x) ∧ Hid (NumZ wx (.agg #[.bool b', .slice A' m' c']) y) ∧ Keeps w [(g, 0, .bool b), (g, 1, .slice A m c), (g', 0, .bool b'), (g', 1, .slice A' m' c'), (w.heap.size, 0, .int .i64 ah), (w.heap.size, 1, .int .u64 al), (w.heap.size + 1, 0, .int .i64 bh), (w.heap.size + 1, 1, .int .u64 bl)] wx)
  case first =>
    refine region_keeps (w0 := w) (L := [(w.heap.size, 0, .int .i64 ah), (w.heap.size, 1, .int .u64 al), (w.heap.size + 1, 0, .int .i64 bh), (w.heap.size + 1, 1, .int .u64 bl)]) (by kernel_rfl) hHs (fun hHeld0 => ?_)
    refine wpAnyH_take (i := 0) (oi := ⟨some 15, _, _, _, _, _⟩) (v := ?_) rfl (by kernel_rfl) (by kernel_rfl) (by kernel_rfl) (fun _ _ _ h => h) (Or.inl ⟨by rfl, ?_⟩) (by assumption) ?_
    rotate_left
    · intro wq hSw; obtain ⟨⟨qz0, qc0, qf0⟩, ⟨qz1, qc1, qf1⟩, ⟨qz2, qc2, qf2⟩, ⟨qz3, qc3, qf3⟩, _⟩ := hSw.2; go_simp; (try with_reducible rfl)
    try simp only [Act.put, List.setIfInBounds_toArray, List.set_cons_zero, List.set_cons_succ]
    refine wpAnyH_take (i := 2) (oi := ⟨some 17, _, _, _, _, _⟩) (v := ?_) rfl (by kernel_rfl) (by kernel_rfl) (by kernel_rfl) (fun _ _ _ h => h) (Or.inl ⟨by rfl, ?_⟩) (by assumption) ?_
    rotate_left
    · intro wq hSw; obtain ⟨⟨qz0, qc0, qf0⟩, ⟨qz1, qc1, qf1⟩, ⟨qz2, qc2, qf2⟩, ⟨qz3, qc3, qf3⟩, _⟩ := hSw.2; go_simp; (try with_reducible rfl)
    try simp only [Act.put, List.setIfInBounds_toArray, List.set_cons_zero, List.set_cons_succ]
    refine wpAnyH_ready (rs := [1, 4, 5]) (by kernel_rfl) (by simp) ?_
    refine AllReadyH.cons (o := ⟨some 16, _, _, _, _, _⟩) rfl (fun K hK => ?_) ?_
    go_simp
    (first | ((with_reducible refine (OA.out _).mono ?_); rintro e wa ⟨ba, Aa, na, ca, rfl, hb, za⟩) | ((with_reducible refine (OB.out _).mono ?_); rintro e wb ⟨bb, Ab, nb, cb, rfl, hb, zb⟩))
    refine hK.out _ _ (hHeld0.next hb) (fun hHeld1 => ?_)
    clear hK K
    try clear hb
    try simp only [Act.put, List.setIfInBounds_toArray, List.set_cons_zero, List.set_cons_succ]
    refine wpAnyH_ready (rs := [3, 4, 5]) (by kernel_rfl) (by simp) ?_
    refine AllReadyH.cons (o := ⟨some 18, _, _, _, _, _⟩) rfl (fun K hK => ?_) ?_
    go_simp
    (first | ((with_reducible refine (OA.out _).mono ?_); rintro e wa ⟨ba, Aa, na, ca, rfl, hb, za⟩) | ((with_reducible refine (OB.out _).mono ?_); rintro e wb ⟨bb, Ab, nb, cb, rfl, hb, zb⟩))
    refine hK.out _ _ (hHeld1.next hb) (fun hHeld2 => ?_)
    (try replace za := za.below hb)
    clear hK K
    try clear hb
    try simp only [Act.put, List.setIfInBounds_toArray, List.set_cons_zero, List.set_cons_succ]
    refine wpAnyH_ready (rs := [4, 5]) (by kernel_rfl) (by simp) ?_
    refine AllReadyH.cons (o := ⟨some 5, _, _, _, _, _⟩) rfl (fun K hK => ?_) ?_
    have lo5 := hHeld2.1.size
    obtain ⟨⟨a5_z0, a5_c0, a5_f0⟩, ⟨a5_z1, a5_c1, a5_f1⟩, ⟨a5_z2, a5_c2, a5_f2⟩, ⟨a5_z3, a5_c3, a5_f3⟩, _⟩ := hHeld2.2
    (try simp at lo5); (try simp at a5_z0); (try simp at a5_z1); (try simp at a5_z2); (try simp at a5_z3)
    go_simp
    refine hK.out _ _ (by first | exact hHeld2.alloc _ | exact (hHeld2.alloc _).drew) (fun hHeld3 => ?_)
    (try replace za := za.alloc2 hHeld3)
    (try replace zb := zb.alloc2 hHeld3)
    first | have hS5 := newK2 hHeld3 | have hS5 := newK2d hHeld3
    clear hK K
    try clear hb
    try simp only [Act.put, List.setIfInBounds_toArray, List.set_cons_zero, List.set_cons_succ]
    generalize hGWA1 : World.alloc wb (.cells #[.bool false, .slice none 0 0] 28) = WA1 at *
    clear hGWA1
    refine wpAnyH_ready (rs := [5]) (by kernel_rfl) (by simp) ?_
    refine AllReadyH.cons (o := ⟨some 6, _, _, _, _, _⟩) rfl (fun K hK => ?_) AllReadyH.nil
    have hne5_6 := hS5.2.1.1
    have lo6 := hHeld3.1.size
    obtain ⟨⟨a6_z0, a6_c0, a6_f0⟩, ⟨a6_z1, a6_c1, a6_f1⟩, ⟨a6_z2, a6_c2, a6_f2⟩, ⟨a6_z3, a6_c3, a6_f3⟩, _⟩ := hHeld3.2
    (try simp at lo6); (try simp at hne5_6); (try simp at a6_z0); (try simp at a6_z1); (try simp at a6_z2); (try simp at a6_z3)
    go_simp
    refine hK.out _ _ (by first | exact hHeld3.alloc _ | exact (hHeld3.alloc _).drew) (fun hHeld4 => ?_)
    first | replace hS5 := hS5.alloc2e hHeld4 | replace hS5 := hS5.alloc2 hHeld4
    (try replace za := za.alloc2 hHeld4)
    (try replace zb := zb.alloc2 hHeld4)
    first | have hS6 := newK2 hHeld4 | have hS6 := newK2d hHeld4
    clear hK K
    try clear hb
    try simp only [Act.put, List.setIfInBounds_toArray, List.set_cons_zero, List.set_cons_succ]
    generalize hGWA2 : World.alloc WA1 (.cells #[.bool false, .slice none 0 0] 28) = WA2 at *
    clear hGWA2
    refine wpAnyH_ready (rs := [6]) (by kernel_rfl) (by simp) ?_
    refine AllReadyH.cons (o := ⟨none, _, _, _, _, _⟩) rfl (fun K hK => ?_) AllReadyH.nil
    obtain ⟨⟨s5z0, s5c0, s5f0⟩, ⟨s5z1, s5c1, s5f1⟩, _⟩ := hS5.2
    go_simp
    refine hK.out _ _ (by (repeat (first | (with_reducible exact hHeld4) | (refine Keeps.set ?_ (by simp <;> omega) (by simp <;> omega) _)))) (fun hHeld5 => ?_)
    replace hS6 := hS6.mv2 hHeld5 (by first | omega | (simp <;> omega)) (by simp <;> omega)
    (try replace za := za.store2 hHeld5 s5c0 s5c1)
    (try replace zb := zb.store2 hHeld5 s5c0 s5c1)
    replace hS5 := hHeld5.add2 s5z0 s5c0 s5f0 s5c1 s5f1
    clear s5z0 s5c0 s5f0 s5z1 s5c1 s5f1
    clear hK K
    try clear hb
    try simp only [Act.put, List.setIfInBounds_toArray, List.set_cons_zero, List.set_cons_succ]
    generalize hGWA3 : World.setCell (World.setCell WA2 ⟨wb.heap.size, 0, none⟩ (.bool ba)) ⟨wb.heap.size, 1, none⟩ (.slice Aa na ca) = WA3 at *
    clear hGWA3
    refine wpAnyH_ready (rs := [7]) (by kernel_rfl) (by simp) ?_
    refine AllReadyH.cons (o := ⟨none, _, _, _, _, _⟩) rfl (fun K hK => ?_) AllReadyH.nil
    obtain ⟨⟨s6z0, s6c0, s6f0⟩, ⟨s6z1, s6c1, s6f1⟩, _⟩ := hS6.2
    go_simp
    refine hK.out _ _ (by (repeat (first | (with_reducible exact hHeld5) | (refine Keeps.set ?_ (by simp <;> omega) (by simp <;> omega) _)))) (fun hHeld6 => ?_)
    replace hS5 := hS5.mv2 hHeld6 (by first | omega | (simp <;> omega)) (by simp <;> omega)
    (try replace za := za.store2 hHeld6 s6c0 s6c1)
    (try replace zb := zb.store2 hHeld6 s6c0 s6c1)
    replace hS6 := hHeld6.add2 s6z0 s6c0 s6f0 s6c1 s6f1
    clear s6z0 s6c0 s6f0 s6z1 s6c1 s6f1
    clear hK K
    try clear hb
    try simp only [Act.put, List.setIfInBounds_toArray, List.set_cons_zero, List.set_cons_succ]
    generalize hGWA4 : World.setCell (World.setCell WA3 ⟨WA1.heap.size, 0, none⟩ (.bool bb)) ⟨WA1.heap.size, 1, none⟩ (.slice Ab nb cb) = WA4 at *
    clear hGWA4
    refine wpAnyH_done (by kernel_rfl) ?_ _
    have hHeld := hHeld6
    rotate_left 1
    refine AllReadyH.cons (o := ⟨some 6, _, _, _, _, _⟩) rfl (fun K hK => ?_) ?_
    have lo6 := hHeld2.1.size
    obtain ⟨⟨a6_z0, a6_c0, a6_f0⟩, ⟨a6_z1, a6_c1, a6_f1⟩, ⟨a6_z2, a6_c2, a6_f2⟩, ⟨a6_z3, a6_c3, a6_f3⟩, _⟩ := hHeld2.2
    (try simp at lo6); (try simp at a6_z0); (try simp at a6_z1); (try simp at a6_z2); (try simp at a6_z3)
    go_simp
    refine hK.out _ _ (by first | exact hHeld2.alloc _ | exact (hHeld2.alloc _).drew) (fun hHeld7 => ?_)
    (try replace za := za.alloc2 hHeld7)
    (try replace zb := zb.alloc2 hHeld7)
    first | have hS6 := newK2 hHeld7 | have hS6 := newK2d hHeld7
    clear hK K
    try clear hb
    try simp only [Act.put, List.setIfInBounds_toArray, List.set_cons_zero, List.set_cons_succ]
    generalize hGWA5 : World.alloc wb (.cells #[.bool false, .slice none 0 0] 28) = WA5 at *
    clear hGWA5
    refine wpAnyH_ready (rs := [4]) (by kernel_rfl) (by simp) ?_
    refine AllReadyH.cons (o := ⟨some 5, _, _, _, _, _⟩) rfl (fun K hK => ?_) AllReadyH.nil
    have hne6_5 := hS6.2.1.1
    have lo5 := hHeld7.1.size
    obtain ⟨⟨a5_z0, a5_c0, a5_f0⟩, ⟨a5_z1, a5_c1, a5_f1⟩, ⟨a5_z2, a5_c2, a5_f2⟩, ⟨a5_z3, a5_c3, a5_f3⟩, _⟩ := hHeld7.2
    (try simp at lo5); (try simp at hne6_5); (try simp at a5_z0); (try simp at a5_z1); (try simp at a5_z2); (try simp at a5_z3)
    go_simp
    refine hK.out _ _ (by first | exact hHeld7.alloc _ | exact (hHeld7.alloc _).drew) (fun hHeld8 => ?_)
    first | replace hS6 := hS6.alloc2e hHeld8 | replace hS6 := hS6.alloc2 hHeld8
    (try replace za := za.alloc2 hHeld8)
    (try replace zb := zb.alloc2 hHeld8)
    first | have hS5 := newK2 hHeld8 | have hS5 := newK2d hHeld8
    clear hK K
    try clear hb
    try simp only [Act.put, List.setIfInBounds_toArray, List.set_cons_zero, List.set_cons_succ]
    generalize hGWA6 : World.alloc WA5 (.cells #[.bool false, .slice none 0 0] 28) = WA6 at *
    clear hGWA6
    refine wpAnyH_ready (rs := [6]) (by kernel_rfl) (by simp) ?_
    refine AllReadyH.cons (o := ⟨none, _, _, _, _, _⟩) rfl (fun K hK => ?_) AllReadyH.nil
    obtain ⟨⟨s5z0, s5c0, s5f0⟩, ⟨s5z1, s5c1, s5f1⟩, _⟩ := hS5.2
    go_simp
    refine hK.out _ _ (by (repeat (first | (with_reducible exact hHeld8) | (refine Keeps.set ?_ (by simp <;> omega) (by simp <;> omega) _)))) (fun hHeld9 => ?_)
    replace hS6 := hS6.mv2 hHeld9 (by first | omega | (simp <;> omega)) (by simp <;> omega)
    (try replace za := za.store2 hHeld9 s5c0 s5c1)
    (try replace zb := zb.store2 hHeld9 s5c0 s5c1)
    replace hS5 := hHeld9.add2 s5z0 s5c0 s5f0 s5c1 s5f1
    clear s5z0 s5c0 s5f0 s5z1 s5c1 s5f1
    clear hK K
    try clear hb
    try simp only [Act.put, List.setIfInBounds_toArray, List.set_cons_zero, List.set_cons_succ]
    generalize hGWA7 : World.setCell (World.setCell WA6 ⟨WA5.heap.size, 0, none⟩ (.bool ba)) ⟨WA5.heap.size, 1, none⟩ (.slice Aa na ca) = WA7 at *
    clear hGWA7
    refine wpAnyH_ready (rs := [7]) (by kernel_rfl) (by simp) ?_
    refine AllReadyH.cons (o := ⟨none, _, _, _, _, _⟩) rfl (fun K hK => ?_) AllReadyH.nil
    obtain ⟨⟨s6z0, s6c0, s6f0⟩, ⟨s6z1, s6c1, s6f1⟩, _⟩ := hS6.2
    go_simp
    refine hK.out _ _ (by (repeat (first | (with_reducible exact hHeld9) | (refine Keeps.set ?_ (by simp <;> omega) (by simp <;> omega) _)))) (fun hHeld10 => ?_)
    replace hS5 := hS5.mv2 hHeld10 (by first | omega | (simp <;> omega)) (by simp <;> omega)
    (try replace za := za.store2 hHeld10 s6c0 s6c1)
    (try replace zb := zb.store2 hHeld10 s6c0 s6c1)
    replace hS6 := hHeld10.add2 s6z0 s6c0 s6f0 s6c1 s6f1
    clear s6z0 s6c0 s6f0 s6z1 s6c1 s6f1
    clear hK K
    try clear hb
    try simp only [Act.put, List.setIfInBounds_toArray, List.set_cons_zero, List.set_cons_succ]
    generalize hGWA8 : World.setCell (World.setCell WA7 ⟨wb.heap.size, 0, none⟩ (.bool bb)) ⟨wb.heap.size, 1, none⟩ (.slice Ab nb cb) = WA8 at *
    clear hGWA8
    refine wpAnyH_done (by kernel_rfl) ?_ _
    have hHeld := hHeld10
    rotate_left 1
    exact AllReadyH.nil
    refine AllReadyH.cons (o := ⟨some 5, _, _, _, _, _⟩) rfl (fun K hK => ?_) ?_
    have lo5 := hHeld1.1.size
    obtain ⟨⟨a5_z0, a5_c0, a5_f0⟩, ⟨a5_z1, a5_c1, a5_f1⟩, ⟨a5_z2, a5_c2, a5_f2⟩, ⟨a5_z3, a5_c3, a5_f3⟩, _⟩ := hHeld1.2
    (try simp at lo5); (try simp at a5_z0); (try simp at a5_z1); (try simp at a5_z2); (try simp at a5_z3)
    go_simp
    refine hK.out _ _ (by first | exact hHeld1.alloc _ | exact (hHeld1.alloc _).drew) (fun hHeld11 => ?_)
    (try replace za := za.alloc2 hHeld11)
    first | have hS5 := newK2 hHeld11 | have hS5 := newK2d hHeld11
    clear hK K
    try clear hb
    try simp only [Act.put, List.setIfInBounds_toArray, List.set_cons_zero, List.set_cons_succ]
    generalize hGWA9 : World.alloc wa (.cells #[.bool false, .slice none 0 0] 28) = WA9 at *
    clear hGWA9
    refine wpAnyH_ready (rs := [3, 5]) (by kernel_rfl) (by simp) ?_
    refine AllReadyH.cons (o := ⟨some 18, _, _, _, _, _⟩) rfl (fun K hK => ?_) ?_
    go_simp
    (first | ((with_reducible refine (OA.out _).mono ?_); rintro e wa ⟨ba, Aa, na, ca, rfl, hb, za⟩) | ((with_reducible refine (OB.out _).mono ?_); rintro e wb ⟨bb, Ab, nb, cb, rfl, hb, zb⟩))
    refine hK.out _ _ (hHeld11.next hb) (fun hHeld12 => ?_)
    replace hS5 := hS5.next hb
    (try replace za := za.below hb)
    clear hK K
    try clear hb
    try simp only [Act.put, List.setIfInBounds_toArray, List.set_cons_zero, List.set_cons_succ]
    refine wpAnyH_ready (rs := [5]) (by kernel_rfl) (by simp) ?_
    refine AllReadyH.cons (o := ⟨some 6, _, _, _, _, _⟩) rfl (fun K hK => ?_) AllReadyH.nil
    have hne5_6 := hS5.2.1.1
    have lo6 := hHeld12.1.size
    obtain ⟨⟨a6_z0, a6_c0, a6_f0⟩, ⟨a6_z1, a6_c1, a6_f1⟩, ⟨a6_z2, a6_c2, a6_f2⟩, ⟨a6_z3, a6_c3, a6_f3⟩, _⟩ := hHeld12.2
    (try simp at lo6); (try simp at hne5_6); (try simp at a6_z0); (try simp at a6_z1); (try simp at a6_z2); (try simp at a6_z3)
    go_simp
    refine hK.out _ _ (by first | exact hHeld12.alloc _ | exact (hHeld12.alloc _).drew) (fun hHeld13 => ?_)
    first | replace hS5 := hS5.alloc2e hHeld13 | replace hS5 := hS5.alloc2 hHeld13
    (try replace za := za.alloc2 hHeld13)
    (try replace zb := zb.alloc2 hHeld13)
    first | have hS6 := newK2 hHeld13 | have hS6 := newK2d hHeld13
    clear hK K
    try clear hb
    try simp only [Act.put, List.setIfInBounds_toArray, List.set_cons_zero, List.set_cons_succ]
    generalize hGWA10 : World.alloc wb (.cells #[.bool false, .slice none 0 0] 28) = WA10 at *
    clear hGWA10
    refine wpAnyH_ready (rs := [6]) (by kernel_rfl) (by simp) ?_
    refine AllReadyH.cons (o := ⟨none, _, _, _, _, _⟩) rfl (fun K hK => ?_) AllReadyH.nil
    obtain ⟨⟨s5z0, s5c0, s5f0⟩, ⟨s5z1, s5c1, s5f1⟩, _⟩ := hS5.2
    go_simp
    refine hK.out _ _ (by (repeat (first | (with_reducible exact hHeld13) | (refine Keeps.set ?_ (by simp <;> omega) (by simp <;> omega) _)))) (fun hHeld14 => ?_)
    replace hS6 := hS6.mv2 hHeld14 (by first | omega | (simp <;> omega)) (by simp <;> omega)
    (try replace za := za.store2 hHeld14 s5c0 s5c1)
    (try replace zb := zb.store2 hHeld14 s5c0 s5c1)
    replace hS5 := hHeld14.add2 s5z0 s5c0 s5f0 s5c1 s5f1
    clear s5z0 s5c0 s5f0 s5z1 s5c1 s5f1
    clear hK K
    try clear hb
    try simp only [Act.put, List.setIfInBounds_toArray, List.set_cons_zero, List.set_cons_succ]
    generalize hGWA11 : World.setCell (World.setCell WA10 ⟨wa.heap.size, 0, none⟩ (.bool ba)) ⟨wa.heap.size, 1, none⟩ (.slice Aa na ca) = WA11 at *
    clear hGWA11
    refine wpAnyH_ready (rs := [7]) (by kernel_rfl) (by simp) ?_
    refine AllReadyH.cons (o := ⟨none, _, _, _, _, _⟩) rfl (fun K hK => ?_) AllReadyH.nil
    obtain ⟨⟨s6z0, s6c0, s6f0⟩, ⟨s6z1, s6c1, s6f1⟩, _⟩ := hS6.2
    go_simp
    refine hK.out _ _ (by (repeat (first | (with_reducible exact hHeld14) | (refine Keeps.set ?_ (by simp <;> omega) (by simp <;> omega) _)))) (fun hHeld15 => ?_)
    replace hS5 := hS5.mv2 hHeld15 (by first | omega | (simp <;> omega)) (by simp <;> omega)
    (try replace za := za.store2 hHeld15 s6c0 s6c1)
    (try replace zb := zb.store2 hHeld15 s6c0 s6c1)
    replace hS6 := hHeld15.add2 s6z0 s6c0 s6f0 s6c1 s6f1
    clear s6z0 s6c0 s6f0 s6z1 s6c1 s6f1
    clear hK K
    try clear hb
    try simp only [Act.put, List.setIfInBounds_toArray, List.set_cons_zero, List.set_cons_succ]
    generalize hGWA12 : World.setCell (World.setCell WA11 ⟨wb.heap.size, 0, none⟩ (.bool bb)) ⟨wb.heap.size, 1, none⟩ (.slice Ab nb cb) = WA12 at *
    clear hGWA12
    refine wpAnyH_done (by kernel_rfl) ?_ _
    have hHeld := hHeld15
    rotate_left 1
    refine AllReadyH.cons (o := ⟨some 6, _, _, _, _, _⟩) rfl (fun K hK => ?_) ?_
    have hne5_6 := hS5.2.1.1
    have lo6 := hHeld11.1.size
    obtain ⟨⟨a6_z0, a6_c0, a6_f0⟩, ⟨a6_z1, a6_c1, a6_f1⟩, ⟨a6_z2, a6_c2, a6_f2⟩, ⟨a6_z3, a6_c3, a6_f3⟩, _⟩ := hHeld11.2
    (try simp at lo6); (try simp at hne5_6); (try simp at a6_z0); (try simp at a6_z1); (try simp at a6_z2); (try simp at a6_z3)
    go_simp
    refine hK.out _ _ (by first | exact hHeld11.alloc _ | exact (hHeld11.alloc _).drew) (fun hHeld16 => ?_)
    first | replace hS5 := hS5.alloc2e hHeld16 | replace hS5 := hS5.alloc2 hHeld16
    (try replace za := za.alloc2 hHeld16)
    first | have hS6 := newK2 hHeld16 | have hS6 := newK2d hHeld16
    clear hK K
    try clear hb
    try simp only [Act.put, List.setIfInBounds_toArray, List.set_cons_zero, List.set_cons_succ]
    generalize hGWA13 : World.alloc WA9 (.cells #[.bool false, .slice none 0 0] 28) = WA13 at *
    clear hGWA13
    refine wpAnyH_ready (rs := [3]) (by kernel_rfl) (by simp) ?_
    refine AllReadyH.cons (o := ⟨some 18, _, _, _, _, _⟩) rfl (fun K hK => ?_) AllReadyH.nil
    go_simp
    (first | ((with_reducible refine (OA.out _).mono ?_); rintro e wa ⟨ba, Aa, na, ca, rfl, hb, za⟩) | ((with_reducible refine (OB.out _).mono ?_); rintro e wb ⟨bb, Ab, nb, cb, rfl, hb, zb⟩))
    refine hK.out _ _ (hHeld16.next hb) (fun hHeld17 => ?_)
    replace hS5 := hS5.next hb
    replace hS6 := hS6.next hb
    (try replace za := za.below hb)
    clear hK K
    try clear hb
    try simp only [Act.put, List.setIfInBounds_toArray, List.set_cons_zero, List.set_cons_succ]
    refine wpAnyH_ready (rs := [6]) (by kernel_rfl) (by simp) ?_
    refine AllReadyH.cons (o := ⟨none, _, _, _, _, _⟩) rfl (fun K hK => ?_) AllReadyH.nil
    obtain ⟨⟨s5z0, s5c0, s5f0⟩, ⟨s5z1, s5c1, s5f1⟩, _⟩ := hS5.2
    go_simp
    refine hK.out _ _ (by (repeat (first | (with_reducible exact hHeld17) | (refine Keeps.set ?_ (by simp <;> omega) (by simp <;> omega) _)))) (fun hHeld18 => ?_)
    replace hS6 := hS6.mv2 hHeld18 (by first | omega | (simp <;> omega)) (by simp <;> omega)
    (try replace za := za.store2 hHeld18 s5c0 s5c1)
    (try replace zb := zb.store2 hHeld18 s5c0 s5c1)
    replace hS5 := hHeld18.add2 s5z0 s5c0 s5f0 s5c1 s5f1
    clear s5z0 s5c0 s5f0 s5z1 s5c1 s5f1
    clear hK K
    try clear hb
    try simp only [Act.put, List.setIfInBounds_toArray, List.set_cons_zero, List.set_cons_succ]
    generalize hGWA14 : World.setCell (World.setCell wb ⟨wa.heap.size, 0, none⟩ (.bool ba)) ⟨wa.heap.size, 1, none⟩ (.slice Aa na ca) = WA14 at *
    clear hGWA14
    refine wpAnyH_ready (rs := [7]) (by kernel_rfl) (by simp) ?_
    refine AllReadyH.cons (o := ⟨none, _, _, _, _, _⟩) rfl (fun K hK => ?_) AllReadyH.nil
    obtain ⟨⟨s6z0, s6c0, s6f0⟩, ⟨s6z1, s6c1, s6f1⟩, _⟩ := hS6.2
    go_simp
    refine hK.out _ _ (by (repeat (first | (with_reducible exact hHeld18) | (refine Keeps.set ?_ (by simp <;> omega) (by simp <;> omega) _)))) (fun hHeld19 => ?_)
    replace hS5 := hS5.mv2 hHeld19 (by first | omega | (simp <;> omega)) (by simp <;> omega)
    (try replace za := za.store2 hHeld19 s6c0 s6c1)
    (try replace zb := zb.store2 hHeld19 s6c0 s6c1)
    replace hS6 := hHeld19.add2 s6z0 s6c0 s6f0 s6c1 s6f1
    clear s6z0 s6c0 s6f0 s6z1 s6c1 s6f1
    clear hK K
    try clear hb
    try simp only [Act.put, List.setIfInBounds_toArray, List.set_cons_zero, List.set_cons_succ]
    generalize hGWA15 : World.setCell (World.setCell WA14 ⟨WA9.heap.size, 0, none⟩ (.bool bb)) ⟨WA9.heap.size, 1, none⟩ (.slice Ab nb cb) = WA15 at *
    clear hGWA15
    refine wpAnyH_done (by kernel_rfl) ?_ _
    have hHeld := hHeld19
    rotate_left 1
    exact AllReadyH.nil
    refine AllReadyH.cons (o := ⟨some 6, _, _, _, _, _⟩) rfl (fun K hK => ?_) ?_
    have lo6 := hHeld1.1.size
    obtain ⟨⟨a6_z0, a6_c0, a6_f0⟩, ⟨a6_z1, a6_c1, a6_f1⟩, ⟨a6_z2, a6_c2, a6_f2⟩, ⟨a6_z3, a6_c3, a6_f3⟩, _⟩ := hHeld1.2
    (try simp at lo6); (try simp at a6_z0); (try simp at a6_z1); (try simp at a6_z2); (try simp at a6_z3)
    go_simp
    refine hK.out _ _ (by first | exact hHeld1.alloc _ | exact (hHeld1.alloc _).drew) (fun hHeld20 => ?_)
    (try replace za := za.alloc2 hHeld20)
    first | have hS6 := newK2 hHeld20 | have hS6 := newK2d hHeld20
    clear hK K
    try clear hb
    try simp only [Act.put, List.setIfInBounds_toArray, List.set_cons_zero, List.set_cons_succ]
    generalize hGWA16 : World.alloc wa (.cells #[.bool false, .slice none 0 0] 28) = WA16 at *
    clear hGWA16
    refine wpAnyH_ready (rs := [3, 4]) (by kernel_rfl) (by simp) ?_
    refine AllReadyH.cons (o := ⟨some 18, _, _, _, _, _⟩) rfl (fun K hK => ?_) ?_
    go_simp
    (first | ((with_reducible refine (OA.out _).mono ?_); rintro e wa ⟨ba, Aa, na, ca, rfl, hb, za⟩) | ((with_reducible refine (OB.out _).mono ?_); rintro e wb ⟨bb, Ab, nb, cb, rfl, hb, zb⟩))
    refine hK.out _ _ (hHeld20.next hb) (fun hHeld21 => ?_)
    replace hS6 := hS6.next hb
    (try replace za := za.below hb)
    clear hK K
    try clear hb
    try simp only [Act.put, List.setIfInBounds_toArray, List.set_cons_zero, List.set_cons_succ]
    refine wpAnyH_ready (rs := [4]) (by kernel_rfl) (by simp) ?_
    refine AllReadyH.cons (o := ⟨some 5, _, _, _, _, _⟩) rfl (fun K hK => ?_) AllReadyH.nil
    have hne6_5 := hS6.2.1.1
    have lo5 := hHeld21.1.size
    obtain ⟨⟨a5_z0, a5_c0, a5_f0⟩, ⟨a5_z1, a5_c1, a5_f1⟩, ⟨a5_z2, a5_c2, a5_f2⟩, ⟨a5_z3, a5_c3, a5_f3⟩, _⟩ := hHeld21.2
    (try simp at lo5); (try simp at hne6_5); (try simp at a5_z0); (try simp at a5_z1); (try simp at a5_z2); (try simp at a5_z3)
    go_simp
    refine hK.out _ _ (by first | exact hHeld21.alloc _ | exact (hHeld21.alloc _).drew) (fun hHeld22 => ?_)
    first | replace hS6 := hS6.alloc2e hHeld22 | replace hS6 := hS6.alloc2 hHeld22
    (try replace za := za.alloc2 hHeld22)
    (try replace zb := zb.alloc2 hHeld22)
    first | have hS5 := newK2 hHeld22 | have hS5 := newK2d hHeld22
    clear hK K
    try clear hb
    try simp only [Act.put, List.setIfInBounds_toArray, List.set_cons_zero, List.set_cons_succ]
    generalize hGWA17 : World.alloc wb (.cells #[.bool false, .slice none 0 0] 28) = WA17 at *
    clear hGWA17
    refine wpAnyH_ready (rs := [6]) (by kernel_rfl) (by simp) ?_
    refine AllReadyH.cons (o := ⟨none, _, _, _, _, _⟩) rfl (fun K hK => ?_) AllReadyH.nil
    obtain ⟨⟨s5z0, s5c0, s5f0⟩, ⟨s5z1, s5c1, s5f1⟩, _⟩ := hS5.2
    go_simp
    refine hK.out _ _ (by (repeat (first | (with_reducible exact hHeld22) | (refine Keeps.set ?_ (by simp <;> omega) (by simp <;> omega) _)))) (fun hHeld23 => ?_)
    replace hS6 := hS6.mv2 hHeld23 (by first | omega | (simp <;> omega)) (by simp <;> omega)
    (try replace za := za.store2 hHeld23 s5c0 s5c1)
    (try replace zb := zb.store2 hHeld23 s5c0 s5c1)
    replace hS5 := hHeld23.add2 s5z0 s5c0 s5f0 s5c1 s5f1
    clear s5z0 s5c0 s5f0 s5z1 s5c1 s5f1
    clear hK K
    try clear hb
    try simp only [Act.put, List.setIfInBounds_toArray, List.set_cons_zero, List.set_cons_succ]
    generalize hGWA18 : World.setCell (World.setCell WA17 ⟨wb.heap.size, 0, none⟩ (.bool ba)) ⟨wb.heap.size, 1, none⟩ (.slice Aa na ca) = WA18 at *
    clear hGWA18
    refine wpAnyH_ready (rs := [7]) (by kernel_rfl) (by simp) ?_
    refine AllReadyH.cons (o := ⟨none, _, _, _, _, _⟩) rfl (fun K hK => ?_) AllReadyH.nil
    obtain ⟨⟨s6z0, s6c0, s6f0⟩, ⟨s6z1, s6c1, s6f1⟩, _⟩ := hS6.2
    go_simp
    refine hK.out _ _ (by (repeat (first | (with_reducible exact hHeld23) | (refine Keeps.set ?_ (by simp <;> omega) (by simp <;> omega) _)))) (fun hHeld24 => ?_)
    replace hS5 := hS5.mv2 hHeld24 (by first | omega | (simp <;> omega)) (by simp <;> omega)
    (try replace za := za.store2 hHeld24 s6c0 s6c1)
    (try replace zb := zb.store2 hHeld24 s6c0 s6c1)
    replace hS6 := hHeld24.add2 s6z0 s6c0 s6f0 s6c1 s6f1
    clear s6z0 s6c0 s6f0 s6z1 s6c1 s6f1
    clear hK K
    try clear hb
    try simp only [Act.put, List.setIfInBounds_toArray, List.set_cons_zero, List.set_cons_succ]
    generalize hGWA19 : World.setCell (World.setCell WA18 ⟨wa.heap.size, 0, none⟩ (.bool bb)) ⟨wa.heap.size, 1, none⟩ (.slice Ab nb cb) = WA19 at *
    clear hGWA19
    refine wpAnyH_done (by kernel_rfl) ?_ _
    have hHeld := hHeld24
    rotate_left 1
    refine AllReadyH.cons (o := ⟨some 5, _, _, _, _, _⟩) rfl (fun K hK => ?_) ?_
    have hne6_5 := hS6.2.1.1
    have lo5 := hHeld20.1.size
    obtain ⟨⟨a5_z0, a5_c0, a5_f0⟩, ⟨a5_z1, a5_c1, a5_f1⟩, ⟨a5_z2, a5_c2, a5_f2⟩, ⟨a5_z3, a5_c3, a5_f3⟩, _⟩ := hHeld20.2
    (try simp at lo5); (try simp at hne6_5); (try simp at a5_z0); (try simp at a5_z1); (try simp at a5_z2); (try simp at a5_z3)
    go_simp
    refine hK.out _ _ (by first | exact hHeld20.alloc _ | exact (hHeld20.alloc _).drew) (fun hHeld25 => ?_)
    first | replace hS6 := hS6.alloc2e hHeld25 | replace hS6 := hS6.alloc2 hHeld25
    (try replace za := za.alloc2 hHeld25)
    first | have hS5 := newK2 hHeld25 | have hS5 := newK2d hHeld25
    clear hK K
    try clear hb
    try simp only [Act.put, List.setIfInBounds_toArray, List.set_cons_zero, List.set_cons_succ]
    generalize hGWA20 : World.alloc WA16 (.cells #[.bool false, .slice none 0 0] 28) = WA20 at *
    clear hGWA20
    refine wpAnyH_ready (rs := [3]) (by kernel_rfl) (by simp) ?_
    refine AllReadyH.cons (o := ⟨some 18, _, _, _, _, _⟩) rfl (fun K hK => ?_) AllReadyH.nil
    go_simp
    (first | ((with_reducible refine (OA.out _).mono ?_); rintro e wa ⟨ba, Aa, na, ca, rfl, hb, za⟩) | ((with_reducible refine (OB.out _).mono ?_); rintro e wb ⟨bb, Ab, nb, cb, rfl, hb, zb⟩))
    refine hK.out _ _ (hHeld25.next hb) (fun hHeld26 => ?_)
    replace hS6 := hS6.next hb
    replace hS5 := hS5.next hb
    (try replace za := za.below hb)
    clear hK K
    try clear hb
    try simp only [Act.put, List.setIfInBounds_toArray, List.set_cons_zero, List.set_cons_succ]
    refine wpAnyH_ready (rs := [6]) (by kernel_rfl) (by simp) ?_
    refine AllReadyH.cons (o := ⟨none, _, _, _, _, _⟩) rfl (fun K hK => ?_) AllReadyH.nil
    obtain ⟨⟨s5z0, s5c0, s5f0⟩, ⟨s5z1, s5c1, s5f1⟩, _⟩ := hS5.2
    go_simp
    refine hK.out _ _ (by (repeat (first | (with_reducible exact hHeld26) | (refine Keeps.set ?_ (by simp <;> omega) (by simp <;> omega) _)))) (fun hHeld27 => ?_)
    replace hS6 := hS6.mv2 hHeld27 (by first | omega | (simp <;> omega)) (by simp <;> omega)
    (try replace za := za.store2 hHeld27 s5c0 s5c1)
    (try replace zb := zb.store2 hHeld27 s5c0 s5c1)
    replace hS5 := hHeld27.add2 s5z0 s5c0 s5f0 s5c1 s5f1
    clear s5z0 s5c0 s5f0 s5z1 s5c1 s5f1
    clear hK K
    try clear hb
    try simp only [Act.put, List.setIfInBounds_toArray, List.set_cons_zero, List.set_cons_succ]
    generalize hGWA21 : World.setCell (World.setCell wb ⟨WA16.heap.size, 0, none⟩ (.bool ba)) ⟨WA16.heap.size, 1, none⟩ (.slice Aa na ca) = WA21 at *
    clear hGWA21
    refine wpAnyH_ready (rs := [7]) (by kernel_rfl) (by simp) ?_
    refine AllReadyH.cons (o := ⟨none, _, _, _, _, _⟩) rfl (fun K hK => ?_) AllReadyH.nil
    obtain ⟨⟨s6z0, s6c0, s6f0⟩, ⟨s6z1, s6c1, s6f1⟩, _⟩ := hS6.2
    go_simp
    refine hK.out _ _ (by (repeat (first | (with_reducible exact hHeld27) | (refine Keeps.set ?_ (by simp <;> omega) (by simp <;> omega) _)))) (fun hHeld28 => ?_)
    replace hS5 := hS5.mv2 hHeld28 (by first | omega | (simp <;> omega)) (by simp <;> omega)
    (try replace za := za.store2 hHeld28 s6c0 s6c1)
    (try replace zb := zb.store2 hHeld28 s6c0 s6c1)
    replace hS6 := hHeld28.add2 s6z0 s6c0 s6f0 s6c1 s6f1
    clear s6z0 s6c0 s6f0 s6z1 s6c1 s6f1
    clear hK K
    try clear hb
    try simp only [Act.put, List.setIfInBounds_toArray, List.set_cons_zero, List.set_cons_succ]
    generalize hGWA22 : World.setCell (World.setCell WA21 ⟨wa.heap.size, 0, none⟩ (.bool bb)) ⟨wa.heap.size, 1, none⟩ (.slice Ab nb cb) = WA22 at *
    clear hGWA22
    refine wpAnyH_done (by kernel_rfl) ?_ _
    have hHeld := hHeld28
    rotate_left 1
    exact AllReadyH.nil
    exact AllReadyH.nil
    refine AllReadyH.cons (o := ⟨some 5, _, _, _, _, _⟩) rfl (fun K hK => ?_) ?_
    have lo5 := hHeld0.1.size
    obtain ⟨⟨a5_z0, a5_c0, a5_f0⟩, ⟨a5_z1, a5_c1, a5_f1⟩, ⟨a5_z2, a5_c2, a5_f2⟩, ⟨a5_z3, a5_c3, a5_f3⟩, _⟩ := hHeld0.2
    (try simp at lo5); (try simp at a5_z0); (try simp at a5_z1); (try simp at a5_z2); (try simp at a5_z3)
    go_simp
    refine hK.out _ _ (by first | exact hHeld0.alloc _ | exact (hHeld0.alloc _).drew) (fun hHeld29 => ?_)
    first | have hS5 := newK2 hHeld29 | have hS5 := newK2d hHeld29
    clear hK K
    try clear hb
    try simp only [Act.put, List.setIfInBounds_toArray, List.set_cons_zero, List.set_cons_succ]
    generalize hGWA23 : World.alloc w0 (.cells #[.bool false, .slice none 0 0] 28) = WA23 at *
    clear hGWA23
    refine wpAnyH_ready (rs := [1, 5]) (by kernel_rfl) (by simp) ?_
    refine AllReadyH.cons (o := ⟨some 16, _, _, _, _, _⟩) rfl (fun K hK => ?_) ?_
    go_simp
    (first | ((with_reducible refine (OA.out _).mono ?_); rintro e wa ⟨ba, Aa, na, ca, rfl, hb, za⟩) | ((with_reducible refine (OB.out _).mono ?_); rintro e wb ⟨bb, Ab, nb, cb, rfl, hb, zb⟩))
    refine hK.out _ _ (hHeld29.next hb) (fun hHeld30 => ?_)
    replace hS5 := hS5.next hb
    clear hK K
    try clear hb
    try simp only [Act.put, List.setIfInBounds_toArray, List.set_cons_zero, List.set_cons_succ]
    refine wpAnyH_ready (rs := [3, 5]) (by kernel_rfl) (by simp) ?_
    refine AllReadyH.cons (o := ⟨some 18, _, _, _, _, _⟩) rfl (fun K hK => ?_) ?_
    go_simp
    (first | ((with_reducible refine (OA.out _).mono ?_); rintro e wa ⟨ba, Aa, na, ca, rfl, hb, za⟩) | ((with_reducible refine (OB.out _).mono ?_); rintro e wb ⟨bb, Ab, nb, cb, rfl, hb, zb⟩))
    refine hK.out _ _ (hHeld30.next hb) (fun hHeld31 => ?_)
    replace hS5 := hS5.next hb
    (try replace za := za.below hb)
    clear hK K
    try clear hb
    try simp only [Act.put, List.setIfInBounds_toArray, List.set_cons_zero, List.set_cons_succ]
    refine wpAnyH_ready (rs := [5]) (by kernel_rfl) (by simp) ?_
    refine AllReadyH.cons (o := ⟨some 6, _, _, _, _, _⟩) rfl (fun K hK => ?_) AllReadyH.nil
    have hne5_6 := hS5.2.1.1
    have lo6 := hHeld31.1.size
    obtain ⟨⟨a6_z0, a6_c0, a6_f0⟩, ⟨a6_z1, a6_c1, a6_f1⟩, ⟨a6_z2, a6_c2, a6_f2⟩, ⟨a6_z3, a6_c3, a6_f3⟩, _⟩ := hHeld31.2
    (try simp at lo6); (try simp at hne5_6); (try simp at a6_z0); (try simp at a6_z1); (try simp at a6_z2); (try simp at a6_z3)
    go_simp
    refine hK.out _ _ (by first | exact hHeld31.alloc _ | exact (hHeld31.alloc _).drew) (fun hHeld32 => ?_)
    first | replace hS5 := hS5.alloc2e hHeld32 | replace hS5 := hS5.alloc2 hHeld32
    (try replace za := za.alloc2 hHeld32)
    (try replace zb := zb.alloc2 hHeld32)
    first | have hS6 := newK2 hHeld32 | have hS6 := newK2d hHeld32
    clear hK K
    try clear hb
    try simp only [Act.put, List.setIfInBounds_toArray, List.set_cons_zero, List.set_cons_succ]
    generalize hGWA24 : World.alloc wb (.cells #[.bool false, .slice none 0 0] 28) = WA24 at *
    clear hGWA24
    refine wpAnyH_ready (rs := [6]) (by kernel_rfl) (by simp) ?_
    refine AllReadyH.cons (o := ⟨none, _, _, _, _, _⟩) rfl (fun K hK => ?_) AllReadyH.nil
    obtain ⟨⟨s5z0, s5c0, s5f0⟩, ⟨s5z1, s5c1, s5f1⟩, _⟩ := hS5.2
    go_simp
    refine hK.out _ _ (by (repeat (first | (with_reducible exact hHeld32) | (refine Keeps.set ?_ (by simp <;> omega) (by simp <;> omega) _)))) (fun hHeld33 => ?_)
    replace hS6 := hS6.mv2 hHeld33 (by first | omega | (simp <;> omega)) (by simp <;> omega)
    (try replace za := za.store2 hHeld33 s5c0 s5c1)
    (try replace zb := zb.store2 hHeld33 s5c0 s5c1)
    replace hS5 := hHeld33.add2 s5z0 s5c0 s5f0 s5c1 s5f1
    clear s5z0 s5c0 s5f0 s5z1 s5c1 s5f1
    clear hK K
    try clear hb
    try simp only [Act.put, List.setIfInBounds_toArray, List.set_cons_zero, List.set_cons_succ]
    generalize hGWA25 : World.setCell (World.setCell WA24 ⟨w0.heap.size, 0, none⟩ (.bool ba)) ⟨w0.heap.size, 1, none⟩ (.slice Aa na ca) = WA25 at *
    clear hGWA25
    refine wpAnyH_ready (rs := [7]) (by kernel_rfl) (by simp) ?_
    refine AllReadyH.cons (o := ⟨none, _, _, _, _, _⟩) rfl (fun K hK => ?_) AllReadyH.nil
    obtain ⟨⟨s6z0, s6c0, s6f0⟩, ⟨s6z1, s6c1, s6f1⟩, _⟩ := hS6.2
    go_simp
    refine hK.out _ _ (by (repeat (first | (with_reducible exact hHeld33) | (refine Keeps.set ?_ (by simp <;> omega) (by simp <;> omega) _)))) (fun hHeld34 => ?_)
    replace hS5 := hS5.mv2 hHeld34 (by first | omega | (simp <;> omega)) (by simp <;> omega)
    (try replace za := za.store2 hHeld34 s6c0 s6c1)
    (try replace zb := zb.store2 hHeld34 s6c0 s6c1)
    replace hS6 := hHeld34.add2 s6z0 s6c0 s6f0 s6c1 s6f1
    clear s6z0 s6c0 s6f0 s6z1 s6c1 s6f1
    clear hK K
    try clear hb
    try simp only [Act.put, List.setIfInBounds_toArray, List.set_cons_zero, List.set_cons_succ]
    generalize hGWA26 : World.setCell (World.setCell WA25 ⟨wb.heap.size, 0, none⟩ (.bool bb)) ⟨wb.heap.size, 1, none⟩ (.slice Ab nb cb) = WA26 at *
    clear hGWA26
    refine wpAnyH_done (by kernel_rfl) ?_ _
    have hHeld := hHeld34
    rotate_left 1
    refine AllReadyH.cons (o := ⟨some 6, _, _, _, _, _⟩) rfl (fun K hK => ?_) ?_
    have hne5_6 := hS5.2.1.1
    have lo6 := hHeld30.1.size
    obtain ⟨⟨a6_z0, a6_c0, a6_f0⟩, ⟨a6_z1, a6_c1, a6_f1⟩, ⟨a6_z2, a6_c2, a6_f2⟩, ⟨a6_z3, a6_c3, a6_f3⟩, _⟩ := hHeld30.2
    (try simp at lo6); (try simp at hne5_6); (try simp at a6_z0); (try simp at a6_z1); (try simp at a6_z2); (try simp at a6_z3)
    go_simp
    refine hK.out _ _ (by first | exact hHeld30.alloc _ | exact (hHeld30.alloc _).drew) (fun hHeld35 => ?_)
    first | replace hS5 := hS5.alloc2e hHeld35 | replace hS5 := hS5.alloc2 hHeld35
    (try replace za := za.alloc2 hHeld35)
    first | have hS6 := newK2 hHeld35 | have hS6 := newK2d hHeld35
    clear hK K
    try clear hb
    try simp only [Act.put, List.setIfInBounds_toArray, List.set_cons_zero, List.set_cons_succ]
    generalize hGWA27 : World.alloc wa (.cells #[.bool false, .slice none 0 0] 28) = WA27 at *
    clear hGWA27
    refine wpAnyH_ready (rs := [3]) (by kernel_rfl) (by simp) ?_
    refine AllReadyH.cons (o := ⟨some 18, _, _, _, _, _⟩) rfl (fun K hK => ?_) AllReadyH.nil
    go_simp
    (first | ((with_reducible refine (OA.out _).mono ?_); rintro e wa ⟨ba, Aa, na, ca, rfl, hb, za⟩) | ((with_reducible refine (OB.out _).mono ?_); rintro e wb ⟨bb, Ab, nb, cb, rfl, hb, zb⟩))
    refine hK.out _ _ (hHeld35.next hb) (fun hHeld36 => ?_)
    replace hS5 := hS5.next hb
    replace hS6 := hS6.next hb
    (try replace za := za.below hb)
    clear hK K
    try clear hb
    try simp only [Act.put, List.setIfInBounds_toArray, List.set_cons_zero, List.set_cons_succ]
    refine wpAnyH_ready (rs := [6]) (by kernel_rfl) (by simp) ?_
    refine AllReadyH.cons (o := ⟨none, _, _, _, _, _⟩) rfl (fun K hK => ?_) AllReadyH.nil
    obtain ⟨⟨s5z0, s5c0, s5f0⟩, ⟨s5z1, s5c1, s5f1⟩, _⟩ := hS5.2
    go_simp
    refine hK.out _ _ (by (repeat (first | (with_reducible exact hHeld36) | (refine Keeps.set ?_ (by simp <;> omega) (by simp <;> omega) _)))) (fun hHeld37 => ?_)
    replace hS6 := hS6.mv2 hHeld37 (by first | omega | (simp <;> omega)) (by simp <;> omega)
    (try replace za := za.store2 hHeld37 s5c0 s5c1)
    (try replace zb := zb.store2 hHeld37 s5c0 s5c1)
    replace hS5 := hHeld37.add2 s5z0 s5c0 s5f0 s5c1 s5f1
    clear s5z0 s5c0 s5f0 s5z1 s5c1 s5f1
    clear hK K
    try clear hb
    try simp only [Act.put, List.setIfInBounds_toArray, List.set_cons_zero, List.set_cons_succ]
    generalize hGWA28 : World.setCell (World.setCell wb ⟨w0.heap.size, 0, none⟩ (.bool ba)) ⟨w0.heap.size, 1, none⟩ (.slice Aa na ca) = WA28 at *
    clear hGWA28
    refine wpAnyH_ready (rs := [7]) (by kernel_rfl) (by simp) ?_
    refine AllReadyH.cons (o := ⟨none, _, _, _, _, _⟩) rfl (fun K hK => ?_) AllReadyH.nil
    obtain ⟨⟨s6z0, s6c0, s6f0⟩, ⟨s6z1, s6c1, s6f1⟩, _⟩ := hS6.2
    go_simp
    refine hK.out _ _ (by (repeat (first | (with_reducible exact hHeld37) | (refine Keeps.set ?_ (by simp <;> omega) (by simp <;> omega) _)))) (fun hHeld38 => ?_)
    replace hS5 := hS5.mv2 hHeld38 (by first | omega | (simp <;> omega)) (by simp <;> omega)
    (try replace za := za.store2 hHeld38 s6c0 s6c1)
    (try replace zb := zb.store2 hHeld38 s6c0 s6c1)
    replace hS6 := hHeld38.add2 s6z0 s6c0 s6f0 s6c1 s6f1
    clear s6z0 s6c0 s6f0 s6z1 s6c1 s6f1
    clear hK K
    try clear hb
    try simp only [Act.put, List.setIfInBounds_toArray, List.set_cons_zero, List.set_cons_succ]
    generalize hGWA29 : World.setCell (World.setCell WA28 ⟨wa.heap.size, 0, none⟩ (.bool bb)) ⟨wa.heap.size, 1, none⟩ (.slice Ab nb cb) = WA29 at *
    clear hGWA29
    refine wpAnyH_done (by kernel_rfl) ?_ _
    have hHeld := hHeld38
    rotate_left 1
    exact AllReadyH.nil
    refine AllReadyH.cons (o := ⟨some 6, _, _, _, _, _⟩) rfl (fun K hK => ?_) ?_
    have hne5_6 := hS5.2.1.1
    have lo6 := hHeld29.1.size
    obtain ⟨⟨a6_z0, a6_c0, a6_f0⟩, ⟨a6_z1, a6_c1, a6_f1⟩, ⟨a6_z2, a6_c2, a6_f2⟩, ⟨a6_z3, a6_c3, a6_f3⟩, _⟩ := hHeld29.2
    (try simp at lo6); (try simp at hne5_6); (try simp at a6_z0); (try simp at a6_z1); (try simp at a6_z2); (try simp at a6_z3)
    go_simp
    refine hK.out _ _ (by first | exact hHeld29.alloc _ | exact (hHeld29.alloc _).drew) (fun hHeld39 => ?_)
    first | replace hS5 := hS5.alloc2e hHeld39 | replace hS5 := hS5.alloc2 hHeld39
    first | have hS6 := newK2 hHeld39 | have hS6 := newK2d hHeld39
    clear hK K
    try clear hb
    try simp only [Act.put, List.setIfInBounds_toArray, List.set_cons_zero, List.set_cons_succ]
    generalize hGWA30 : World.alloc WA23 (.cells #[.bool false, .slice none 0 0] 28) = WA30 at *
    clear hGWA30
    refine wpAnyH_ready (rs := [1]) (by kernel_rfl) (by simp) ?_
    refine AllReadyH.cons (o := ⟨some 16, _, _, _, _, _⟩) rfl (fun K hK => ?_) AllReadyH.nil
    go_simp
    (first | ((with_reducible refine (OA.out _).mono ?_); rintro e wa ⟨ba, Aa, na, ca, rfl, hb, za⟩) | ((with_reducible refine (OB.out _).mono ?_); rintro e wb ⟨bb, Ab, nb, cb, rfl, hb, zb⟩))
    refine hK.out _ _ (hHeld39.next hb) (fun hHeld40 => ?_)
    replace hS5 := hS5.next hb
    replace hS6 := hS6.next hb
    clear hK K
    try clear hb
    try simp only [Act.put, List.setIfInBounds_toArray, List.set_cons_zero, List.set_cons_succ]
    refine wpAnyH_ready (rs := [3]) (by kernel_rfl) (by simp) ?_
    refine AllReadyH.cons (o := ⟨some 18, _, _, _, _, _⟩) rfl (fun K hK => ?_) AllReadyH.nil
    go_simp
    (first | ((with_reducible refine (OA.out _).mono ?_); rintro e wa ⟨ba, Aa, na, ca, rfl, hb, za⟩) | ((with_reducible refine (OB.out _).mono ?_); rintro e wb ⟨bb, Ab, nb, cb, rfl, hb, zb⟩))
    refine hK.out _ _ (hHeld40.next hb) (fun hHeld41 => ?_)
    replace hS5 := hS5.next hb
    replace hS6 := hS6.next hb
    (try replace za := za.below hb)
    clear hK K
    try clear hb
    try simp only [Act.put, List.setIfInBounds_toArray, List.set_cons_zero, List.set_cons_succ]
    refine wpAnyH_ready (rs := [6]) (by kernel_rfl) (by simp) ?_
    refine AllReadyH.cons (o := ⟨none, _, _, _, _, _⟩) rfl (fun K hK => ?_) AllReadyH.nil
    obtain ⟨⟨s5z0, s5c0, s5f0⟩, ⟨s5z1, s5c1, s5f1⟩, _⟩ := hS5.2
    go_simp
    refine hK.out _ _ (by (repeat (first | (with_reducible exact hHeld41) | (refine Keeps.set ?_ (by simp <;> omega) (by simp <;> omega) _)))) (fun hHeld42 => ?_)
    replace hS6 := hS6.mv2 hHeld42 (by first | omega | (simp <;> omega)) (by simp <;> omega)
    (try replace za := za.store2 hHeld42 s5c0 s5c1)
    (try replace zb := zb.store2 hHeld42 s5c0 s5c1)
    replace hS5 := hHeld42.add2 s5z0 s5c0 s5f0 s5c1 s5f1
    clear s5z0 s5c0 s5f0 s5z1 s5c1 s5f1
    clear hK K
    try clear hb
    try simp only [Act.put, List.setIfInBounds_toArray, List.set_cons_zero, List.set_cons_succ]
    generalize hGWA31 : World.setCell (World.setCell wb ⟨w0.heap.size, 0, none⟩ (.bool ba)) ⟨w0.heap.size, 1, none⟩ (.slice Aa na ca) = WA31 at *
    clear hGWA31
    refine wpAnyH_ready (rs := [7]) (by kernel_rfl) (by simp) ?_
    refine AllReadyH.cons (o := ⟨none, _, _, _, _, _⟩) rfl (fun K hK => ?_) AllReadyH.nil
    obtain ⟨⟨s6z0, s6c0, s6f0⟩, ⟨s6z1, s6c1, s6f1⟩, _⟩ := hS6.2
    go_simp
    refine hK.out _ _ (by (repeat (first | (with_reducible exact hHeld42) | (refine Keeps.set ?_ (by simp <;> omega) (by simp <;> omega) _)))) (fun hHeld43 => ?_)
    replace hS5 := hS5.mv2 hHeld43 (by first | omega | (simp <;> omega)) (by simp <;> omega)
    (try replace za := za.store2 hHeld43 s6c0 s6c1)
    (try replace zb := zb.store2 hHeld43 s6c0 s6c1)
    replace hS6 := hHeld43.add2 s6z0 s6c0 s6f0 s6c1 s6f1
    clear s6z0 s6c0 s6f0 s6z1 s6c1 s6f1
    clear hK K
    try clear hb
    try simp only [Act.put, List.setIfInBounds_toArray, List.set_cons_zero, List.set_cons_succ]
    generalize hGWA32 : World.setCell (World.setCell WA31 ⟨WA23.heap.size, 0, none⟩ (.bool bb)) ⟨WA23.heap.size, 1, none⟩ (.slice Ab nb cb) = WA32 at *
    clear hGWA32
    refine wpAnyH_done (by kernel_rfl) ?_ _
    have hHeld := hHeld43
    rotate_left 1
    exact AllReadyH.nil
    refine AllReadyH.cons (o := ⟨some 6, _, _, _, _, _⟩) rfl (fun K hK => ?_) ?_
    have lo6 := hHeld0.1.size
    obtain ⟨⟨a6_z0, a6_c0, a6_f0⟩, ⟨a6_z1, a6_c1, a6_f1⟩, ⟨a6_z2, a6_c2, a6_f2⟩, ⟨a6_z3, a6_c3, a6_f3⟩, _⟩ := hHeld0.2
    (try simp at lo6); (try simp at a6_z0); (try simp at a6_z1); (try simp at a6_z2); (try simp at a6_z3)
    go_simp
    refine hK.out _ _ (by first | exact hHeld0.alloc _ | exact (hHeld0.alloc _).drew) (fun hHeld44 => ?_)
    first | have hS6 := newK2 hHeld44 | have hS6 := newK2d hHeld44
    clear hK K
    try clear hb
    try simp only [Act.put, List.setIfInBounds_toArray, List.set_cons_zero, List.set_cons_succ]
    generalize hGWA33 : World.alloc w0 (.cells #[.bool false, .slice none 0 0] 28) = WA33 at *
    clear hGWA33
    refine wpAnyH_ready (rs := [1, 4]) (by kernel_rfl) (by simp) ?_
    refine AllReadyH.cons (o := ⟨some 16, _, _, _, _, _⟩) rfl (fun K hK => ?_) ?_
    go_simp
    (first | ((with_reducible refine (OA.out _).mono ?_); rintro e wa ⟨ba, Aa, na, ca, rfl, hb, za⟩) | ((with_reducible refine (OB.out _).mono ?_); rintro e wb ⟨bb, Ab, nb, cb, rfl, hb, zb⟩))
    refine hK.out _ _ (hHeld44.next hb) (fun hHeld45 => ?_)
    replace hS6 := hS6.next hb
    clear hK K
    try clear hb
    try simp only [Act.put, List.setIfInBounds_toArray, List.set_cons_zero, List.set_cons_succ]
    refine wpAnyH_ready (rs := [3, 4]) (by kernel_rfl) (by simp) ?_
    refine AllReadyH.cons (o := ⟨some 18, _, _, _, _, _⟩) rfl (fun K hK => ?_) ?_
    go_simp
    (first | ((with_reducible refine (OA.out _).mono ?_); rintro e wa ⟨ba, Aa, na, ca, rfl, hb, za⟩) | ((with_reducible refine (OB.out _).mono ?_); rintro e wb ⟨bb, Ab, nb, cb, rfl, hb, zb⟩))
    refine hK.out _ _ (hHeld45.next hb) (fun hHeld46 => ?_)
    replace hS6 := hS6.next hb
    (try replace za := za.below hb)
    clear hK K
    try clear hb
    try simp only [Act.put, List.setIfInBounds_toArray, List.set_cons_zero, List.set_cons_succ]
    refine wpAnyH_ready (rs := [4]) (by kernel_rfl) (by simp) ?_
    refine AllReadyH.cons (o := ⟨some 5, _, _, _, _, _⟩) rfl (fun K hK => ?_) AllReadyH.nil
    have hne6_5 := hS6.2.1.1
    have lo5 := hHeld46.1.size
    obtain ⟨⟨a5_z0, a5_c0, a5_f0⟩, ⟨a5_z1, a5_c1, a5_f1⟩, ⟨a5_z2, a5_c2, a5_f2⟩, ⟨a5_z3, a5_c3, a5_f3⟩, _⟩ := hHeld46.2
    (try simp at lo5); (try simp at hne6_5); (try simp at a5_z0); (try simp at a5_z1); (try simp at a5_z2); (try simp at a5_z3)
    go_simp
    refine hK.out _ _ (by first | exact hHeld46.alloc _ | exact (hHeld46.alloc _).drew) (fun hHeld47 => ?_)
    first | replace hS6 := hS6.alloc2e hHeld47 | replace hS6 := hS6.alloc2 hHeld47
    (try replace za := za.alloc2 hHeld47)
    (try replace zb := zb.alloc2 hHeld47)
    first | have hS5 := newK2 hHeld47 | have hS5 := newK2d hHeld47
    clear hK K
    try clear hb
    try simp only [Act.put, List.setIfInBounds_toArray, List.set_cons_zero, List.set_cons_succ]
    generalize hGWA34 : World.alloc wb (.cells #[.bool false, .slice none 0 0] 28) = WA34 at *
    clear hGWA34
    refine wpAnyH_ready (rs := [6]) (by kernel_rfl) (by simp) ?_
    refine AllReadyH.cons (o := ⟨none, _, _, _, _, _⟩) rfl (fun K hK => ?_) AllReadyH.nil
    obtain ⟨⟨s5z0, s5c0, s5f0⟩, ⟨s5z1, s5c1, s5f1⟩, _⟩ := hS5.2
    go_simp
    refine hK.out _ _ (by (repeat (first | (with_reducible exact hHeld47) | (refine Keeps.set ?_ (by simp <;> omega) (by simp <;> omega) _)))) (fun hHeld48 => ?_)
    replace hS6 := hS6.mv2 hHeld48 (by first | omega | (simp <;> omega)) (by simp <;> omega)
    (try replace za := za.store2 hHeld48 s5c0 s5c1)
    (try replace zb := zb.store2 hHeld48 s5c0 s5c1)
    replace hS5 := hHeld48.add2 s5z0 s5c0 s5f0 s5c1 s5f1
    clear s5z0 s5c0 s5f0 s5z1 s5c1 s5f1
    clear hK K
    try clear hb
    try simp only [Act.put, List.setIfInBounds_toArray, List.set_cons_zero, List.set_cons_succ]
    generalize hGWA35 : World.setCell (World.setCell WA34 ⟨wb.heap.size, 0, none⟩ (.bool ba)) ⟨wb.heap.size, 1, none⟩ (.slice Aa na ca) = WA35 at *
    clear hGWA35
    refine wpAnyH_ready (rs := [7]) (by kernel_rfl) (by simp) ?_
    refine AllReadyH.cons (o := ⟨none, _, _, _, _, _⟩) rfl (fun K hK => ?_) AllReadyH.nil
    obtain ⟨⟨s6z0, s6c0, s6f0⟩, ⟨s6z1, s6c1, s6f1⟩, _⟩ := hS6.2
    go_simp
    refine hK.out _ _ (by (repeat (first | (with_reducible exact hHeld48) | (refine Keeps.set ?_ (by simp <;> omega) (by simp <;> omega) _)))) (fun hHeld49 => ?_)
    replace hS5 := hS5.mv2 hHeld49 (by first | omega | (simp <;> omega)) (by simp <;> omega)
    (try replace za := za.store2 hHeld49 s6c0 s6c1)
    (try replace zb := zb.store2 hHeld49 s6c0 s6c1)
    replace hS6 := hHeld49.add2 s6z0 s6c0 s6f0 s6c1 s6f1
    clear s6z0 s6c0 s6f0 s6z1 s6c1 s6f1
    clear hK K
    try clear hb
    try simp only [Act.put, List.setIfInBounds_toArray, List.set_cons_zero, List.set_cons_succ]
    generalize hGWA36 : World.setCell (World.setCell WA35 ⟨w0.heap.size, 0, none⟩ (.bool bb)) ⟨w0.heap.size, 1, none⟩ (.slice Ab nb cb) = WA36 at *
    clear hGWA36
    refine wpAnyH_done (by kernel_rfl) ?_ _
    have hHeld := hHeld49
    rotate_left 1
    refine AllReadyH.cons (o := ⟨some 5, _, _, _, _, _⟩) rfl (fun K hK => ?_) ?_
    have hne6_5 := hS6.2.1.1
    have lo5 := hHeld45.1.size
    obtain ⟨⟨a5_z0, a5_c0, a5_f0⟩, ⟨a5_z1, a5_c1, a5_f1⟩, ⟨a5_z2, a5_c2, a5_f2⟩, ⟨a5_z3, a5_c3, a5_f3⟩, _⟩ := hHeld45.2
    (try simp at lo5); (try simp at hne6_5); (try simp at a5_z0); (try simp at a5_z1); (try simp at a5_z2); (try simp at a5_z3)
    go_simp
    refine hK.out _ _ (by first | exact hHeld45.alloc _ | exact (hHeld45.alloc _).drew) (fun hHeld50 => ?_)
    first | replace hS6 := hS6.alloc2e hHeld50 | replace hS6 := hS6.alloc2 hHeld50
    (try replace za := za.alloc2 hHeld50)
    first | have hS5 := newK2 hHeld50 | have hS5 := newK2d hHeld50
    clear hK K
    try clear hb
    try simp only [Act.put, List.setIfInBounds_toArray, List.set_cons_zero, List.set_cons_succ]
    generalize hGWA37 : World.alloc wa (.cells #[.bool false, .slice none 0 0] 28) = WA37 at *
    clear hGWA37
    refine wpAnyH_ready (rs := [3]) (by kernel_rfl) (by simp) ?_
    refine AllReadyH.cons (o := ⟨some 18, _, _, _, _, _⟩) rfl (fun K hK => ?_) AllReadyH.nil
    go_simp
    (first | ((with_reducible refine (OA.out _).mono ?_); rintro e wa ⟨ba, Aa, na, ca, rfl, hb, za⟩) | ((with_reducible refine (OB.out _).mono ?_); rintro e wb ⟨bb, Ab, nb, cb, rfl, hb, zb⟩))
    refine hK.out _ _ (hHeld50.next hb) (fun hHeld51 => ?_)
    replace hS6 := hS6.next hb
    replace hS5 := hS5.next hb
    (try replace za := za.below hb)
    clear hK K
    try clear hb
    try simp only [Act.put, List.setIfInBounds_toArray, List.set_cons_zero, List.set_cons_succ]
    refine wpAnyH_ready (rs := [6]) (by kernel_rfl) (by simp) ?_
    refine AllReadyH.cons (o := ⟨none, _, _, _, _, _⟩) rfl (fun K hK => ?_) AllReadyH.nil
    obtain ⟨⟨s5z0, s5c0, s5f0⟩, ⟨s5z1, s5c1, s5f1⟩, _⟩ := hS5.2
    go_simp
    refine hK.out _ _ (by (repeat (first | (with_reducible exact hHeld51) | (refine Keeps.set ?_ (by simp <;> omega) (by simp <;> omega) _)))) (fun hHeld52 => ?_)
    replace hS6 := hS6.mv2 hHeld52 (by first | omega | (simp <;> omega)) (by simp <;> omega)
    (try replace za := za.store2 hHeld52 s5c0 s5c1)
    (try replace zb := zb.store2 hHeld52 s5c0 s5c1)
    replace hS5 := hHeld52.add2 s5z0 s5c0 s5f0 s5c1 s5f1
    clear s5z0 s5c0 s5f0 s5z1 s5c1 s5f1
    clear hK K
    try clear hb
    try simp only [Act.put, List.setIfInBounds_toArray, List.set_cons_zero, List.set_cons_succ]
    generalize hGWA38 : World.setCell (World.setCell wb ⟨wa.heap.size, 0, none⟩ (.bool ba)) ⟨wa.heap.size, 1, none⟩ (.slice Aa na ca) = WA38 at *
    clear hGWA38
    refine wpAnyH_ready (rs := [7]) (by kernel_rfl) (by simp) ?_
    refine AllReadyH.cons (o := ⟨none, _, _, _, _, _⟩) rfl (fun K hK => ?_) AllReadyH.nil
    obtain ⟨⟨s6z0, s6c0, s6f0⟩, ⟨s6z1, s6c1, s6f1⟩, _⟩ := hS6.2
    go_simp
    refine hK.out _ _ (by (repeat (first | (with_reducible exact hHeld52) | (refine Keeps.set ?_ (by simp <;> omega) (by simp <;> omega) _)))) (fun hHeld53 => ?_)
    replace hS5 := hS5.mv2 hHeld53 (by first | omega | (simp <;> omega)) (by simp <;> omega)
    (try replace za := za.store2 hHeld53 s6c0 s6c1)
    (try replace zb := zb.store2 hHeld53 s6c0 s6c1)
    replace hS6 := hHeld53.add2 s6z0 s6c0 s6f0 s6c1 s6f1
    clear s6z0 s6c0 s6f0 s6z1 s6c1 s6f1
    clear hK K
    try clear hb
    try simp only [Act.put, List.setIfInBounds_toArray, List.set_cons_zero, List.set_cons_succ]
    generalize hGWA39 : World.setCell (World.setCell WA38 ⟨w0.heap.size, 0, none⟩ (.bool bb)) ⟨w0.heap.size, 1, none⟩ (.slice Ab nb cb) = WA39 at *
    clear hGWA39
    refine wpAnyH_done (by kernel_rfl) ?_ _
    have hHeld := hHeld53
    rotate_left 1
    exact AllReadyH.nil
    refine AllReadyH.cons (o := ⟨some 5, _, _, _, _, _⟩) rfl (fun K hK => ?_) ?_
    have hne6_5 := hS6.2.1.1
    have lo5 := hHeld44.1.size
    obtain ⟨⟨a5_z0, a5_c0, a5_f0⟩, ⟨a5_z1, a5_c1, a5_f1⟩, ⟨a5_z2, a5_c2, a5_f2⟩, ⟨a5_z3, a5_c3, a5_f3⟩, _⟩ := hHeld44.2
    (try simp at lo5); (try simp at hne6_5); (try simp at a5_z0); (try simp at a5_z1); (try simp at a5_z2); (try simp at a5_z3)
    go_simp
    refine hK.out _ _ (by first | exact hHeld44.alloc _ | exact (hHeld44.alloc _).drew) (fun hHeld54 => ?_)
    first | replace hS6 := hS6.alloc2e hHeld54 | replace hS6 := hS6.alloc2 hHeld54
    first | have hS5 := newK2 hHeld54 | have hS5 := newK2d hHeld54
    clear hK K
    try clear hb
    try simp only [Act.put, List.setIfInBounds_toArray, List.set_cons_zero, List.set_cons_succ]
    generalize hGWA40 : World.alloc WA33 (.cells #[.bool false, .slice none 0 0] 28) = WA40 at *
    clear hGWA40
    refine wpAnyH_ready (rs := [1]) (by kernel_rfl) (by simp) ?_
    refine AllReadyH.cons (o := ⟨some 16, _, _, _, _, _⟩) rfl (fun K hK => ?_) AllReadyH.nil
    go_simp
    (first | ((with_reducible refine (OA.out _).mono ?_); rintro e wa ⟨ba, Aa, na, ca, rfl, hb, za⟩) | ((with_reducible refine (OB.out _).mono ?_); rintro e wb ⟨bb, Ab, nb, cb, rfl, hb, zb⟩))
    refine hK.out _ _ (hHeld54.next hb) (fun hHeld55 => ?_)
    replace hS6 := hS6.next hb
    replace hS5 := hS5.next hb
    clear hK K
    try clear hb
    try simp only [Act.put, List.setIfInBounds_toArray, List.set_cons_zero, List.set_cons_succ]
    refine wpAnyH_ready (rs := [3]) (by kernel_rfl) (by simp) ?_
    refine AllReadyH.cons (o := ⟨some 18, _, _, _, _, _⟩) rfl (fun K hK => ?_) AllReadyH.nil
    go_simp
    (first | ((with_reducible refine (OA.out _).mono ?_); rintro e wa ⟨ba, Aa, na, ca, rfl, hb, za⟩) | ((with_reducible refine (OB.out _).mono ?_); rintro e wb ⟨bb, Ab, nb, cb, rfl, hb, zb⟩))
    refine hK.out _ _ (hHeld55.next hb) (fun hHeld56 => ?_)
    replace hS6 := hS6.next hb
    replace hS5 := hS5.next hb
    (try replace za := za.below hb)
    clear hK K
    try clear hb
    try simp only [Act.put, List.setIfInBounds_toArray, List.set_cons_zero, List.set_cons_succ]
    refine wpAnyH_ready (rs := [6]) (by kernel_rfl) (by simp) ?_
    refine AllReadyH.cons (o := ⟨none, _, _, _, _, _⟩) rfl (fun K hK => ?_) AllReadyH.nil
    obtain ⟨⟨s5z0, s5c0, s5f0⟩, ⟨s5z1, s5c1, s5f1⟩, _⟩ := hS5.2
    go_simp
    refine hK.out _ _ (by (repeat (first | (with_reducible exact hHeld56) | (refine Keeps.set ?_ (by simp <;> omega) (by simp <;> omega) _)))) (fun hHeld57 => ?_)
    replace hS6 := hS6.mv2 hHeld57 (by first | omega | (simp <;> omega)) (by simp <;> omega)
    (try replace za := za.store2 hHeld57 s5c0 s5c1)
    (try replace zb := zb.store2 hHeld57 s5c0 s5c1)
    replace hS5 := hHeld57.add2 s5z0 s5c0 s5f0 s5c1 s5f1
    clear s5z0 s5c0 s5f0 s5z1 s5c1 s5f1
    clear hK K
    try clear hb
    try simp only [Act.put, List.setIfInBounds_toArray, List.set_cons_zero, List.set_cons_succ]
    generalize hGWA41 : World.setCell (World.setCell wb ⟨WA33.heap.size, 0, none⟩ (.bool ba)) ⟨WA33.heap.size, 1, none⟩ (.slice Aa na ca) = WA41 at *
    clear hGWA41
    refine wpAnyH_ready (rs := [7]) (by kernel_rfl) (by simp) ?_
    refine AllReadyH.cons (o := ⟨none, _, _, _, _, _⟩) rfl (fun K hK => ?_) AllReadyH.nil
    obtain ⟨⟨s6z0, s6c0, s6f0⟩, ⟨s6z1, s6c1, s6f1⟩, _⟩ := hS6.2
    go_simp
    refine hK.out _ _ (by (repeat (first | (with_reducible exact hHeld57) | (refine Keeps.set ?_ (by simp <;> omega) (by simp <;> omega) _)))) (fun hHeld58 => ?_)
    replace hS5 := hS5.mv2 hHeld58 (by first | omega | (simp <;> omega)) (by simp <;> omega)
    (try replace za := za.store2 hHeld58 s6c0 s6c1)
    (try replace zb := zb.store2 hHeld58 s6c0 s6c1)
    replace hS6 := hHeld58.add2 s6z0 s6c0 s6f0 s6c1 s6f1
    clear s6z0 s6c0 s6f0 s6z1 s6c1 s6f1
    clear hK K
    try clear hb
    try simp only [Act.put, List.setIfInBounds_toArray, List.set_cons_zero, List.set_cons_succ]
    generalize hGWA42 : World.setCell (World.setCell WA41 ⟨w0.heap.size, 0, none⟩ (.bool bb)) ⟨w0.heap.size, 1, none⟩ (.slice Ab nb cb) = WA42 at *
    clear hGWA42
    refine wpAnyH_done (by kernel_rfl) ?_ _
    have hHeld := hHeld58
    rotate_left 1
    exact AllReadyH.nil
    exact AllReadyH.nil
    all_goals
      go_wp2_with fail
      go_meet
      case rel => exact ⟨_, _, _, _, _, _, _, _, _, _, rfl, rfl, Lib.hid za, Lib.hid zb, hS5.1, hS5.2.1, hS5.2.2.1, hS6.2.1, hS6.2.2.1, hS5.2.2.2⟩
  case rest =>
    obtain ⟨g, b, A, m, c, g', b', A', m', c', rfl, rfl, HX, HY, hK⟩ := hcut
    have hHeld : Keeps wc [(g, 0, .bool b), (g, 1, .slice A m c), (g', 0, .bool b'), (g', 1, .slice A' m' c'), (w.heap.size, 0, .int .i64 ah), (w.heap.size, 1, .int .u64 al), (w.heap.size + 1, 0, .int .i64 bh), (w.heap.size + 1, 1, .int .u64 bl)] wc := ⟨Below.refl _ _, hK.2⟩
    obtain ⟨⟨kz0, kc0, kf0⟩, ⟨kz1, kc1, kf1⟩, ⟨kz2, kc2, kf2⟩, ⟨kz3, kc3, kf3⟩, ⟨kz4, kc4, kf4⟩, ⟨kz5, kc5, kf5⟩, ⟨kz6, kc6, kf6⟩, ⟨kz7, kc7, kf7⟩, _⟩ := hHeld.2
    go_wp2_with fail
    refine (AD.out _).mono ?_
    rintro e wp ⟨rfl, hb⟩
    replace hHeld : Keeps wc [(g, 0, .bool b), (g, 1, .slice A m c), (g', 0, .bool b'), (g', 1, .slice A' m' c'), (w.heap.size, 0, .int .i64 ah), (w.heap.size, 1, .int .u64 al), (w.heap.size + 1, 0, .int .i64 bh), (w.heap.size + 1, 1, .int .u64 bl)] _ := Keeps.next (hHeld) hb
    clear hb kz0 kc0 kf0 kz1 kc1 kf1 kz2 kc2 kf2 kz3 kc3 kf3 kz4 kc4 kf4 kz5 kc5 kf5 kz6 kc6 kf6 kz7 kc7 kf7
    obtain ⟨⟨kz0, kc0, kf0⟩, ⟨kz1, kc1, kf1⟩, ⟨kz2, kc2, kf2⟩, ⟨kz3, kc3, kf3⟩, ⟨kz4, kc4, kf4⟩, ⟨kz5, kc5, kf5⟩, ⟨kz6, kc6, kf6⟩, ⟨kz7, kc7, kf7⟩, _⟩ := hHeld.2
    go_wp2_with fail
    refine (SB.out _).mono ?_
    rintro e wq ⟨rfl, hb⟩
    replace hHeld : Keeps wc [(g, 0, .bool b), (g, 1, .slice A m c), (g', 0, .bool b'), (g', 1, .slice A' m' c'), (w.heap.size, 0, .int .i64 ah), (w.heap.size, 1, .int .u64 al), (w.heap.size + 1, 0, .int .i64 bh), (w.heap.size + 1, 1, .int .u64 bl), (wp.heap.size, 0, .int .i64 s0), (wp.heap.size, 1, .int .u64 s1)] _ := Keeps.next ((hHeld.alloc _).app (newK2 (hHeld.alloc _))) hb
    clear hb kz0 kc0 kf0 kz1 kc1 kf1 kz2 kc2 kf2 kz3 kc3 kf3 kz4 kc4 kf4 kz5 kc5 kf5 kz6 kc6 kf6 kz7 kc7 kf7
    obtain ⟨⟨kz0, kc0, kf0⟩, ⟨kz1, kc1, kf1⟩, ⟨kz2, kc2, kf2⟩, ⟨kz3, kc3, kf3⟩, ⟨kz4, kc4, kf4⟩, ⟨kz5, kc5, kf5⟩, ⟨kz6, kc6, kf6⟩, ⟨kz7, kc7, kf7⟩, ⟨kz8, kc8, kf8⟩, ⟨kz9, kc9, kf9⟩, _⟩ := hHeld.2
    go_wp2_with fail
    refine (NG.out _).mono ?_
    rintro e wr ⟨rfl, hb⟩
    replace hHeld : Keeps wc [(g, 0, .bool b), (g, 1, .slice A m c), (g', 0, .bool b'), (g', 1, .slice A' m' c'), (w.heap.size, 0, .int .i64 ah), (w.heap.size, 1, .int .u64 al), (w.heap.size + 1, 0, .int .i64 bh), (w.heap.size + 1, 1, .int .u64 bl), (wp.heap.size, 0, .int .i64 s0), (wp.heap.size, 1, .int .u64 s1), (wq.heap.size, 0, .int .i64 d0), (wq.heap.size, 1, .int .u64 d1)] _ := Keeps.next ((hHeld.alloc _).app (newK2 (hHeld.alloc _))) hb
    clear hb kz0 kc0 kf0 kz1 kc1 kf1 kz2 kc2 kf2 kz3 kc3 kf3 kz4 kc4 kf4 kz5 kc5 kf5 kz6 kc6 kf6 kz7 kc7 kf7 kz8 kc8 kf8 kz9 kc9 kf9
    obtain ⟨⟨kz0, kc0, kf0⟩, ⟨kz1, kc1, kf1⟩, ⟨kz2, kc2, kf2⟩, ⟨kz3, kc3, kf3⟩, ⟨kz4, kc4, kf4⟩, ⟨kz5, kc5, kf5⟩, ⟨kz6, kc6, kf6⟩, ⟨kz7, kc7, kf7⟩, ⟨kz8, kc8, kf8⟩, ⟨kz9, kc9, kf9⟩, ⟨kz10, kc10, kf10⟩, ⟨kz11, kc11, kf11⟩, _⟩ := hHeld.2
    have hZ := (hHeld.alloc (.cells #[.int .i64 n0, .int .u64 n1] 24)).app (newK2 (hHeld.alloc (.cells #[.int .i64 n0, .int .u64 n1] 24)))
    go_wp2_with fail
    refine region_keeps (w0 := wc) (L := [(g, 0, .bool b), (g, 1, .slice A m c), (g', 0, .bool b'), (g', 1, .slice A' m' c'), (wp.heap.size, 0, .int .i64 s0), (wp.heap.size, 1, .int .u64 s1), (wq.heap.size, 0, .int .i64 d0), (wq.heap.size, 1, .int .u64 d1), (wr.heap.size, 0, .int .i64 n0), (wr.heap.size, 1, .int .u64 n1)]) (by kernel_rfl) ⟨hZ.1, hZ.2.1, hZ.2.2.1, hZ.2.2.2.1, hZ.2.2.2.2.1, hZ.2.2.2.2.2.2.2.2.2⟩ (fun hHeld0 => ?_)
    refine wpAnyH_take (i := 0) (oi := ⟨some 36, _, _, _, _, _⟩) (v := ?_) rfl (by kernel_rfl) (by kernel_rfl) (by kernel_rfl) (fun _ _ _ h => h) (Or.inl ⟨by rfl, ?_⟩) (by assumption) ?_
    rotate_left
    · intro wq hSw; obtain ⟨⟨qz0, qc0, qf0⟩, ⟨qz1, qc1, qf1⟩, ⟨qz2, qc2, qf2⟩, ⟨qz3, qc3, qf3⟩, ⟨qz4, qc4, qf4⟩, ⟨qz5, qc5, qf5⟩, ⟨qz6, qc6, qf6⟩, ⟨qz7, qc7, qf7⟩, ⟨qz8, qc8, qf8⟩, ⟨qz9, qc9, qf9⟩, _⟩ := hSw.2; go_simp; (try with_reducible rfl)
    try simp only [Act.put, List.setIfInBounds_toArray, List.set_cons_zero, List.set_cons_succ]
    refine wpAnyH_take (i := 1) (oi := ⟨some 37, _, _, _, _, _⟩) (v := ?_) rfl (by kernel_rfl) (by kernel_rfl) (by kernel_rfl) (fun _ _ _ h => h) (Or.inl ⟨by rfl, ?_⟩) (by assumption) ?_
    rotate_left
    · intro wq hSw; go_simp; (try with_reducible rfl)
    try simp only [Act.put, List.setIfInBounds_toArray, List.set_cons_zero, List.set_cons_succ]
    refine wpAnyH_take (i := 2) (oi := ⟨some 38, _, _, _, _, _⟩) (v := ?_) rfl (by kernel_rfl) (by kernel_rfl) (by kernel_rfl) (fun _ _ _ h => h) (Or.inl ⟨by rfl, ?_⟩) (by assumption) ?_
    rotate_left
    · intro wq hSw; obtain ⟨⟨qz0, qc0, qf0⟩, ⟨qz1, qc1, qf1⟩, ⟨qz2, qc2, qf2⟩, ⟨qz3, qc3, qf3⟩, ⟨qz4, qc4, qf4⟩, ⟨qz5, qc5, qf5⟩, ⟨qz6, qc6, qf6⟩, ⟨qz7, qc7, qf7⟩, ⟨qz8, qc8, qf8⟩, ⟨qz9, qc9, qf9⟩, _⟩ := hSw.2; go_simp; (try with_reducible rfl)
    try simp only [Act.put, List.setIfInBounds_toArray, List.set_cons_zero, List.set_cons_succ]
    refine wpAnyH_take (i := 3) (oi := ⟨some 39, _, _, _, _, _⟩) (v := ?_) rfl (by kernel_rfl) (by kernel_rfl) (by kernel_rfl) (fun _ _ _ h => h) (Or.inl ⟨by rfl, ?_⟩) (by assumption) ?_
    rotate_left
    · intro wq hSw; obtain ⟨⟨qz0, qc0, qf0⟩, ⟨qz1, qc1, qf1⟩, ⟨qz2, qc2, qf2⟩, ⟨qz3, qc3, qf3⟩, ⟨qz4, qc4, qf4⟩, ⟨qz5, qc5, qf5⟩, ⟨qz6, qc6, qf6⟩, ⟨qz7, qc7, qf7⟩, ⟨qz8, qc8, qf8⟩, ⟨qz9, qc9, qf9⟩, _⟩ := hSw.2; go_simp; (try with_reducible rfl)
    try simp only [Act.put, List.setIfInBounds_toArray, List.set_cons_zero, List.set_cons_succ]
    refine wpAnyH_ready (rs := [4]) (by kernel_rfl) (by simp) ?_
    refine AllReadyH.cons (o := ⟨some 40, _, _, _, _, _⟩) rfl (fun K hK => ?_) AllReadyH.nil
    go_simp
    ((with_reducible refine Calls.mono (RA.out _ _ _ (HX.out.below (by first | exact hHeld0.bel | exact hHeld1.bel | exact hHeld2.bel | exact hHeld3.bel | exact hHeld4.bel | exact hHeld5.bel | exact hHeld6.bel | exact hHeld7.bel | exact hHeld8.bel | exact hHeld9.bel | exact hHeld10.bel | exact hHeld11.bel | exact hHeld12.bel | exact hHeld13.bel | exact hHeld14.bel | exact hHeld15.bel | exact hHeld16.bel | exact hHeld17.bel | exact hHeld18.bel | exact hHeld19.bel | exact hHeld20.bel | exact hHeld21.bel | exact hHeld22.bel | exact hHeld23.bel | exact hHeld24.bel | exact hHeld25.bel | exact hHeld26.bel | exact hHeld27.bel | exact hHeld28.bel | exact hHeld29.bel | exact hHeld30.bel | exact hHeld31.bel | exact hHeld32.bel | exact hHeld33.bel | exact hHeld34.bel | exact hHeld35.bel | exact hHeld36.bel | exact hHeld37.bel | exact hHeld38.bel | exact hHeld39.bel | exact hHeld40.bel | exact hHeld41.bel | exact hHeld42.bel | exact hHeld43.bel | exact hHeld44.bel | exact hHeld45.bel | exact hHeld46.bel | exact hHeld47.bel | exact hHeld48.bel | exact hHeld49.bel | exact hHeld50.bel | exact hHeld51.bel | exact hHeld52.bel | exact hHeld53.bel | exact hHeld54.bel | exact hHeld55.bel | exact hHeld56.bel | exact hHeld57.bel | exact hHeld58.bel | exact hHeld59.bel | exact hHeld60.bel | exact hHeld61.bel | exact hHeld62.bel | exact hHeld63.bel | exact hHeld64.bel | exact hHeld65.bel | exact hHeld66.bel | exact hHeld67.bel | exact hHeld68.bel | exact hHeld69.bel | exact hHeld.bel)) (HY.out.below (by first | exact hHeld0.bel | exact hHeld1.bel | exact hHeld2.bel | exact hHeld3.bel | exact hHeld4.bel | exact hHeld5.bel | exact hHeld6.bel | exact hHeld7.bel | exact hHeld8.bel | exact hHeld9.bel | exact hHeld10.bel | exact hHeld11.bel | exact hHeld12.bel | exact hHeld13.bel | exact hHeld14.bel | exact hHeld15.bel | exact hHeld16.bel | exact hHeld17.bel | exact hHeld18.bel | exact hHeld19.bel | exact hHeld20.bel | exact hHeld21.bel | exact hHeld22.bel | exact hHeld23.bel | exact hHeld24.bel | exact hHeld25.bel | exact hHeld26.bel | exact hHeld27.bel | exact hHeld28.bel | exact hHeld29.bel | exact hHeld30.bel | exact hHeld31.bel | exact hHeld32.bel | exact hHeld33.bel | exact hHeld34.bel | exact hHeld35.bel | exact hHeld36.bel | exact hHeld37.bel | exact hHeld38.bel | exact hHeld39.bel | exact hHeld40.bel | exact hHeld41.bel | exact hHeld42.bel | exact hHeld43.bel | exact hHeld44.bel | exact hHeld45.bel | exact hHeld46.bel | exact hHeld47.bel | exact hHeld48.bel | exact hHeld49.bel | exact hHeld50.bel | exact hHeld51.bel | exact hHeld52.bel | exact hHeld53.bel | exact hHeld54.bel | exact hHeld55.bel | exact hHeld56.bel | exact hHeld57.bel | exact hHeld58.bel | exact hHeld59.bel | exact hHeld60.bel | exact hHeld61.bel | exact hHeld62.bel | exact hHeld63.bel | exact hHeld64.bel | exact hHeld65.bel | exact hHeld66.bel | exact hHeld67.bel | exact hHeld68.bel | exact hHeld69.bel | exact hHeld.bel))) ?_); rintro en v4 ⟨b4, A4, m4, c4, rfl, hb, z4⟩)
    refine hK.out _ _ (hHeld0.next hb) (fun hHeld1 => ?_)
    clear hK K
    try clear hb
    try simp only [Act.put, List.setIfInBounds_toArray, List.set_cons_zero, List.set_cons_succ]
    refine wpAnyH_ready (rs := [5]) (by kernel_rfl) (by simp) ?_
    refine AllReadyH.cons (o := ⟨some 41, _, _, _, _, _⟩) rfl (fun K hK => ?_) AllReadyH.nil
    go_simp
    ((with_reducible refine Calls.mono (I1.out _ _ _ _ _ z4) ?_); rintro en v5 ⟨rfl, hb⟩; clear z4)
    refine hK.out _ _ (hHeld1.next hb) (fun hHeld2 => ?_)
    clear hK K
    try clear hb
    try simp only [Act.put, List.setIfInBounds_toArray, List.set_cons_zero, List.set_cons_succ]
    refine wpAnyH_take (i := 6) (oi := ⟨some 42, _, _, _, _, _⟩) (v := ?_) rfl (by kernel_rfl) (by kernel_rfl) (by kernel_rfl) (fun _ _ _ h => h) (Or.inl ⟨by rfl, ?_⟩) (by assumption) ?_
    rotate_left
    · intro wq hSw; go_simp; (try with_reducible rfl)
    try simp only [Act.put, List.setIfInBounds_toArray, List.set_cons_zero, List.set_cons_succ]
    refine wpAnyH_take (i := 7) (oi := ⟨some 43, _, _, _, _, _⟩) (v := ?_) rfl (by kernel_rfl) (by kernel_rfl) (by kernel_rfl) (fun _ _ _ h => h) (Or.inl ⟨by rfl, ?_⟩) (by assumption) ?_
    rotate_left
    · intro wq hSw; obtain ⟨⟨qz0, qc0, qf0⟩, ⟨qz1, qc1, qf1⟩, ⟨qz2, qc2, qf2⟩, ⟨qz3, qc3, qf3⟩, ⟨qz4, qc4, qf4⟩, ⟨qz5, qc5, qf5⟩, ⟨qz6, qc6, qf6⟩, ⟨qz7, qc7, qf7⟩, ⟨qz8, qc8, qf8⟩, ⟨qz9, qc9, qf9⟩, _⟩ := hSw.2; go_simp; (try with_reducible rfl)
    try simp only [Act.put, List.setIfInBounds_toArray, List.set_cons_zero, List.set_cons_succ]
    refine wpAnyH_take (i := 8) (oi := ⟨some 44, _, _, _, _, _⟩) (v := ?_) rfl (by kernel_rfl) (by kernel_rfl) (by kernel_rfl) (fun _ _ _ h => h) (Or.inl ⟨by rfl, ?_⟩) (by assumption) ?_
    rotate_left
    · intro wq hSw; go_simp; (try with_reducible rfl)
    try simp only [Act.put, List.setIfInBounds_toArray, List.set_cons_zero, List.set_cons_succ]
    refine wpAnyH_take (i := 9) (oi := ⟨some 45, _, _, _, _, _⟩) (v := ?_) rfl (by kernel_rfl) (by kernel_rfl) (by kernel_rfl) (fun _ _ _ h => h) (Or.inl ⟨by rfl, ?_⟩) (by assumption) ?_
    rotate_left
    · intro wq hSw; obtain ⟨⟨qz0, qc0, qf0⟩, ⟨qz1, qc1, qf1⟩, ⟨qz2, qc2, qf2⟩, ⟨qz3, qc3, qf3⟩, ⟨qz4, qc4, qf4⟩, ⟨qz5, qc5, qf5⟩, ⟨qz6, qc6, qf6⟩, ⟨qz7, qc7, qf7⟩, ⟨qz8, qc8, qf8⟩, ⟨qz9, qc9, qf9⟩, _⟩ := hSw.2; go_simp; (try with_reducible rfl)
    try simp only [Act.put, List.setIfInBounds_toArray, List.set_cons_zero, List.set_cons_succ]
    refine wpAnyH_take (i := 10) (oi := ⟨some 46, _, _, _, _, _⟩) (v := ?_) rfl (by kernel_rfl) (by kernel_rfl) (by kernel_rfl) (fun _ _ _ h => h) (Or.inl ⟨by rfl, ?_⟩) (by assumption) ?_
    rotate_left
    · intro wq hSw; obtain ⟨⟨qz0, qc0, qf0⟩, ⟨qz1, qc1, qf1⟩, ⟨qz2, qc2, qf2⟩, ⟨qz3, qc3, qf3⟩, ⟨qz4, qc4, qf4⟩, ⟨qz5, qc5, qf5⟩, ⟨qz6, qc6, qf6⟩, ⟨qz7, qc7, qf7⟩, ⟨qz8, qc8, qf8⟩, ⟨qz9, qc9, qf9⟩, _⟩ := hSw.2; go_simp; (try with_reducible rfl)
    try simp only [Act.put, List.setIfInBounds_toArray, List.set_cons_zero, List.set_cons_succ]
    refine wpAnyH_ready (rs := [11]) (by kernel_rfl) (by simp) ?_
    refine AllReadyH.cons (o := ⟨some 47, _, _, _, _, _⟩) rfl (fun K hK => ?_) AllReadyH.nil
    go_simp
    ((with_reducible refine Calls.mono (RS.out _ _ _ (HX.out.below (by first | exact hHeld0.bel | exact hHeld1.bel | exact hHeld2.bel | exact hHeld3.bel | exact hHeld4.bel | exact hHeld5.bel | exact hHeld6.bel | exact hHeld7.bel | exact hHeld8.bel | exact hHeld9.bel | exact hHeld10.bel | exact hHeld11.bel | exact hHeld12.bel | exact hHeld13.bel | exact hHeld14.bel | exact hHeld15.bel | exact hHeld16.bel | exact hHeld17.bel | exact hHeld18.bel | exact hHeld19.bel | exact hHeld20.bel | exact hHeld21.bel | exact hHeld22.bel | exact hHeld23.bel | exact hHeld24.bel | exact hHeld25.bel | exact hHeld26.bel | exact hHeld27.bel | exact hHeld28.bel | exact hHeld29.bel | exact hHeld30.bel | exact hHeld31.bel | exact hHeld32.bel | exact hHeld33.bel | exact hHeld34.bel | exact hHeld35.bel | exact hHeld36.bel | exact hHeld37.bel | exact hHeld38.bel | exact hHeld39.bel | exact hHeld40.bel | exact hHeld41.bel | exact hHeld42.bel | exact hHeld43.bel | exact hHeld44.bel | exact hHeld45.bel | exact hHeld46.bel | exact hHeld47.bel | exact hHeld48.bel | exact hHeld49.bel | exact hHeld50.bel | exact hHeld51.bel | exact hHeld52.bel | exact hHeld53.bel | exact hHeld54.bel | exact hHeld55.bel | exact hHeld56.bel | exact hHeld57.bel | exact hHeld58.bel | exact hHeld59.bel | exact hHeld60.bel | exact hHeld61.bel | exact hHeld62.bel | exact hHeld63.bel | exact hHeld64.bel | exact hHeld65.bel | exact hHeld66.bel | exact hHeld67.bel | exact hHeld68.bel | exact hHeld69.bel | exact hHeld.bel)) (HY.out.below (by first | exact hHeld0.bel | exact hHeld1.bel | exact hHeld2.bel | exact hHeld3.bel | exact hHeld4.bel | exact hHeld5.bel | exact hHeld6.bel | exact hHeld7.bel | exact hHeld8.bel | exact hHeld9.bel | exact hHeld10.bel | exact hHeld11.bel | exact hHeld12.bel | exact hHeld13.bel | exact hHeld14.bel | exact hHeld15.bel | exact hHeld16.bel | exact hHeld17.bel | exact hHeld18.bel | exact hHeld19.bel | exact hHeld20.bel | exact hHeld21.bel | exact hHeld22.bel | exact hHeld23.bel | exact hHeld24.bel | exact hHeld25.bel | exact hHeld26.bel | exact hHeld27.bel | exact hHeld28.bel | exact hHeld29.bel | exact hHeld30.bel | exact hHeld31.bel | exact hHeld32.bel | exact hHeld33.bel | exact hHeld34.bel | exact hHeld35.bel | exact hHeld36.bel | exact hHeld37.bel | exact hHeld38.bel | exact hHeld39.bel | exact hHeld40.bel | exact hHeld41.bel | exact hHeld42.bel | exact hHeld43.bel | exact hHeld44.bel | exact hHeld45.bel | exact hHeld46.bel | exact hHeld47.bel | exact hHeld48.bel | exact hHeld49.bel | exact hHeld50.bel | exact hHeld51.bel | exact hHeld52.bel | exact hHeld53.bel | exact hHeld54.bel | exact hHeld55.bel | exact hHeld56.bel | exact hHeld57.bel | exact hHeld58.bel | exact hHeld59.bel | exact hHeld60.bel | exact hHeld61.bel | exact hHeld62.bel | exact hHeld63.bel | exact hHeld64.bel | exact hHeld65.bel | exact hHeld66.bel | exact hHeld67.bel | exact hHeld68.bel | exact hHeld69.bel | exact hHeld.bel))) ?_); rintro en v6 ⟨b6, A6, m6, c6, rfl, hb, z6⟩)
    refine hK.out _ _ (hHeld2.next hb) (fun hHeld3 => ?_)
    clear hK K
    try clear hb
    try simp only [Act.put, List.setIfInBounds_toArray, List.set_cons_zero, List.set_cons_succ]
    refine wpAnyH_ready (rs := [12]) (by kernel_rfl) (by simp) ?_
    refine AllReadyH.cons (o := ⟨some 48, _, _, _, _, _⟩) rfl (fun K hK => ?_) AllReadyH.nil
    go_simp
    ((with_reducible refine Calls.mono (I2.out _ _ _ _ _ z6) ?_); rintro en v7 ⟨rfl, hb⟩; clear z6)
    refine hK.out _ _ (hHeld3.next hb) (fun hHeld4 => ?_)
    clear hK K
    try clear hb
    try simp only [Act.put, List.setIfInBounds_toArray, List.set_cons_zero, List.set_cons_succ]
    refine wpAnyH_take (i := 13) (oi := ⟨some 49, _, _, _, _, _⟩) (v := ?_) rfl (by kernel_rfl) (by kernel_rfl) (by kernel_rfl) (fun _ _ _ h => h) (Or.inl ⟨by rfl, ?_⟩) (by assumption) ?_
    rotate_left
    · intro wq hSw; go_simp; (try with_reducible rfl)
    try simp only [Act.put, List.setIfInBounds_toArray, List.set_cons_zero, List.set_cons_succ]
    refine wpAnyH_take (i := 14) (oi := ⟨some 50, _, _, _, _, _⟩) (v := ?_) rfl (by kernel_rfl) (by kernel_rfl) (by kernel_rfl) (fun _ _ _ h => h) (Or.inl ⟨by rfl, ?_⟩) (by assumption) ?_
    rotate_left
    · intro wq hSw; go_simp; (try with_reducible rfl)
    try simp only [Act.put, List.setIfInBounds_toArray, List.set_cons_zero, List.set_cons_succ]
    refine wpAnyH_take (i := 15) (oi := ⟨some 51, _, _, _, _, _⟩) (v := ?_) rfl (by kernel_rfl) (by kernel_rfl) (by kernel_rfl) (fun _ _ _ h => h) (Or.inl ⟨by rfl, ?_⟩) (by assumption) ?_
    rotate_left
    · intro wq hSw; obtain ⟨⟨qz0, qc0, qf0⟩, ⟨qz1, qc1, qf1⟩, ⟨qz2, qc2, qf2⟩, ⟨qz3, qc3, qf3⟩, ⟨qz4, qc4, qf4⟩, ⟨qz5, qc5, qf5⟩, ⟨qz6, qc6, qf6⟩, ⟨qz7, qc7, qf7⟩, ⟨qz8, qc8, qf8⟩, ⟨qz9, qc9, qf9⟩, _⟩ := hSw.2; go_simp; (try with_reducible rfl)
    try simp only [Act.put, List.setIfInBounds_toArray, List.set_cons_zero, List.set_cons_succ]
    refine wpAnyH_take (i := 16) (oi := ⟨some 52, _, _, _, _, _⟩) (v := ?_) rfl (by kernel_rfl) (by kernel_rfl) (by kernel_rfl) (fun _ _ _ h => h) (Or.inl ⟨by rfl, ?_⟩) (by assumption) ?_
    rotate_left
    · intro wq hSw; go_simp; (try with_reducible rfl)
    try simp only [Act.put, List.setIfInBounds_toArray, List.set_cons_zero, List.set_cons_succ]
    refine wpAnyH_take (i := 17) (oi := ⟨some 53, _, _, _, _, _⟩) (v := ?_) rfl (by kernel_rfl) (by kernel_rfl) (by kernel_rfl) (fun _ _ _ h => h) (Or.inl ⟨by rfl, ?_⟩) (by assumption) ?_
    rotate_left
    · intro wq hSw; obtain ⟨⟨qz0, qc0, qf0⟩, ⟨qz1, qc1, qf1⟩, ⟨qz2, qc2, qf2⟩, ⟨qz3, qc3, qf3⟩, ⟨qz4, qc4, qf4⟩, ⟨qz5, qc5, qf5⟩, ⟨qz6, qc6, qf6⟩, ⟨qz7, qc7, qf7⟩, ⟨qz8, qc8, qf8⟩, ⟨qz9, qc9, qf9⟩, _⟩ := hSw.2; go_simp; (try with_reducible rfl)
    try simp only [Act.put, List.setIfInBounds_toArray, List.set_cons_zero, List.set_cons_succ]
    refine wpAnyH_ready (rs := [18]) (by kernel_rfl) (by simp) ?_
    refine AllReadyH.cons (o := ⟨some 54, _, _, _, _, _⟩) rfl (fun K hK => ?_) AllReadyH.nil
    go_simp
    ((with_reducible refine Calls.mono (RN.out _ _ (HX.out.below (by first | exact hHeld0.bel | exact hHeld1.bel | exact hHeld2.bel | exact hHeld3.bel | exact hHeld4.bel | exact hHeld5.bel | exact hHeld6.bel | exact hHeld7.bel | exact hHeld8.bel | exact hHeld9.bel | exact hHeld10.bel | exact hHeld11.bel | exact hHeld12.bel | exact hHeld13.bel | exact hHeld14.bel | exact hHeld15.bel | exact hHeld16.bel | exact hHeld17.bel | exact hHeld18.bel | exact hHeld19.bel | exact hHeld20.bel | exact hHeld21.bel | exact hHeld22.bel | exact hHeld23.bel | exact hHeld24.bel | exact hHeld25.bel | exact hHeld26.bel | exact hHeld27.bel | exact hHeld28.bel | exact hHeld29.bel | exact hHeld30.bel | exact hHeld31.bel | exact hHeld32.bel | exact hHeld33.bel | exact hHeld34.bel | exact hHeld35.bel | exact hHeld36.bel | exact hHeld37.bel | exact hHeld38.bel | exact hHeld39.bel | exact hHeld40.bel | exact hHeld41.bel | exact hHeld42.bel | exact hHeld43.bel | exact hHeld44.bel | exact hHeld45.bel | exact hHeld46.bel | exact hHeld47.bel | exact hHeld48.bel | exact hHeld49.bel | exact hHeld50.bel | exact hHeld51.bel | exact hHeld52.bel | exact hHeld53.bel | exact hHeld54.bel | exact hHeld55.bel | exact hHeld56.bel | exact hHeld57.bel | exact hHeld58.bel | exact hHeld59.bel | exact hHeld60.bel | exact hHeld61.bel | exact hHeld62.bel | exact hHeld63.bel | exact hHeld64.bel | exact hHeld65.bel | exact hHeld66.bel | exact hHeld67.bel | exact hHeld68.bel | exact hHeld69.bel | exact hHeld.bel))) ?_); rintro en v8 ⟨b8, A8, m8, c8, rfl, hb, z8⟩)
    refine hK.out _ _ (hHeld4.next hb) (fun hHeld5 => ?_)
    clear hK K
    try clear hb
    try simp only [Act.put, List.setIfInBounds_toArray, List.set_cons_zero, List.set_cons_succ]
    refine wpAnyH_ready (rs := [19]) (by kernel_rfl) (by simp) ?_
    refine AllReadyH.cons (o := ⟨some 55, _, _, _, _, _⟩) rfl (fun K hK => ?_) AllReadyH.nil
    go_simp
    ((with_reducible refine Calls.mono (I3.out _ _ _ _ _ z8) ?_); rintro en v9 ⟨rfl, hb⟩; clear z8)
    refine hK.out _ _ (hHeld5.next hb) (fun hHeld6 => ?_)
    clear hK K
    try clear hb
    try simp only [Act.put, List.setIfInBounds_toArray, List.set_cons_zero, List.set_cons_succ]
    refine wpAnyH_take (i := 20) (oi := ⟨some 56, _, _, _, _, _⟩) (v := ?_) rfl (by kernel_rfl) (by kernel_rfl) (by kernel_rfl) (fun _ _ _ h => h) (Or.inl ⟨by rfl, ?_⟩) (by assumption) ?_
    rotate_left
    · intro wq hSw; go_simp; (try with_reducible rfl)
    try simp only [Act.put, List.setIfInBounds_toArray, List.set_cons_zero, List.set_cons_succ]
    refine wpAnyH_take (i := 21) (oi := ⟨some 4, _, _, _, _, _⟩) (v := ?_) rfl (by kernel_rfl) (by kernel_rfl) (by kernel_rfl) (fun _ _ _ h => h) (Or.inl ⟨by rfl, ?_⟩) (by assumption) ?_
    rotate_left
    · intro wq hSw; go_simp; (try with_reducible rfl)
    try simp only [Act.put, List.setIfInBounds_toArray, List.set_cons_zero, List.set_cons_succ]
    refine wpAnyH_done (by kernel_rfl) ?_ _
    have hHeld := hHeld6
    obtain ⟨⟨kz0, kc0, kf0⟩, ⟨kz1, kc1, kf1⟩, ⟨kz2, kc2, kf2⟩, ⟨kz3, kc3, kf3⟩, ⟨kz4, kc4, kf4⟩, ⟨kz5, kc5, kf5⟩, ⟨kz6, kc6, kf6⟩, ⟨kz7, kc7, kf7⟩, ⟨kz8, kc8, kf8⟩, ⟨kz9, kc9, kf9⟩, _⟩ := hHeld.2
    all_goals
      go_wp2_with fail
      go_ret
      exact ⟨rfl, under hK.1 hHeld.1⟩
end Go.Proofs.YtinppckjolkhpaaDoor
