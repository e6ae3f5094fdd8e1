/-
  The walk of the law WideParts. Conditions: the words are of 64 bits; the table of powers of ten holds what its initialiser lays.
-/
import Derived.Test.YtinppckjolkhpaaDoorWakes
import Derived.Test.YtinppckjolkhpaaDoorIs
import Derived.Test.YtinppckjolkhpaaDoorWideI
import Derived.Test.YtinppckjolkhpaaDoorWideK
namespace Go.Proofs.YtinppckjolkhpaaDoor
open Go.RowKit

theorem cmp_words (ah al bh bl : Int) (k1 : U64 al) (k2 : U64 bl) : (if ah = bh ∧ al = bl then (0 : Int) else if ah < bh ∨ ah = bh ∧ al < bl then -1 else 1) = if val ah al < val bh bl then -1 else if val bh bl < val ah al then 1 else 0 := by
  unfold U64 at k1 k2
  unfold val
  by_cases g : ah = bh ∧ al = bl
  · have l1 : ¬ ah * 18446744073709551616 + al < bh * 18446744073709551616 + bl := by omega
    have l2 : ¬ bh * 18446744073709551616 + bl < ah * 18446744073709551616 + al := by omega
    rw [if_pos g, if_neg l1, if_neg l2]
  · by_cases g2 : ah < bh ∨ ah = bh ∧ al < bl
    · have l1 : ah * 18446744073709551616 + al < bh * 18446744073709551616 + bl := by omega
      rw [if_neg g, if_pos g2, if_pos l1]
    · have l1 : ¬ ah * 18446744073709551616 + al < bh * 18446744073709551616 + bl := by omega
      have l2 : bh * 18446744073709551616 + bl < ah * 18446744073709551616 + al := by omega
      rw [if_neg g, if_neg g2, if_neg l1, if_pos l2]
theorem divD_any (x d : Int) (hd : 1 ≤ d) (hx : (sizeL x.natAbs).length ≤ 3980) (hy : (sizeL d.natAbs).length ≤ 3980) (v v' : Value) (w : World) (h : NumZ w v x) (h' : NumZ w v' d) : Calls Tryd.prog 26 #[v, v'] w (RetZZ w (x / d) (x % d)) := by
  obtain ⟨m, rfl⟩ : ∃ m : Nat, d = m := ⟨d.toNat, by omega⟩
  exact divZ_any x m (by omega) hx (by simpa using hy) v v' w h h'
set_option maxRecDepth 100000 in
set_option maxHeartbeats 32000000 in
theorem parts_law (ah al bh bl mm x y v0 ev q0 q1 rs ec od : Int) (fb lt gt : Bool) (w : World) (htab : Tab w)
    (OA : ∀ W, Calls Tryd.prog 8 #[wideV ah al] W (RetZ W x)) (OB : ∀ W, Calls Tryd.prog 8 #[wideV bh bl] W (RetZ W y))
    (LT : ∀ u u' W, NumZ W u x → NumZ W u' y → Calls Tryd.prog 21 #[u, u'] W (Ret W (.bool lt))) (GT : ∀ u u' W, NumZ W u y → NumZ W u' x → Calls Tryd.prog 21 #[u, u'] W (Ret W (.bool gt)))
    (VA : ∀ u W, NumZ W u x → Calls Tryd.prog 22 #[u] W (Ret W (.tuple #[.int .i64 v0, .bool fb]))) (IN : ∀ W, Calls Tryd.prog 23 #[wideV ah al] W (Ret W (.tuple #[.int .i64 v0, .int .i64 ev])))
    (CM : ∀ W, Calls Tryd.prog 24 #[wideV ah al, wideV bh bl] W (Ret W (.int .i64 od)))
    (DV : ∀ W, Calls Tryd.prog 25 #[wideV ah al, .int .i64 mm] W (Ret W (.tuple #[wideV q0 q1, .int .i64 rs, .int .i64 ec])))
    (IM : ∀ W, Calls Tryd.prog 16 #[.int .i64 mm] W (RetZ W mm)) (RD : 1 ≤ mm → ∀ u u' W, NumZ W u x → NumZ W u' mm → Calls Tryd.prog 26 #[u, u'] W (RetZZ W (x / mm) (x % mm)))
    (VR : 1 ≤ mm → ∀ u W, NumZ W u (x % mm) → Calls Tryd.prog 22 #[u] W (Ret W (.tuple #[.int .i64 rs, .bool true])))
    (IS : 1 ≤ mm → ∀ b A n c W, NumZ W (.agg #[.bool b, .slice A n c]) (x / mm) → Calls Tryd.prog 12 #[wideV q0 q1, .int .i64 0, .agg #[.bool b, .slice A n c]] W (Ret W (.bool true)))
    (ho : lt = true ∧ gt = false ∧ od = -1 ∨ lt = false ∧ gt = true ∧ od = 1 ∨ lt = false ∧ gt = false ∧ od = 0) (he : fb = true ∧ ev = 0 ∨ fb = false ∧ ev = 5)
    (hm : mm < 1 ∧ q0 = 0 ∧ q1 = 0 ∧ rs = 0 ∧ ec = 2 ∨ 1 ≤ mm ∧ ec = 0) :
    Calls Tryd.prog 5 #[wideV ah al, wideV bh bl, .int .i64 mm] w (Ret w (.bool true)) := by
  have WK := Lib.hid (fun W (k : Below w.heap.size w W) => wakes_any W (htab.on k))
  replace OA := Lib.hid OA
  replace OB := Lib.hid OB
  replace LT := Lib.hid LT
  replace GT := Lib.hid GT
  replace VA := Lib.hid VA
  replace IN := Lib.hid IN
  replace CM := Lib.hid CM
  replace DV := Lib.hid DV
  replace IM := Lib.hid IM
  obtain ⟨o1, hl, hg⟩ : ∃ o1 : Int, (lt = true ∧ o1 = -1 ∨ lt = false ∧ o1 = 0) ∧ (gt = true ∧ od = 1 ∨ gt = false ∧ od = o1) := by
    rcases ho with ⟨h1, h2, h3⟩ | ⟨h1, h2, h3⟩ | ⟨h1, h2, h3⟩
    · exact ⟨-1, Or.inl ⟨h1, rfl⟩, Or.inr ⟨h2, h3⟩⟩
    · exact ⟨0, Or.inr ⟨h1, rfl⟩, Or.inl ⟨h2, h3⟩⟩
    · exact ⟨0, Or.inr ⟨h1, rfl⟩, Or.inr ⟨h2, h3⟩⟩
  clear htab ho
  go_enter Tryd.func5, Tryd.ntmps5
  go_wp2_with fail
  refine (WK.out _ (by go_grown)).mono ?_
  rintro e w0 ⟨rfl, hb⟩
  have hHeld : Keeps w [(w.heap.size, 0, .int .i64 ah), (w.heap.size, 1, .int .u64 al), (w.heap.size + 1, 0, .int .i64 bh), (w.heap.size + 1, 1, .int .u64 bl)] _ := Keeps.next (by refine ⟨by go_grown, ?_⟩; simp [Cells, go_sem]) hb
  clear hb
  obtain ⟨⟨kz0, kc0, kf0⟩, ⟨kz1, kc1, kf1⟩, ⟨kz2, kc2, kf2⟩, ⟨kz3, kc3, kf3⟩, _⟩ := hHeld.2
  go_upto_region 3 with (fail)
  have hHs : Keeps w [(w.heap.size, 0, .int .i64 ah), (w.heap.size, 1, .int .u64 al), (w.heap.size + 1, 0, .int .i64 bh), (w.heap.size + 1, 1, .int .u64 bl)] w0 := hHeld
  clear hHeld kz0 kc0 kf0 kz1 kc1 kf1 kz2 kc2 kf2 kz3 kc3 kf3
  go_cut [7, 8] (fun s5 s6 wx => ∃ (g : Nat) (b : Bool) (A : Option Addr) (m c : Nat) (g' : Nat) (b' : Bool) (A' : Option Addr) (m' c' : Nat), s5 = .pointer (some ⟨g, 0, none⟩) ∧ s6 = .pointer (some ⟨g', 0, none⟩) ∧ Hid (NumZ wx (.agg #[.bool b, .slice A m c]) x) ∧ Hid (NumZ wx (.agg #[.bool b', .slice A' m' c']) y) ∧ Keeps w [(g, 0, .bool b), (g, 1, .slice A m c), (g', 0, .bool b'), (g', 1, .slice A' m' c'), (w.heap.size, 0, .int .i64 ah), (w.heap.size, 1, .int .u64 al), (w.heap.size + 1, 0, .int .i64 bh), (w.heap.size + 1, 1, .int .u64 bl)] wx)
  case first =>
    refine region_keeps (w0 := w) (L := [(w.heap.size, 0, .int .i64 ah), (w.heap.size, 1, .int .u64 al), (w.heap.size + 1, 0, .int .i64 bh), (w.heap.size + 1, 1, .int .u64 bl)]) (by kernel_rfl) hHs (fun hHeld0 => ?_)
    refine wpAnyH_take (i := 0) (oi := ⟨some 22, _, _, _, _, _⟩) (v := ?_) rfl (by kernel_rfl) (by kernel_rfl) (by kernel_rfl) (fun _ _ _ h => h) (Or.inl ⟨by rfl, ?_⟩) (by assumption) ?_
    rotate_left
    · intro wq hSw; obtain ⟨⟨qz0, qc0, qf0⟩, ⟨qz1, qc1, qf1⟩, ⟨qz2, qc2, qf2⟩, ⟨qz3, qc3, qf3⟩, _⟩ := hSw.2; go_simp; (try with_reducible rfl)
    try simp only [Act.put, List.setIfInBounds_toArray, List.set_cons_zero, List.set_cons_succ]
    refine wpAnyH_take (i := 2) (oi := ⟨some 24, _, _, _, _, _⟩) (v := ?_) rfl (by kernel_rfl) (by kernel_rfl) (by kernel_rfl) (fun _ _ _ h => h) (Or.inl ⟨by rfl, ?_⟩) (by assumption) ?_
    rotate_left
    · intro wq hSw; obtain ⟨⟨qz0, qc0, qf0⟩, ⟨qz1, qc1, qf1⟩, ⟨qz2, qc2, qf2⟩, ⟨qz3, qc3, qf3⟩, _⟩ := hSw.2; go_simp; (try with_reducible rfl)
    try simp only [Act.put, List.setIfInBounds_toArray, List.set_cons_zero, List.set_cons_succ]
    refine wpAnyH_ready (rs := [1, 4, 5]) (by kernel_rfl) (by simp) ?_
    refine AllReadyH.cons (o := ⟨some 23, _, _, _, _, _⟩) rfl (fun K hK => ?_) ?_
    go_simp
    (first | ((with_reducible refine (OA.out _).mono ?_); rintro e wa ⟨ba, Aa, na, ca, rfl, hb, za⟩) | ((with_reducible refine (OB.out _).mono ?_); rintro e wb ⟨bb, Ab, nb, cb, rfl, hb, zb⟩))
    refine hK.out _ _ (hHeld0.next hb) (fun hHeld1 => ?_)
    clear hK K
    try clear hb
    try simp only [Act.put, List.setIfInBounds_toArray, List.set_cons_zero, List.set_cons_succ]
    refine wpAnyH_ready (rs := [3, 4, 5]) (by kernel_rfl) (by simp) ?_
    refine AllReadyH.cons (o := ⟨some 25, _, _, _, _, _⟩) rfl (fun K hK => ?_) ?_
    go_simp
    (first | ((with_reducible refine (OA.out _).mono ?_); rintro e wa ⟨ba, Aa, na, ca, rfl, hb, za⟩) | ((with_reducible refine (OB.out _).mono ?_); rintro e wb ⟨bb, Ab, nb, cb, rfl, hb, zb⟩))
    refine hK.out _ _ (hHeld1.next hb) (fun hHeld2 => ?_)
    (try replace za := za.below hb)
    clear hK K
    try clear hb
    try simp only [Act.put, List.setIfInBounds_toArray, List.set_cons_zero, List.set_cons_succ]
    refine wpAnyH_ready (rs := [4, 5]) (by kernel_rfl) (by simp) ?_
    refine AllReadyH.cons (o := ⟨some 7, _, _, _, _, _⟩) rfl (fun K hK => ?_) ?_
    have lo7 := hHeld2.1.size
    obtain ⟨⟨a7_z0, a7_c0, a7_f0⟩, ⟨a7_z1, a7_c1, a7_f1⟩, ⟨a7_z2, a7_c2, a7_f2⟩, ⟨a7_z3, a7_c3, a7_f3⟩, _⟩ := hHeld2.2
    (try simp at lo7); (try simp at a7_z0); (try simp at a7_z1); (try simp at a7_z2); (try simp at a7_z3)
    go_simp
    refine hK.out _ _ (by first | exact hHeld2.alloc _ | exact (hHeld2.alloc _).drew) (fun hHeld3 => ?_)
    (try replace za := za.alloc2 hHeld3)
    (try replace zb := zb.alloc2 hHeld3)
    first | have hS7 := newK2 hHeld3 | have hS7 := newK2d hHeld3
    clear hK K
    try clear hb
    try simp only [Act.put, List.setIfInBounds_toArray, List.set_cons_zero, List.set_cons_succ]
    generalize hGWA1 : World.alloc wb (.cells #[.bool false, .slice none 0 0] 28) = WA1 at *
    clear hGWA1
    refine wpAnyH_ready (rs := [5]) (by kernel_rfl) (by simp) ?_
    refine AllReadyH.cons (o := ⟨some 8, _, _, _, _, _⟩) rfl (fun K hK => ?_) AllReadyH.nil
    have hne7_8 := hS7.2.1.1
    have lo8 := hHeld3.1.size
    obtain ⟨⟨a8_z0, a8_c0, a8_f0⟩, ⟨a8_z1, a8_c1, a8_f1⟩, ⟨a8_z2, a8_c2, a8_f2⟩, ⟨a8_z3, a8_c3, a8_f3⟩, _⟩ := hHeld3.2
    (try simp at lo8); (try simp at hne7_8); (try simp at a8_z0); (try simp at a8_z1); (try simp at a8_z2); (try simp at a8_z3)
    go_simp
    refine hK.out _ _ (by first | exact hHeld3.alloc _ | exact (hHeld3.alloc _).drew) (fun hHeld4 => ?_)
    first | replace hS7 := hS7.alloc2e hHeld4 | replace hS7 := hS7.alloc2 hHeld4
    (try replace za := za.alloc2 hHeld4)
    (try replace zb := zb.alloc2 hHeld4)
    first | have hS8 := newK2 hHeld4 | have hS8 := newK2d hHeld4
    clear hK K
    try clear hb
    try simp only [Act.put, List.setIfInBounds_toArray, List.set_cons_zero, List.set_cons_succ]
    generalize hGWA2 : World.alloc WA1 (.cells #[.bool false, .slice none 0 0] 28) = WA2 at *
    clear hGWA2
    refine wpAnyH_ready (rs := [6]) (by kernel_rfl) (by simp) ?_
    refine AllReadyH.cons (o := ⟨none, _, _, _, _, _⟩) rfl (fun K hK => ?_) AllReadyH.nil
    obtain ⟨⟨s7z0, s7c0, s7f0⟩, ⟨s7z1, s7c1, s7f1⟩, _⟩ := hS7.2
    go_simp
    refine hK.out _ _ (by (repeat (first | (with_reducible exact hHeld4) | (refine Keeps.set ?_ (by simp <;> omega) (by simp <;> omega) _)))) (fun hHeld5 => ?_)
    replace hS8 := hS8.mv2 hHeld5 (by first | omega | (simp <;> omega)) (by simp <;> omega)
    (try replace za := za.store2 hHeld5 s7c0 s7c1)
    (try replace zb := zb.store2 hHeld5 s7c0 s7c1)
    replace hS7 := hHeld5.add2 s7z0 s7c0 s7f0 s7c1 s7f1
    clear s7z0 s7c0 s7f0 s7z1 s7c1 s7f1
    clear hK K
    try clear hb
    try simp only [Act.put, List.setIfInBounds_toArray, List.set_cons_zero, List.set_cons_succ]
    generalize hGWA3 : World.setCell (World.setCell WA2 ⟨wb.heap.size, 0, none⟩ (.bool ba)) ⟨wb.heap.size, 1, none⟩ (.slice Aa na ca) = WA3 at *
    clear hGWA3
    refine wpAnyH_ready (rs := [7]) (by kernel_rfl) (by simp) ?_
    refine AllReadyH.cons (o := ⟨none, _, _, _, _, _⟩) rfl (fun K hK => ?_) AllReadyH.nil
    obtain ⟨⟨s8z0, s8c0, s8f0⟩, ⟨s8z1, s8c1, s8f1⟩, _⟩ := hS8.2
    go_simp
    refine hK.out _ _ (by (repeat (first | (with_reducible exact hHeld5) | (refine Keeps.set ?_ (by simp <;> omega) (by simp <;> omega) _)))) (fun hHeld6 => ?_)
    replace hS7 := hS7.mv2 hHeld6 (by first | omega | (simp <;> omega)) (by simp <;> omega)
    (try replace za := za.store2 hHeld6 s8c0 s8c1)
    (try replace zb := zb.store2 hHeld6 s8c0 s8c1)
    replace hS8 := hHeld6.add2 s8z0 s8c0 s8f0 s8c1 s8f1
    clear s8z0 s8c0 s8f0 s8z1 s8c1 s8f1
    clear hK K
    try clear hb
    try simp only [Act.put, List.setIfInBounds_toArray, List.set_cons_zero, List.set_cons_succ]
    generalize hGWA4 : World.setCell (World.setCell WA3 ⟨WA1.heap.size, 0, none⟩ (.bool bb)) ⟨WA1.heap.size, 1, none⟩ (.slice Ab nb cb) = WA4 at *
    clear hGWA4
    refine wpAnyH_done (by kernel_rfl) ?_ _
    have hHeld := hHeld6
    rotate_left 1
    refine AllReadyH.cons (o := ⟨some 8, _, _, _, _, _⟩) rfl (fun K hK => ?_) ?_
    have lo8 := hHeld2.1.size
    obtain ⟨⟨a8_z0, a8_c0, a8_f0⟩, ⟨a8_z1, a8_c1, a8_f1⟩, ⟨a8_z2, a8_c2, a8_f2⟩, ⟨a8_z3, a8_c3, a8_f3⟩, _⟩ := hHeld2.2
    (try simp at lo8); (try simp at a8_z0); (try simp at a8_z1); (try simp at a8_z2); (try simp at a8_z3)
    go_simp
    refine hK.out _ _ (by first | exact hHeld2.alloc _ | exact (hHeld2.alloc _).drew) (fun hHeld7 => ?_)
    (try replace za := za.alloc2 hHeld7)
    (try replace zb := zb.alloc2 hHeld7)
    first | have hS8 := newK2 hHeld7 | have hS8 := newK2d hHeld7
    clear hK K
    try clear hb
    try simp only [Act.put, List.setIfInBounds_toArray, List.set_cons_zero, List.set_cons_succ]
    generalize hGWA5 : World.alloc wb (.cells #[.bool false, .slice none 0 0] 28) = WA5 at *
    clear hGWA5
    refine wpAnyH_ready (rs := [4]) (by kernel_rfl) (by simp) ?_
    refine AllReadyH.cons (o := ⟨some 7, _, _, _, _, _⟩) rfl (fun K hK => ?_) AllReadyH.nil
    have hne8_7 := hS8.2.1.1
    have lo7 := hHeld7.1.size
    obtain ⟨⟨a7_z0, a7_c0, a7_f0⟩, ⟨a7_z1, a7_c1, a7_f1⟩, ⟨a7_z2, a7_c2, a7_f2⟩, ⟨a7_z3, a7_c3, a7_f3⟩, _⟩ := hHeld7.2
    (try simp at lo7); (try simp at hne8_7); (try simp at a7_z0); (try simp at a7_z1); (try simp at a7_z2); (try simp at a7_z3)
    go_simp
    refine hK.out _ _ (by first | exact hHeld7.alloc _ | exact (hHeld7.alloc _).drew) (fun hHeld8 => ?_)
    first | replace hS8 := hS8.alloc2e hHeld8 | replace hS8 := hS8.alloc2 hHeld8
    (try replace za := za.alloc2 hHeld8)
    (try replace zb := zb.alloc2 hHeld8)
    first | have hS7 := newK2 hHeld8 | have hS7 := newK2d hHeld8
    clear hK K
    try clear hb
    try simp only [Act.put, List.setIfInBounds_toArray, List.set_cons_zero, List.set_cons_succ]
    generalize hGWA6 : World.alloc WA5 (.cells #[.bool false, .slice none 0 0] 28) = WA6 at *
    clear hGWA6
    refine wpAnyH_ready (rs := [6]) (by kernel_rfl) (by simp) ?_
    refine AllReadyH.cons (o := ⟨none, _, _, _, _, _⟩) rfl (fun K hK => ?_) AllReadyH.nil
    obtain ⟨⟨s7z0, s7c0, s7f0⟩, ⟨s7z1, s7c1, s7f1⟩, _⟩ := hS7.2
    go_simp
    refine hK.out _ _ (by (repeat (first | (with_reducible exact hHeld8) | (refine Keeps.set ?_ (by simp <;> omega) (by simp <;> omega) _)))) (fun hHeld9 => ?_)
    replace hS8 := hS8.mv2 hHeld9 (by first | omega | (simp <;> omega)) (by simp <;> omega)
    (try replace za := za.store2 hHeld9 s7c0 s7c1)
    (try replace zb := zb.store2 hHeld9 s7c0 s7c1)
    replace hS7 := hHeld9.add2 s7z0 s7c0 s7f0 s7c1 s7f1
    clear s7z0 s7c0 s7f0 s7z1 s7c1 s7f1
    clear hK K
    try clear hb
    try simp only [Act.put, List.setIfInBounds_toArray, List.set_cons_zero, List.set_cons_succ]
    generalize hGWA7 : World.setCell (World.setCell WA6 ⟨WA5.heap.size, 0, none⟩ (.bool ba)) ⟨WA5.heap.size, 1, none⟩ (.slice Aa na ca) = WA7 at *
    clear hGWA7
    refine wpAnyH_ready (rs := [7]) (by kernel_rfl) (by simp) ?_
    refine AllReadyH.cons (o := ⟨none, _, _, _, _, _⟩) rfl (fun K hK => ?_) AllReadyH.nil
    obtain ⟨⟨s8z0, s8c0, s8f0⟩, ⟨s8z1, s8c1, s8f1⟩, _⟩ := hS8.2
    go_simp
    refine hK.out _ _ (by (repeat (first | (with_reducible exact hHeld9) | (refine Keeps.set ?_ (by simp <;> omega) (by simp <;> omega) _)))) (fun hHeld10 => ?_)
    replace hS7 := hS7.mv2 hHeld10 (by first | omega | (simp <;> omega)) (by simp <;> omega)
    (try replace za := za.store2 hHeld10 s8c0 s8c1)
    (try replace zb := zb.store2 hHeld10 s8c0 s8c1)
    replace hS8 := hHeld10.add2 s8z0 s8c0 s8f0 s8c1 s8f1
    clear s8z0 s8c0 s8f0 s8z1 s8c1 s8f1
    clear hK K
    try clear hb
    try simp only [Act.put, List.setIfInBounds_toArray, List.set_cons_zero, List.set_cons_succ]
    generalize hGWA8 : World.setCell (World.setCell WA7 ⟨wb.heap.size, 0, none⟩ (.bool bb)) ⟨wb.heap.size, 1, none⟩ (.slice Ab nb cb) = WA8 at *
    clear hGWA8
    refine wpAnyH_done (by kernel_rfl) ?_ _
    have hHeld := hHeld10
    rotate_left 1
    exact AllReadyH.nil
    refine AllReadyH.cons (o := ⟨some 7, _, _, _, _, _⟩) rfl (fun K hK => ?_) ?_
    have lo7 := hHeld1.1.size
    obtain ⟨⟨a7_z0, a7_c0, a7_f0⟩, ⟨a7_z1, a7_c1, a7_f1⟩, ⟨a7_z2, a7_c2, a7_f2⟩, ⟨a7_z3, a7_c3, a7_f3⟩, _⟩ := hHeld1.2
    (try simp at lo7); (try simp at a7_z0); (try simp at a7_z1); (try simp at a7_z2); (try simp at a7_z3)
    go_simp
    refine hK.out _ _ (by first | exact hHeld1.alloc _ | exact (hHeld1.alloc _).drew) (fun hHeld11 => ?_)
    (try replace za := za.alloc2 hHeld11)
    first | have hS7 := newK2 hHeld11 | have hS7 := newK2d hHeld11
    clear hK K
    try clear hb
    try simp only [Act.put, List.setIfInBounds_toArray, List.set_cons_zero, List.set_cons_succ]
    generalize hGWA9 : World.alloc wa (.cells #[.bool false, .slice none 0 0] 28) = WA9 at *
    clear hGWA9
    refine wpAnyH_ready (rs := [3, 5]) (by kernel_rfl) (by simp) ?_
    refine AllReadyH.cons (o := ⟨some 25, _, _, _, _, _⟩) rfl (fun K hK => ?_) ?_
    go_simp
    (first | ((with_reducible refine (OA.out _).mono ?_); rintro e wa ⟨ba, Aa, na, ca, rfl, hb, za⟩) | ((with_reducible refine (OB.out _).mono ?_); rintro e wb ⟨bb, Ab, nb, cb, rfl, hb, zb⟩))
    refine hK.out _ _ (hHeld11.next hb) (fun hHeld12 => ?_)
    replace hS7 := hS7.next hb
    (try replace za := za.below hb)
    clear hK K
    try clear hb
    try simp only [Act.put, List.setIfInBounds_toArray, List.set_cons_zero, List.set_cons_succ]
    refine wpAnyH_ready (rs := [5]) (by kernel_rfl) (by simp) ?_
    refine AllReadyH.cons (o := ⟨some 8, _, _, _, _, _⟩) rfl (fun K hK => ?_) AllReadyH.nil
    have hne7_8 := hS7.2.1.1
    have lo8 := hHeld12.1.size
    obtain ⟨⟨a8_z0, a8_c0, a8_f0⟩, ⟨a8_z1, a8_c1, a8_f1⟩, ⟨a8_z2, a8_c2, a8_f2⟩, ⟨a8_z3, a8_c3, a8_f3⟩, _⟩ := hHeld12.2
    (try simp at lo8); (try simp at hne7_8); (try simp at a8_z0); (try simp at a8_z1); (try simp at a8_z2); (try simp at a8_z3)
    go_simp
    refine hK.out _ _ (by first | exact hHeld12.alloc _ | exact (hHeld12.alloc _).drew) (fun hHeld13 => ?_)
    first | replace hS7 := hS7.alloc2e hHeld13 | replace hS7 := hS7.alloc2 hHeld13
    (try replace za := za.alloc2 hHeld13)
    (try replace zb := zb.alloc2 hHeld13)
    first | have hS8 := newK2 hHeld13 | have hS8 := newK2d hHeld13
    clear hK K
    try clear hb
    try simp only [Act.put, List.setIfInBounds_toArray, List.set_cons_zero, List.set_cons_succ]
    generalize hGWA10 : World.alloc wb (.cells #[.bool false, .slice none 0 0] 28) = WA10 at *
    clear hGWA10
    refine wpAnyH_ready (rs := [6]) (by kernel_rfl) (by simp) ?_
    refine AllReadyH.cons (o := ⟨none, _, _, _, _, _⟩) rfl (fun K hK => ?_) AllReadyH.nil
    obtain ⟨⟨s7z0, s7c0, s7f0⟩, ⟨s7z1, s7c1, s7f1⟩, _⟩ := hS7.2
    go_simp
    refine hK.out _ _ (by (repeat (first | (with_reducible exact hHeld13) | (refine Keeps.set ?_ (by simp <;> omega) (by simp <;> omega) _)))) (fun hHeld14 => ?_)
    replace hS8 := hS8.mv2 hHeld14 (by first | omega | (simp <;> omega)) (by simp <;> omega)
    (try replace za := za.store2 hHeld14 s7c0 s7c1)
    (try replace zb := zb.store2 hHeld14 s7c0 s7c1)
    replace hS7 := hHeld14.add2 s7z0 s7c0 s7f0 s7c1 s7f1
    clear s7z0 s7c0 s7f0 s7z1 s7c1 s7f1
    clear hK K
    try clear hb
    try simp only [Act.put, List.setIfInBounds_toArray, List.set_cons_zero, List.set_cons_succ]
    generalize hGWA11 : World.setCell (World.setCell WA10 ⟨wa.heap.size, 0, none⟩ (.bool ba)) ⟨wa.heap.size, 1, none⟩ (.slice Aa na ca) = WA11 at *
    clear hGWA11
    refine wpAnyH_ready (rs := [7]) (by kernel_rfl) (by simp) ?_
    refine AllReadyH.cons (o := ⟨none, _, _, _, _, _⟩) rfl (fun K hK => ?_) AllReadyH.nil
    obtain ⟨⟨s8z0, s8c0, s8f0⟩, ⟨s8z1, s8c1, s8f1⟩, _⟩ := hS8.2
    go_simp
    refine hK.out _ _ (by (repeat (first | (with_reducible exact hHeld14) | (refine Keeps.set ?_ (by simp <;> omega) (by simp <;> omega) _)))) (fun hHeld15 => ?_)
    replace hS7 := hS7.mv2 hHeld15 (by first | omega | (simp <;> omega)) (by simp <;> omega)
    (try replace za := za.store2 hHeld15 s8c0 s8c1)
    (try replace zb := zb.store2 hHeld15 s8c0 s8c1)
    replace hS8 := hHeld15.add2 s8z0 s8c0 s8f0 s8c1 s8f1
    clear s8z0 s8c0 s8f0 s8z1 s8c1 s8f1
    clear hK K
    try clear hb
    try simp only [Act.put, List.setIfInBounds_toArray, List.set_cons_zero, List.set_cons_succ]
    generalize hGWA12 : World.setCell (World.setCell WA11 ⟨wb.heap.size, 0, none⟩ (.bool bb)) ⟨wb.heap.size, 1, none⟩ (.slice Ab nb cb) = WA12 at *
    clear hGWA12
    refine wpAnyH_done (by kernel_rfl) ?_ _
    have hHeld := hHeld15
    rotate_left 1
    refine AllReadyH.cons (o := ⟨some 8, _, _, _, _, _⟩) rfl (fun K hK => ?_) ?_
    have hne7_8 := hS7.2.1.1
    have lo8 := hHeld11.1.size
    obtain ⟨⟨a8_z0, a8_c0, a8_f0⟩, ⟨a8_z1, a8_c1, a8_f1⟩, ⟨a8_z2, a8_c2, a8_f2⟩, ⟨a8_z3, a8_c3, a8_f3⟩, _⟩ := hHeld11.2
    (try simp at lo8); (try simp at hne7_8); (try simp at a8_z0); (try simp at a8_z1); (try simp at a8_z2); (try simp at a8_z3)
    go_simp
    refine hK.out _ _ (by first | exact hHeld11.alloc _ | exact (hHeld11.alloc _).drew) (fun hHeld16 => ?_)
    first | replace hS7 := hS7.alloc2e hHeld16 | replace hS7 := hS7.alloc2 hHeld16
    (try replace za := za.alloc2 hHeld16)
    first | have hS8 := newK2 hHeld16 | have hS8 := newK2d hHeld16
    clear hK K
    try clear hb
    try simp only [Act.put, List.setIfInBounds_toArray, List.set_cons_zero, List.set_cons_succ]
    generalize hGWA13 : World.alloc WA9 (.cells #[.bool false, .slice none 0 0] 28) = WA13 at *
    clear hGWA13
    refine wpAnyH_ready (rs := [3]) (by kernel_rfl) (by simp) ?_
    refine AllReadyH.cons (o := ⟨some 25, _, _, _, _, _⟩) rfl (fun K hK => ?_) AllReadyH.nil
    go_simp
    (first | ((with_reducible refine (OA.out _).mono ?_); rintro e wa ⟨ba, Aa, na, ca, rfl, hb, za⟩) | ((with_reducible refine (OB.out _).mono ?_); rintro e wb ⟨bb, Ab, nb, cb, rfl, hb, zb⟩))
    refine hK.out _ _ (hHeld16.next hb) (fun hHeld17 => ?_)
    replace hS7 := hS7.next hb
    replace hS8 := hS8.next hb
    (try replace za := za.below hb)
    clear hK K
    try clear hb
    try simp only [Act.put, List.setIfInBounds_toArray, List.set_cons_zero, List.set_cons_succ]
    refine wpAnyH_ready (rs := [6]) (by kernel_rfl) (by simp) ?_
    refine AllReadyH.cons (o := ⟨none, _, _, _, _, _⟩) rfl (fun K hK => ?_) AllReadyH.nil
    obtain ⟨⟨s7z0, s7c0, s7f0⟩, ⟨s7z1, s7c1, s7f1⟩, _⟩ := hS7.2
    go_simp
    refine hK.out _ _ (by (repeat (first | (with_reducible exact hHeld17) | (refine Keeps.set ?_ (by simp <;> omega) (by simp <;> omega) _)))) (fun hHeld18 => ?_)
    replace hS8 := hS8.mv2 hHeld18 (by first | omega | (simp <;> omega)) (by simp <;> omega)
    (try replace za := za.store2 hHeld18 s7c0 s7c1)
    (try replace zb := zb.store2 hHeld18 s7c0 s7c1)
    replace hS7 := hHeld18.add2 s7z0 s7c0 s7f0 s7c1 s7f1
    clear s7z0 s7c0 s7f0 s7z1 s7c1 s7f1
    clear hK K
    try clear hb
    try simp only [Act.put, List.setIfInBounds_toArray, List.set_cons_zero, List.set_cons_succ]
    generalize hGWA14 : World.setCell (World.setCell wb ⟨wa.heap.size, 0, none⟩ (.bool ba)) ⟨wa.heap.size, 1, none⟩ (.slice Aa na ca) = WA14 at *
    clear hGWA14
    refine wpAnyH_ready (rs := [7]) (by kernel_rfl) (by simp) ?_
    refine AllReadyH.cons (o := ⟨none, _, _, _, _, _⟩) rfl (fun K hK => ?_) AllReadyH.nil
    obtain ⟨⟨s8z0, s8c0, s8f0⟩, ⟨s8z1, s8c1, s8f1⟩, _⟩ := hS8.2
    go_simp
    refine hK.out _ _ (by (repeat (first | (with_reducible exact hHeld18) | (refine Keeps.set ?_ (by simp <;> omega) (by simp <;> omega) _)))) (fun hHeld19 => ?_)
    replace hS7 := hS7.mv2 hHeld19 (by first | omega | (simp <;> omega)) (by simp <;> omega)
    (try replace za := za.store2 hHeld19 s8c0 s8c1)
    (try replace zb := zb.store2 hHeld19 s8c0 s8c1)
    replace hS8 := hHeld19.add2 s8z0 s8c0 s8f0 s8c1 s8f1
    clear s8z0 s8c0 s8f0 s8z1 s8c1 s8f1
    clear hK K
    try clear hb
    try simp only [Act.put, List.setIfInBounds_toArray, List.set_cons_zero, List.set_cons_succ]
    generalize hGWA15 : World.setCell (World.setCell WA14 ⟨WA9.heap.size, 0, none⟩ (.bool bb)) ⟨WA9.heap.size, 1, none⟩ (.slice Ab nb cb) = WA15 at *
    clear hGWA15
    refine wpAnyH_done (by kernel_rfl) ?_ _
    have hHeld := hHeld19
    rotate_left 1
    exact AllReadyH.nil
    refine AllReadyH.cons (o := ⟨some 8, _, _, _, _, _⟩) rfl (fun K hK => ?_) ?_
    have lo8 := hHeld1.1.size
    obtain ⟨⟨a8_z0, a8_c0, a8_f0⟩, ⟨a8_z1, a8_c1, a8_f1⟩, ⟨a8_z2, a8_c2, a8_f2⟩, ⟨a8_z3, a8_c3, a8_f3⟩, _⟩ := hHeld1.2
    (try simp at lo8); (try simp at a8_z0); (try simp at a8_z1); (try simp at a8_z2); (try simp at a8_z3)
    go_simp
    refine hK.out _ _ (by first | exact hHeld1.alloc _ | exact (hHeld1.alloc _).drew) (fun hHeld20 => ?_)
    (try replace za := za.alloc2 hHeld20)
    first | have hS8 := newK2 hHeld20 | have hS8 := newK2d hHeld20
    clear hK K
    try clear hb
    try simp only [Act.put, List.setIfInBounds_toArray, List.set_cons_zero, List.set_cons_succ]
    generalize hGWA16 : World.alloc wa (.cells #[.bool false, .slice none 0 0] 28) = WA16 at *
    clear hGWA16
    refine wpAnyH_ready (rs := [3, 4]) (by kernel_rfl) (by simp) ?_
    refine AllReadyH.cons (o := ⟨some 25, _, _, _, _, _⟩) rfl (fun K hK => ?_) ?_
    go_simp
    (first | ((with_reducible refine (OA.out _).mono ?_); rintro e wa ⟨ba, Aa, na, ca, rfl, hb, za⟩) | ((with_reducible refine (OB.out _).mono ?_); rintro e wb ⟨bb, Ab, nb, cb, rfl, hb, zb⟩))
    refine hK.out _ _ (hHeld20.next hb) (fun hHeld21 => ?_)
    replace hS8 := hS8.next hb
    (try replace za := za.below hb)
    clear hK K
    try clear hb
    try simp only [Act.put, List.setIfInBounds_toArray, List.set_cons_zero, List.set_cons_succ]
    refine wpAnyH_ready (rs := [4]) (by kernel_rfl) (by simp) ?_
    refine AllReadyH.cons (o := ⟨some 7, _, _, _, _, _⟩) rfl (fun K hK => ?_) AllReadyH.nil
    have hne8_7 := hS8.2.1.1
    have lo7 := hHeld21.1.size
    obtain ⟨⟨a7_z0, a7_c0, a7_f0⟩, ⟨a7_z1, a7_c1, a7_f1⟩, ⟨a7_z2, a7_c2, a7_f2⟩, ⟨a7_z3, a7_c3, a7_f3⟩, _⟩ := hHeld21.2
    (try simp at lo7); (try simp at hne8_7); (try simp at a7_z0); (try simp at a7_z1); (try simp at a7_z2); (try simp at a7_z3)
    go_simp
    refine hK.out _ _ (by first | exact hHeld21.alloc _ | exact (hHeld21.alloc _).drew) (fun hHeld22 => ?_)
    first | replace hS8 := hS8.alloc2e hHeld22 | replace hS8 := hS8.alloc2 hHeld22
    (try replace za := za.alloc2 hHeld22)
    (try replace zb := zb.alloc2 hHeld22)
    first | have hS7 := newK2 hHeld22 | have hS7 := newK2d hHeld22
    clear hK K
    try clear hb
    try simp only [Act.put, List.setIfInBounds_toArray, List.set_cons_zero, List.set_cons_succ]
    generalize hGWA17 : World.alloc wb (.cells #[.bool false, .slice none 0 0] 28) = WA17 at *
    clear hGWA17
    refine wpAnyH_ready (rs := [6]) (by kernel_rfl) (by simp) ?_
    refine AllReadyH.cons (o := ⟨none, _, _, _, _, _⟩) rfl (fun K hK => ?_) AllReadyH.nil
    obtain ⟨⟨s7z0, s7c0, s7f0⟩, ⟨s7z1, s7c1, s7f1⟩, _⟩ := hS7.2
    go_simp
    refine hK.out _ _ (by (repeat (first | (with_reducible exact hHeld22) | (refine Keeps.set ?_ (by simp <;> omega) (by simp <;> omega) _)))) (fun hHeld23 => ?_)
    replace hS8 := hS8.mv2 hHeld23 (by first | omega | (simp <;> omega)) (by simp <;> omega)
    (try replace za := za.store2 hHeld23 s7c0 s7c1)
    (try replace zb := zb.store2 hHeld23 s7c0 s7c1)
    replace hS7 := hHeld23.add2 s7z0 s7c0 s7f0 s7c1 s7f1
    clear s7z0 s7c0 s7f0 s7z1 s7c1 s7f1
    clear hK K
    try clear hb
    try simp only [Act.put, List.setIfInBounds_toArray, List.set_cons_zero, List.set_cons_succ]
    generalize hGWA18 : World.setCell (World.setCell WA17 ⟨wb.heap.size, 0, none⟩ (.bool ba)) ⟨wb.heap.size, 1, none⟩ (.slice Aa na ca) = WA18 at *
    clear hGWA18
    refine wpAnyH_ready (rs := [7]) (by kernel_rfl) (by simp) ?_
    refine AllReadyH.cons (o := ⟨none, _, _, _, _, _⟩) rfl (fun K hK => ?_) AllReadyH.nil
    obtain ⟨⟨s8z0, s8c0, s8f0⟩, ⟨s8z1, s8c1, s8f1⟩, _⟩ := hS8.2
    go_simp
    refine hK.out _ _ (by (repeat (first | (with_reducible exact hHeld23) | (refine Keeps.set ?_ (by simp <;> omega) (by simp <;> omega) _)))) (fun hHeld24 => ?_)
    replace hS7 := hS7.mv2 hHeld24 (by first | omega | (simp <;> omega)) (by simp <;> omega)
    (try replace za := za.store2 hHeld24 s8c0 s8c1)
    (try replace zb := zb.store2 hHeld24 s8c0 s8c1)
    replace hS8 := hHeld24.add2 s8z0 s8c0 s8f0 s8c1 s8f1
    clear s8z0 s8c0 s8f0 s8z1 s8c1 s8f1
    clear hK K
    try clear hb
    try simp only [Act.put, List.setIfInBounds_toArray, List.set_cons_zero, List.set_cons_succ]
    generalize hGWA19 : World.setCell (World.setCell WA18 ⟨wa.heap.size, 0, none⟩ (.bool bb)) ⟨wa.heap.size, 1, none⟩ (.slice Ab nb cb) = WA19 at *
    clear hGWA19
    refine wpAnyH_done (by kernel_rfl) ?_ _
    have hHeld := hHeld24
    rotate_left 1
    refine AllReadyH.cons (o := ⟨some 7, _, _, _, _, _⟩) rfl (fun K hK => ?_) ?_
    have hne8_7 := hS8.2.1.1
    have lo7 := hHeld20.1.size
    obtain ⟨⟨a7_z0, a7_c0, a7_f0⟩, ⟨a7_z1, a7_c1, a7_f1⟩, ⟨a7_z2, a7_c2, a7_f2⟩, ⟨a7_z3, a7_c3, a7_f3⟩, _⟩ := hHeld20.2
    (try simp at lo7); (try simp at hne8_7); (try simp at a7_z0); (try simp at a7_z1); (try simp at a7_z2); (try simp at a7_z3)
    go_simp
    refine hK.out _ _ (by first | exact hHeld20.alloc _ | exact (hHeld20.alloc _).drew) (fun hHeld25 => ?_)
    first | replace hS8 := hS8.alloc2e hHeld25 | replace hS8 := hS8.alloc2 hHeld25
    (try replace za := za.alloc2 hHeld25)
    first | have hS7 := newK2 hHeld25 | have hS7 := newK2d hHeld25
    clear hK K
    try clear hb
    try simp only [Act.put, List.setIfInBounds_toArray, List.set_cons_zero, List.set_cons_succ]
    generalize hGWA20 : World.alloc WA16 (.cells #[.bool false, .slice none 0 0] 28) = WA20 at *
    clear hGWA20
    refine wpAnyH_ready (rs := [3]) (by kernel_rfl) (by simp) ?_
    refine AllReadyH.cons (o := ⟨some 25, _, _, _, _, _⟩) rfl (fun K hK => ?_) AllReadyH.nil
    go_simp
    (first | ((with_reducible refine (OA.out _).mono ?_); rintro e wa ⟨ba, Aa, na, ca, rfl, hb, za⟩) | ((with_reducible refine (OB.out _).mono ?_); rintro e wb ⟨bb, Ab, nb, cb, rfl, hb, zb⟩))
    refine hK.out _ _ (hHeld25.next hb) (fun hHeld26 => ?_)
    replace hS8 := hS8.next hb
    replace hS7 := hS7.next hb
    (try replace za := za.below hb)
    clear hK K
    try clear hb
    try simp only [Act.put, List.setIfInBounds_toArray, List.set_cons_zero, List.set_cons_succ]
    refine wpAnyH_ready (rs := [6]) (by kernel_rfl) (by simp) ?_
    refine AllReadyH.cons (o := ⟨none, _, _, _, _, _⟩) rfl (fun K hK => ?_) AllReadyH.nil
    obtain ⟨⟨s7z0, s7c0, s7f0⟩, ⟨s7z1, s7c1, s7f1⟩, _⟩ := hS7.2
    go_simp
    refine hK.out _ _ (by (repeat (first | (with_reducible exact hHeld26) | (refine Keeps.set ?_ (by simp <;> omega) (by simp <;> omega) _)))) (fun hHeld27 => ?_)
    replace hS8 := hS8.mv2 hHeld27 (by first | omega | (simp <;> omega)) (by simp <;> omega)
    (try replace za := za.store2 hHeld27 s7c0 s7c1)
    (try replace zb := zb.store2 hHeld27 s7c0 s7c1)
    replace hS7 := hHeld27.add2 s7z0 s7c0 s7f0 s7c1 s7f1
    clear s7z0 s7c0 s7f0 s7z1 s7c1 s7f1
    clear hK K
    try clear hb
    try simp only [Act.put, List.setIfInBounds_toArray, List.set_cons_zero, List.set_cons_succ]
    generalize hGWA21 : World.setCell (World.setCell wb ⟨WA16.heap.size, 0, none⟩ (.bool ba)) ⟨WA16.heap.size, 1, none⟩ (.slice Aa na ca) = WA21 at *
    clear hGWA21
    refine wpAnyH_ready (rs := [7]) (by kernel_rfl) (by simp) ?_
    refine AllReadyH.cons (o := ⟨none, _, _, _, _, _⟩) rfl (fun K hK => ?_) AllReadyH.nil
    obtain ⟨⟨s8z0, s8c0, s8f0⟩, ⟨s8z1, s8c1, s8f1⟩, _⟩ := hS8.2
    go_simp
    refine hK.out _ _ (by (repeat (first | (with_reducible exact hHeld27) | (refine Keeps.set ?_ (by simp <;> omega) (by simp <;> omega) _)))) (fun hHeld28 => ?_)
    replace hS7 := hS7.mv2 hHeld28 (by first | omega | (simp <;> omega)) (by simp <;> omega)
    (try replace za := za.store2 hHeld28 s8c0 s8c1)
    (try replace zb := zb.store2 hHeld28 s8c0 s8c1)
    replace hS8 := hHeld28.add2 s8z0 s8c0 s8f0 s8c1 s8f1
    clear s8z0 s8c0 s8f0 s8z1 s8c1 s8f1
    clear hK K
    try clear hb
    try simp only [Act.put, List.setIfInBounds_toArray, List.set_cons_zero, List.set_cons_succ]
    generalize hGWA22 : World.setCell (World.setCell WA21 ⟨wa.heap.size, 0, none⟩ (.bool bb)) ⟨wa.heap.size, 1, none⟩ (.slice Ab nb cb) = WA22 at *
    clear hGWA22
    refine wpAnyH_done (by kernel_rfl) ?_ _
    have hHeld := hHeld28
    rotate_left 1
    exact AllReadyH.nil
    exact AllReadyH.nil
    refine AllReadyH.cons (o := ⟨some 7, _, _, _, _, _⟩) rfl (fun K hK => ?_) ?_
    have lo7 := hHeld0.1.size
    obtain ⟨⟨a7_z0, a7_c0, a7_f0⟩, ⟨a7_z1, a7_c1, a7_f1⟩, ⟨a7_z2, a7_c2, a7_f2⟩, ⟨a7_z3, a7_c3, a7_f3⟩, _⟩ := hHeld0.2
    (try simp at lo7); (try simp at a7_z0); (try simp at a7_z1); (try simp at a7_z2); (try simp at a7_z3)
    go_simp
    refine hK.out _ _ (by first | exact hHeld0.alloc _ | exact (hHeld0.alloc _).drew) (fun hHeld29 => ?_)
    first | have hS7 := newK2 hHeld29 | have hS7 := newK2d hHeld29
    clear hK K
    try clear hb
    try simp only [Act.put, List.setIfInBounds_toArray, List.set_cons_zero, List.set_cons_succ]
    generalize hGWA23 : World.alloc w0 (.cells #[.bool false, .slice none 0 0] 28) = WA23 at *
    clear hGWA23
    refine wpAnyH_ready (rs := [1, 5]) (by kernel_rfl) (by simp) ?_
    refine AllReadyH.cons (o := ⟨some 23, _, _, _, _, _⟩) rfl (fun K hK => ?_) ?_
    go_simp
    (first | ((with_reducible refine (OA.out _).mono ?_); rintro e wa ⟨ba, Aa, na, ca, rfl, hb, za⟩) | ((with_reducible refine (OB.out _).mono ?_); rintro e wb ⟨bb, Ab, nb, cb, rfl, hb, zb⟩))
    refine hK.out _ _ (hHeld29.next hb) (fun hHeld30 => ?_)
    replace hS7 := hS7.next hb
    clear hK K
    try clear hb
    try simp only [Act.put, List.setIfInBounds_toArray, List.set_cons_zero, List.set_cons_succ]
    refine wpAnyH_ready (rs := [3, 5]) (by kernel_rfl) (by simp) ?_
    refine AllReadyH.cons (o := ⟨some 25, _, _, _, _, _⟩) rfl (fun K hK => ?_) ?_
    go_simp
    (first | ((with_reducible refine (OA.out _).mono ?_); rintro e wa ⟨ba, Aa, na, ca, rfl, hb, za⟩) | ((with_reducible refine (OB.out _).mono ?_); rintro e wb ⟨bb, Ab, nb, cb, rfl, hb, zb⟩))
    refine hK.out _ _ (hHeld30.next hb) (fun hHeld31 => ?_)
    replace hS7 := hS7.next hb
    (try replace za := za.below hb)
    clear hK K
    try clear hb
    try simp only [Act.put, List.setIfInBounds_toArray, List.set_cons_zero, List.set_cons_succ]
    refine wpAnyH_ready (rs := [5]) (by kernel_rfl) (by simp) ?_
    refine AllReadyH.cons (o := ⟨some 8, _, _, _, _, _⟩) rfl (fun K hK => ?_) AllReadyH.nil
    have hne7_8 := hS7.2.1.1
    have lo8 := hHeld31.1.size
    obtain ⟨⟨a8_z0, a8_c0, a8_f0⟩, ⟨a8_z1, a8_c1, a8_f1⟩, ⟨a8_z2, a8_c2, a8_f2⟩, ⟨a8_z3, a8_c3, a8_f3⟩, _⟩ := hHeld31.2
    (try simp at lo8); (try simp at hne7_8); (try simp at a8_z0); (try simp at a8_z1); (try simp at a8_z2); (try simp at a8_z3)
    go_simp
    refine hK.out _ _ (by first | exact hHeld31.alloc _ | exact (hHeld31.alloc _).drew) (fun hHeld32 => ?_)
    first | replace hS7 := hS7.alloc2e hHeld32 | replace hS7 := hS7.alloc2 hHeld32
    (try replace za := za.alloc2 hHeld32)
    (try replace zb := zb.alloc2 hHeld32)
    first | have hS8 := newK2 hHeld32 | have hS8 := newK2d hHeld32
    clear hK K
    try clear hb
    try simp only [Act.put, List.setIfInBounds_toArray, List.set_cons_zero, List.set_cons_succ]
    generalize hGWA24 : World.alloc wb (.cells #[.bool false, .slice none 0 0] 28) = WA24 at *
    clear hGWA24
    refine wpAnyH_ready (rs := [6]) (by kernel_rfl) (by simp) ?_
    refine AllReadyH.cons (o := ⟨none, _, _, _, _, _⟩) rfl (fun K hK => ?_) AllReadyH.nil
    obtain ⟨⟨s7z0, s7c0, s7f0⟩, ⟨s7z1, s7c1, s7f1⟩, _⟩ := hS7.2
    go_simp
    refine hK.out _ _ (by (repeat (first | (with_reducible exact hHeld32) | (refine Keeps.set ?_ (by simp <;> omega) (by simp <;> omega) _)))) (fun hHeld33 => ?_)
    replace hS8 := hS8.mv2 hHeld33 (by first | omega | (simp <;> omega)) (by simp <;> omega)
    (try replace za := za.store2 hHeld33 s7c0 s7c1)
    (try replace zb := zb.store2 hHeld33 s7c0 s7c1)
    replace hS7 := hHeld33.add2 s7z0 s7c0 s7f0 s7c1 s7f1
    clear s7z0 s7c0 s7f0 s7z1 s7c1 s7f1
    clear hK K
    try clear hb
    try simp only [Act.put, List.setIfInBounds_toArray, List.set_cons_zero, List.set_cons_succ]
    generalize hGWA25 : World.setCell (World.setCell WA24 ⟨w0.heap.size, 0, none⟩ (.bool ba)) ⟨w0.heap.size, 1, none⟩ (.slice Aa na ca) = WA25 at *
    clear hGWA25
    refine wpAnyH_ready (rs := [7]) (by kernel_rfl) (by simp) ?_
    refine AllReadyH.cons (o := ⟨none, _, _, _, _, _⟩) rfl (fun K hK => ?_) AllReadyH.nil
    obtain ⟨⟨s8z0, s8c0, s8f0⟩, ⟨s8z1, s8c1, s8f1⟩, _⟩ := hS8.2
    go_simp
    refine hK.out _ _ (by (repeat (first | (with_reducible exact hHeld33) | (refine Keeps.set ?_ (by simp <;> omega) (by simp <;> omega) _)))) (fun hHeld34 => ?_)
    replace hS7 := hS7.mv2 hHeld34 (by first | omega | (simp <;> omega)) (by simp <;> omega)
    (try replace za := za.store2 hHeld34 s8c0 s8c1)
    (try replace zb := zb.store2 hHeld34 s8c0 s8c1)
    replace hS8 := hHeld34.add2 s8z0 s8c0 s8f0 s8c1 s8f1
    clear s8z0 s8c0 s8f0 s8z1 s8c1 s8f1
    clear hK K
    try clear hb
    try simp only [Act.put, List.setIfInBounds_toArray, List.set_cons_zero, List.set_cons_succ]
    generalize hGWA26 : World.setCell (World.setCell WA25 ⟨wb.heap.size, 0, none⟩ (.bool bb)) ⟨wb.heap.size, 1, none⟩ (.slice Ab nb cb) = WA26 at *
    clear hGWA26
    refine wpAnyH_done (by kernel_rfl) ?_ _
    have hHeld := hHeld34
    rotate_left 1
    refine AllReadyH.cons (o := ⟨some 8, _, _, _, _, _⟩) rfl (fun K hK => ?_) ?_
    have hne7_8 := hS7.2.1.1
    have lo8 := hHeld30.1.size
    obtain ⟨⟨a8_z0, a8_c0, a8_f0⟩, ⟨a8_z1, a8_c1, a8_f1⟩, ⟨a8_z2, a8_c2, a8_f2⟩, ⟨a8_z3, a8_c3, a8_f3⟩, _⟩ := hHeld30.2
    (try simp at lo8); (try simp at hne7_8); (try simp at a8_z0); (try simp at a8_z1); (try simp at a8_z2); (try simp at a8_z3)
    go_simp
    refine hK.out _ _ (by first | exact hHeld30.alloc _ | exact (hHeld30.alloc _).drew) (fun hHeld35 => ?_)
    first | replace hS7 := hS7.alloc2e hHeld35 | replace hS7 := hS7.alloc2 hHeld35
    (try replace za := za.alloc2 hHeld35)
    first | have hS8 := newK2 hHeld35 | have hS8 := newK2d hHeld35
    clear hK K
    try clear hb
    try simp only [Act.put, List.setIfInBounds_toArray, List.set_cons_zero, List.set_cons_succ]
    generalize hGWA27 : World.alloc wa (.cells #[.bool false, .slice none 0 0] 28) = WA27 at *
    clear hGWA27
    refine wpAnyH_ready (rs := [3]) (by kernel_rfl) (by simp) ?_
    refine AllReadyH.cons (o := ⟨some 25, _, _, _, _, _⟩) rfl (fun K hK => ?_) AllReadyH.nil
    go_simp
    (first | ((with_reducible refine (OA.out _).mono ?_); rintro e wa ⟨ba, Aa, na, ca, rfl, hb, za⟩) | ((with_reducible refine (OB.out _).mono ?_); rintro e wb ⟨bb, Ab, nb, cb, rfl, hb, zb⟩))
    refine hK.out _ _ (hHeld35.next hb) (fun hHeld36 => ?_)
    replace hS7 := hS7.next hb
    replace hS8 := hS8.next hb
    (try replace za := za.below hb)
    clear hK K
    try clear hb
    try simp only [Act.put, List.setIfInBounds_toArray, List.set_cons_zero, List.set_cons_succ]
    refine wpAnyH_ready (rs := [6]) (by kernel_rfl) (by simp) ?_
    refine AllReadyH.cons (o := ⟨none, _, _, _, _, _⟩) rfl (fun K hK => ?_) AllReadyH.nil
    obtain ⟨⟨s7z0, s7c0, s7f0⟩, ⟨s7z1, s7c1, s7f1⟩, _⟩ := hS7.2
    go_simp
    refine hK.out _ _ (by (repeat (first | (with_reducible exact hHeld36) | (refine Keeps.set ?_ (by simp <;> omega) (by simp <;> omega) _)))) (fun hHeld37 => ?_)
    replace hS8 := hS8.mv2 hHeld37 (by first | omega | (simp <;> omega)) (by simp <;> omega)
    (try replace za := za.store2 hHeld37 s7c0 s7c1)
    (try replace zb := zb.store2 hHeld37 s7c0 s7c1)
    replace hS7 := hHeld37.add2 s7z0 s7c0 s7f0 s7c1 s7f1
    clear s7z0 s7c0 s7f0 s7z1 s7c1 s7f1
    clear hK K
    try clear hb
    try simp only [Act.put, List.setIfInBounds_toArray, List.set_cons_zero, List.set_cons_succ]
    generalize hGWA28 : World.setCell (World.setCell wb ⟨w0.heap.size, 0, none⟩ (.bool ba)) ⟨w0.heap.size, 1, none⟩ (.slice Aa na ca) = WA28 at *
    clear hGWA28
    refine wpAnyH_ready (rs := [7]) (by kernel_rfl) (by simp) ?_
    refine AllReadyH.cons (o := ⟨none, _, _, _, _, _⟩) rfl (fun K hK => ?_) AllReadyH.nil
    obtain ⟨⟨s8z0, s8c0, s8f0⟩, ⟨s8z1, s8c1, s8f1⟩, _⟩ := hS8.2
    go_simp
    refine hK.out _ _ (by (repeat (first | (with_reducible exact hHeld37) | (refine Keeps.set ?_ (by simp <;> omega) (by simp <;> omega) _)))) (fun hHeld38 => ?_)
    replace hS7 := hS7.mv2 hHeld38 (by first | omega | (simp <;> omega)) (by simp <;> omega)
    (try replace za := za.store2 hHeld38 s8c0 s8c1)
    (try replace zb := zb.store2 hHeld38 s8c0 s8c1)
    replace hS8 := hHeld38.add2 s8z0 s8c0 s8f0 s8c1 s8f1
    clear s8z0 s8c0 s8f0 s8z1 s8c1 s8f1
    clear hK K
    try clear hb
    try simp only [Act.put, List.setIfInBounds_toArray, List.set_cons_zero, List.set_cons_succ]
    generalize hGWA29 : World.setCell (World.setCell WA28 ⟨wa.heap.size, 0, none⟩ (.bool bb)) ⟨wa.heap.size, 1, none⟩ (.slice Ab nb cb) = WA29 at *
    clear hGWA29
    refine wpAnyH_done (by kernel_rfl) ?_ _
    have hHeld := hHeld38
    rotate_left 1
    exact AllReadyH.nil
    refine AllReadyH.cons (o := ⟨some 8, _, _, _, _, _⟩) rfl (fun K hK => ?_) ?_
    have hne7_8 := hS7.2.1.1
    have lo8 := hHeld29.1.size
    obtain ⟨⟨a8_z0, a8_c0, a8_f0⟩, ⟨a8_z1, a8_c1, a8_f1⟩, ⟨a8_z2, a8_c2, a8_f2⟩, ⟨a8_z3, a8_c3, a8_f3⟩, _⟩ := hHeld29.2
    (try simp at lo8); (try simp at hne7_8); (try simp at a8_z0); (try simp at a8_z1); (try simp at a8_z2); (try simp at a8_z3)
    go_simp
    refine hK.out _ _ (by first | exact hHeld29.alloc _ | exact (hHeld29.alloc _).drew) (fun hHeld39 => ?_)
    first | replace hS7 := hS7.alloc2e hHeld39 | replace hS7 := hS7.alloc2 hHeld39
    first | have hS8 := newK2 hHeld39 | have hS8 := newK2d hHeld39
    clear hK K
    try clear hb
    try simp only [Act.put, List.setIfInBounds_toArray, List.set_cons_zero, List.set_cons_succ]
    generalize hGWA30 : World.alloc WA23 (.cells #[.bool false, .slice none 0 0] 28) = WA30 at *
    clear hGWA30
    refine wpAnyH_ready (rs := [1]) (by kernel_rfl) (by simp) ?_
    refine AllReadyH.cons (o := ⟨some 23, _, _, _, _, _⟩) rfl (fun K hK => ?_) AllReadyH.nil
    go_simp
    (first | ((with_reducible refine (OA.out _).mono ?_); rintro e wa ⟨ba, Aa, na, ca, rfl, hb, za⟩) | ((with_reducible refine (OB.out _).mono ?_); rintro e wb ⟨bb, Ab, nb, cb, rfl, hb, zb⟩))
    refine hK.out _ _ (hHeld39.next hb) (fun hHeld40 => ?_)
    replace hS7 := hS7.next hb
    replace hS8 := hS8.next hb
    clear hK K
    try clear hb
    try simp only [Act.put, List.setIfInBounds_toArray, List.set_cons_zero, List.set_cons_succ]
    refine wpAnyH_ready (rs := [3]) (by kernel_rfl) (by simp) ?_
    refine AllReadyH.cons (o := ⟨some 25, _, _, _, _, _⟩) rfl (fun K hK => ?_) AllReadyH.nil
    go_simp
    (first | ((with_reducible refine (OA.out _).mono ?_); rintro e wa ⟨ba, Aa, na, ca, rfl, hb, za⟩) | ((with_reducible refine (OB.out _).mono ?_); rintro e wb ⟨bb, Ab, nb, cb, rfl, hb, zb⟩))
    refine hK.out _ _ (hHeld40.next hb) (fun hHeld41 => ?_)
    replace hS7 := hS7.next hb
    replace hS8 := hS8.next hb
    (try replace za := za.below hb)
    clear hK K
    try clear hb
    try simp only [Act.put, List.setIfInBounds_toArray, List.set_cons_zero, List.set_cons_succ]
    refine wpAnyH_ready (rs := [6]) (by kernel_rfl) (by simp) ?_
    refine AllReadyH.cons (o := ⟨none, _, _, _, _, _⟩) rfl (fun K hK => ?_) AllReadyH.nil
    obtain ⟨⟨s7z0, s7c0, s7f0⟩, ⟨s7z1, s7c1, s7f1⟩, _⟩ := hS7.2
    go_simp
    refine hK.out _ _ (by (repeat (first | (with_reducible exact hHeld41) | (refine Keeps.set ?_ (by simp <;> omega) (by simp <;> omega) _)))) (fun hHeld42 => ?_)
    replace hS8 := hS8.mv2 hHeld42 (by first | omega | (simp <;> omega)) (by simp <;> omega)
    (try replace za := za.store2 hHeld42 s7c0 s7c1)
    (try replace zb := zb.store2 hHeld42 s7c0 s7c1)
    replace hS7 := hHeld42.add2 s7z0 s7c0 s7f0 s7c1 s7f1
    clear s7z0 s7c0 s7f0 s7z1 s7c1 s7f1
    clear hK K
    try clear hb
    try simp only [Act.put, List.setIfInBounds_toArray, List.set_cons_zero, List.set_cons_succ]
    generalize hGWA31 : World.setCell (World.setCell wb ⟨w0.heap.size, 0, none⟩ (.bool ba)) ⟨w0.heap.size, 1, none⟩ (.slice Aa na ca) = WA31 at *
    clear hGWA31
    refine wpAnyH_ready (rs := [7]) (by kernel_rfl) (by simp) ?_
    refine AllReadyH.cons (o := ⟨none, _, _, _, _, _⟩) rfl (fun K hK => ?_) AllReadyH.nil
    obtain ⟨⟨s8z0, s8c0, s8f0⟩, ⟨s8z1, s8c1, s8f1⟩, _⟩ := hS8.2
    go_simp
    refine hK.out _ _ (by (repeat (first | (with_reducible exact hHeld42) | (refine Keeps.set ?_ (by simp <;> omega) (by simp <;> omega) _)))) (fun hHeld43 => ?_)
    replace hS7 := hS7.mv2 hHeld43 (by first | omega | (simp <;> omega)) (by simp <;> omega)
    (try replace za := za.store2 hHeld43 s8c0 s8c1)
    (try replace zb := zb.store2 hHeld43 s8c0 s8c1)
    replace hS8 := hHeld43.add2 s8z0 s8c0 s8f0 s8c1 s8f1
    clear s8z0 s8c0 s8f0 s8z1 s8c1 s8f1
    clear hK K
    try clear hb
    try simp only [Act.put, List.setIfInBounds_toArray, List.set_cons_zero, List.set_cons_succ]
    generalize hGWA32 : World.setCell (World.setCell WA31 ⟨WA23.heap.size, 0, none⟩ (.bool bb)) ⟨WA23.heap.size, 1, none⟩ (.slice Ab nb cb) = WA32 at *
    clear hGWA32
    refine wpAnyH_done (by kernel_rfl) ?_ _
    have hHeld := hHeld43
    rotate_left 1
    exact AllReadyH.nil
    refine AllReadyH.cons (o := ⟨some 8, _, _, _, _, _⟩) rfl (fun K hK => ?_) ?_
    have lo8 := hHeld0.1.size
    obtain ⟨⟨a8_z0, a8_c0, a8_f0⟩, ⟨a8_z1, a8_c1, a8_f1⟩, ⟨a8_z2, a8_c2, a8_f2⟩, ⟨a8_z3, a8_c3, a8_f3⟩, _⟩ := hHeld0.2
    (try simp at lo8); (try simp at a8_z0); (try simp at a8_z1); (try simp at a8_z2); (try simp at a8_z3)
    go_simp
    refine hK.out _ _ (by first | exact hHeld0.alloc _ | exact (hHeld0.alloc _).drew) (fun hHeld44 => ?_)
    first | have hS8 := newK2 hHeld44 | have hS8 := newK2d hHeld44
    clear hK K
    try clear hb
    try simp only [Act.put, List.setIfInBounds_toArray, List.set_cons_zero, List.set_cons_succ]
    generalize hGWA33 : World.alloc w0 (.cells #[.bool false, .slice none 0 0] 28) = WA33 at *
    clear hGWA33
    refine wpAnyH_ready (rs := [1, 4]) (by kernel_rfl) (by simp) ?_
    refine AllReadyH.cons (o := ⟨some 23, _, _, _, _, _⟩) rfl (fun K hK => ?_) ?_
    go_simp
    (first | ((with_reducible refine (OA.out _).mono ?_); rintro e wa ⟨ba, Aa, na, ca, rfl, hb, za⟩) | ((with_reducible refine (OB.out _).mono ?_); rintro e wb ⟨bb, Ab, nb, cb, rfl, hb, zb⟩))
    refine hK.out _ _ (hHeld44.next hb) (fun hHeld45 => ?_)
    replace hS8 := hS8.next hb
    clear hK K
    try clear hb
    try simp only [Act.put, List.setIfInBounds_toArray, List.set_cons_zero, List.set_cons_succ]
    refine wpAnyH_ready (rs := [3, 4]) (by kernel_rfl) (by simp) ?_
    refine AllReadyH.cons (o := ⟨some 25, _, _, _, _, _⟩) rfl (fun K hK => ?_) ?_
    go_simp
    (first | ((with_reducible refine (OA.out _).mono ?_); rintro e wa ⟨ba, Aa, na, ca, rfl, hb, za⟩) | ((with_reducible refine (OB.out _).mono ?_); rintro e wb ⟨bb, Ab, nb, cb, rfl, hb, zb⟩))
    refine hK.out _ _ (hHeld45.next hb) (fun hHeld46 => ?_)
    replace hS8 := hS8.next hb
    (try replace za := za.below hb)
    clear hK K
    try clear hb
    try simp only [Act.put, List.setIfInBounds_toArray, List.set_cons_zero, List.set_cons_succ]
    refine wpAnyH_ready (rs := [4]) (by kernel_rfl) (by simp) ?_
    refine AllReadyH.cons (o := ⟨some 7, _, _, _, _, _⟩) rfl (fun K hK => ?_) AllReadyH.nil
    have hne8_7 := hS8.2.1.1
    have lo7 := hHeld46.1.size
    obtain ⟨⟨a7_z0, a7_c0, a7_f0⟩, ⟨a7_z1, a7_c1, a7_f1⟩, ⟨a7_z2, a7_c2, a7_f2⟩, ⟨a7_z3, a7_c3, a7_f3⟩, _⟩ := hHeld46.2
    (try simp at lo7); (try simp at hne8_7); (try simp at a7_z0); (try simp at a7_z1); (try simp at a7_z2); (try simp at a7_z3)
    go_simp
    refine hK.out _ _ (by first | exact hHeld46.alloc _ | exact (hHeld46.alloc _).drew) (fun hHeld47 => ?_)
    first | replace hS8 := hS8.alloc2e hHeld47 | replace hS8 := hS8.alloc2 hHeld47
    (try replace za := za.alloc2 hHeld47)
    (try replace zb := zb.alloc2 hHeld47)
    first | have hS7 := newK2 hHeld47 | have hS7 := newK2d hHeld47
    clear hK K
    try clear hb
    try simp only [Act.put, List.setIfInBounds_toArray, List.set_cons_zero, List.set_cons_succ]
    generalize hGWA34 : World.alloc wb (.cells #[.bool false, .slice none 0 0] 28) = WA34 at *
    clear hGWA34
    refine wpAnyH_ready (rs := [6]) (by kernel_rfl) (by simp) ?_
    refine AllReadyH.cons (o := ⟨none, _, _, _, _, _⟩) rfl (fun K hK => ?_) AllReadyH.nil
    obtain ⟨⟨s7z0, s7c0, s7f0⟩, ⟨s7z1, s7c1, s7f1⟩, _⟩ := hS7.2
    go_simp
    refine hK.out _ _ (by (repeat (first | (with_reducible exact hHeld47) | (refine Keeps.set ?_ (by simp <;> omega) (by simp <;> omega) _)))) (fun hHeld48 => ?_)
    replace hS8 := hS8.mv2 hHeld48 (by first | omega | (simp <;> omega)) (by simp <;> omega)
    (try replace za := za.store2 hHeld48 s7c0 s7c1)
    (try replace zb := zb.store2 hHeld48 s7c0 s7c1)
    replace hS7 := hHeld48.add2 s7z0 s7c0 s7f0 s7c1 s7f1
    clear s7z0 s7c0 s7f0 s7z1 s7c1 s7f1
    clear hK K
    try clear hb
    try simp only [Act.put, List.setIfInBounds_toArray, List.set_cons_zero, List.set_cons_succ]
    generalize hGWA35 : World.setCell (World.setCell WA34 ⟨wb.heap.size, 0, none⟩ (.bool ba)) ⟨wb.heap.size, 1, none⟩ (.slice Aa na ca) = WA35 at *
    clear hGWA35
    refine wpAnyH_ready (rs := [7]) (by kernel_rfl) (by simp) ?_
    refine AllReadyH.cons (o := ⟨none, _, _, _, _, _⟩) rfl (fun K hK => ?_) AllReadyH.nil
    obtain ⟨⟨s8z0, s8c0, s8f0⟩, ⟨s8z1, s8c1, s8f1⟩, _⟩ := hS8.2
    go_simp
    refine hK.out _ _ (by (repeat (first | (with_reducible exact hHeld48) | (refine Keeps.set ?_ (by simp <;> omega) (by simp <;> omega) _)))) (fun hHeld49 => ?_)
    replace hS7 := hS7.mv2 hHeld49 (by first | omega | (simp <;> omega)) (by simp <;> omega)
    (try replace za := za.store2 hHeld49 s8c0 s8c1)
    (try replace zb := zb.store2 hHeld49 s8c0 s8c1)
    replace hS8 := hHeld49.add2 s8z0 s8c0 s8f0 s8c1 s8f1
    clear s8z0 s8c0 s8f0 s8z1 s8c1 s8f1
    clear hK K
    try clear hb
    try simp only [Act.put, List.setIfInBounds_toArray, List.set_cons_zero, List.set_cons_succ]
    generalize hGWA36 : World.setCell (World.setCell WA35 ⟨w0.heap.size, 0, none⟩ (.bool bb)) ⟨w0.heap.size, 1, none⟩ (.slice Ab nb cb) = WA36 at *
    clear hGWA36
    refine wpAnyH_done (by kernel_rfl) ?_ _
    have hHeld := hHeld49
    rotate_left 1
    refine AllReadyH.cons (o := ⟨some 7, _, _, _, _, _⟩) rfl (fun K hK => ?_) ?_
    have hne8_7 := hS8.2.1.1
    have lo7 := hHeld45.1.size
    obtain ⟨⟨a7_z0, a7_c0, a7_f0⟩, ⟨a7_z1, a7_c1, a7_f1⟩, ⟨a7_z2, a7_c2, a7_f2⟩, ⟨a7_z3, a7_c3, a7_f3⟩, _⟩ := hHeld45.2
    (try simp at lo7); (try simp at hne8_7); (try simp at a7_z0); (try simp at a7_z1); (try simp at a7_z2); (try simp at a7_z3)
    go_simp
    refine hK.out _ _ (by first | exact hHeld45.alloc _ | exact (hHeld45.alloc _).drew) (fun hHeld50 => ?_)
    first | replace hS8 := hS8.alloc2e hHeld50 | replace hS8 := hS8.alloc2 hHeld50
    (try replace za := za.alloc2 hHeld50)
    first | have hS7 := newK2 hHeld50 | have hS7 := newK2d hHeld50
    clear hK K
    try clear hb
    try simp only [Act.put, List.setIfInBounds_toArray, List.set_cons_zero, List.set_cons_succ]
    generalize hGWA37 : World.alloc wa (.cells #[.bool false, .slice none 0 0] 28) = WA37 at *
    clear hGWA37
    refine wpAnyH_ready (rs := [3]) (by kernel_rfl) (by simp) ?_
    refine AllReadyH.cons (o := ⟨some 25, _, _, _, _, _⟩) rfl (fun K hK => ?_) AllReadyH.nil
    go_simp
    (first | ((with_reducible refine (OA.out _).mono ?_); rintro e wa ⟨ba, Aa, na, ca, rfl, hb, za⟩) | ((with_reducible refine (OB.out _).mono ?_); rintro e wb ⟨bb, Ab, nb, cb, rfl, hb, zb⟩))
    refine hK.out _ _ (hHeld50.next hb) (fun hHeld51 => ?_)
    replace hS8 := hS8.next hb
    replace hS7 := hS7.next hb
    (try replace za := za.below hb)
    clear hK K
    try clear hb
    try simp only [Act.put, List.setIfInBounds_toArray, List.set_cons_zero, List.set_cons_succ]
    refine wpAnyH_ready (rs := [6]) (by kernel_rfl) (by simp) ?_
    refine AllReadyH.cons (o := ⟨none, _, _, _, _, _⟩) rfl (fun K hK => ?_) AllReadyH.nil
    obtain ⟨⟨s7z0, s7c0, s7f0⟩, ⟨s7z1, s7c1, s7f1⟩, _⟩ := hS7.2
    go_simp
    refine hK.out _ _ (by (repeat (first | (with_reducible exact hHeld51) | (refine Keeps.set ?_ (by simp <;> omega) (by simp <;> omega) _)))) (fun hHeld52 => ?_)
    replace hS8 := hS8.mv2 hHeld52 (by first | omega | (simp <;> omega)) (by simp <;> omega)
    (try replace za := za.store2 hHeld52 s7c0 s7c1)
    (try replace zb := zb.store2 hHeld52 s7c0 s7c1)
    replace hS7 := hHeld52.add2 s7z0 s7c0 s7f0 s7c1 s7f1
    clear s7z0 s7c0 s7f0 s7z1 s7c1 s7f1
    clear hK K
    try clear hb
    try simp only [Act.put, List.setIfInBounds_toArray, List.set_cons_zero, List.set_cons_succ]
    generalize hGWA38 : World.setCell (World.setCell wb ⟨wa.heap.size, 0, none⟩ (.bool ba)) ⟨wa.heap.size, 1, none⟩ (.slice Aa na ca) = WA38 at *
    clear hGWA38
    refine wpAnyH_ready (rs := [7]) (by kernel_rfl) (by simp) ?_
    refine AllReadyH.cons (o := ⟨none, _, _, _, _, _⟩) rfl (fun K hK => ?_) AllReadyH.nil
    obtain ⟨⟨s8z0, s8c0, s8f0⟩, ⟨s8z1, s8c1, s8f1⟩, _⟩ := hS8.2
    go_simp
    refine hK.out _ _ (by (repeat (first | (with_reducible exact hHeld52) | (refine Keeps.set ?_ (by simp <;> omega) (by simp <;> omega) _)))) (fun hHeld53 => ?_)
    replace hS7 := hS7.mv2 hHeld53 (by first | omega | (simp <;> omega)) (by simp <;> omega)
    (try replace za := za.store2 hHeld53 s8c0 s8c1)
    (try replace zb := zb.store2 hHeld53 s8c0 s8c1)
    replace hS8 := hHeld53.add2 s8z0 s8c0 s8f0 s8c1 s8f1
    clear s8z0 s8c0 s8f0 s8z1 s8c1 s8f1
    clear hK K
    try clear hb
    try simp only [Act.put, List.setIfInBounds_toArray, List.set_cons_zero, List.set_cons_succ]
    generalize hGWA39 : World.setCell (World.setCell WA38 ⟨w0.heap.size, 0, none⟩ (.bool bb)) ⟨w0.heap.size, 1, none⟩ (.slice Ab nb cb) = WA39 at *
    clear hGWA39
    refine wpAnyH_done (by kernel_rfl) ?_ _
    have hHeld := hHeld53
    rotate_left 1
    exact AllReadyH.nil
    refine AllReadyH.cons (o := ⟨some 7, _, _, _, _, _⟩) rfl (fun K hK => ?_) ?_
    have hne8_7 := hS8.2.1.1
    have lo7 := hHeld44.1.size
    obtain ⟨⟨a7_z0, a7_c0, a7_f0⟩, ⟨a7_z1, a7_c1, a7_f1⟩, ⟨a7_z2, a7_c2, a7_f2⟩, ⟨a7_z3, a7_c3, a7_f3⟩, _⟩ := hHeld44.2
    (try simp at lo7); (try simp at hne8_7); (try simp at a7_z0); (try simp at a7_z1); (try simp at a7_z2); (try simp at a7_z3)
    go_simp
    refine hK.out _ _ (by first | exact hHeld44.alloc _ | exact (hHeld44.alloc _).drew) (fun hHeld54 => ?_)
    first | replace hS8 := hS8.alloc2e hHeld54 | replace hS8 := hS8.alloc2 hHeld54
    first | have hS7 := newK2 hHeld54 | have hS7 := newK2d hHeld54
    clear hK K
    try clear hb
    try simp only [Act.put, List.setIfInBounds_toArray, List.set_cons_zero, List.set_cons_succ]
    generalize hGWA40 : World.alloc WA33 (.cells #[.bool false, .slice none 0 0] 28) = WA40 at *
    clear hGWA40
    refine wpAnyH_ready (rs := [1]) (by kernel_rfl) (by simp) ?_
    refine AllReadyH.cons (o := ⟨some 23, _, _, _, _, _⟩) rfl (fun K hK => ?_) AllReadyH.nil
    go_simp
    (first | ((with_reducible refine (OA.out _).mono ?_); rintro e wa ⟨ba, Aa, na, ca, rfl, hb, za⟩) | ((with_reducible refine (OB.out _).mono ?_); rintro e wb ⟨bb, Ab, nb, cb, rfl, hb, zb⟩))
    refine hK.out _ _ (hHeld54.next hb) (fun hHeld55 => ?_)
    replace hS8 := hS8.next hb
    replace hS7 := hS7.next hb
    clear hK K
    try clear hb
    try simp only [Act.put, List.setIfInBounds_toArray, List.set_cons_zero, List.set_cons_succ]
    refine wpAnyH_ready (rs := [3]) (by kernel_rfl) (by simp) ?_
    refine AllReadyH.cons (o := ⟨some 25, _, _, _, _, _⟩) rfl (fun K hK => ?_) AllReadyH.nil
    go_simp
    (first | ((with_reducible refine (OA.out _).mono ?_); rintro e wa ⟨ba, Aa, na, ca, rfl, hb, za⟩) | ((with_reducible refine (OB.out _).mono ?_); rintro e wb ⟨bb, Ab, nb, cb, rfl, hb, zb⟩))
    refine hK.out _ _ (hHeld55.next hb) (fun hHeld56 => ?_)
    replace hS8 := hS8.next hb
    replace hS7 := hS7.next hb
    (try replace za := za.below hb)
    clear hK K
    try clear hb
    try simp only [Act.put, List.setIfInBounds_toArray, List.set_cons_zero, List.set_cons_succ]
    refine wpAnyH_ready (rs := [6]) (by kernel_rfl) (by simp) ?_
    refine AllReadyH.cons (o := ⟨none, _, _, _, _, _⟩) rfl (fun K hK => ?_) AllReadyH.nil
    obtain ⟨⟨s7z0, s7c0, s7f0⟩, ⟨s7z1, s7c1, s7f1⟩, _⟩ := hS7.2
    go_simp
    refine hK.out _ _ (by (repeat (first | (with_reducible exact hHeld56) | (refine Keeps.set ?_ (by simp <;> omega) (by simp <;> omega) _)))) (fun hHeld57 => ?_)
    replace hS8 := hS8.mv2 hHeld57 (by first | omega | (simp <;> omega)) (by simp <;> omega)
    (try replace za := za.store2 hHeld57 s7c0 s7c1)
    (try replace zb := zb.store2 hHeld57 s7c0 s7c1)
    replace hS7 := hHeld57.add2 s7z0 s7c0 s7f0 s7c1 s7f1
    clear s7z0 s7c0 s7f0 s7z1 s7c1 s7f1
    clear hK K
    try clear hb
    try simp only [Act.put, List.setIfInBounds_toArray, List.set_cons_zero, List.set_cons_succ]
    generalize hGWA41 : World.setCell (World.setCell wb ⟨WA33.heap.size, 0, none⟩ (.bool ba)) ⟨WA33.heap.size, 1, none⟩ (.slice Aa na ca) = WA41 at *
    clear hGWA41
    refine wpAnyH_ready (rs := [7]) (by kernel_rfl) (by simp) ?_
    refine AllReadyH.cons (o := ⟨none, _, _, _, _, _⟩) rfl (fun K hK => ?_) AllReadyH.nil
    obtain ⟨⟨s8z0, s8c0, s8f0⟩, ⟨s8z1, s8c1, s8f1⟩, _⟩ := hS8.2
    go_simp
    refine hK.out _ _ (by (repeat (first | (with_reducible exact hHeld57) | (refine Keeps.set ?_ (by simp <;> omega) (by simp <;> omega) _)))) (fun hHeld58 => ?_)
    replace hS7 := hS7.mv2 hHeld58 (by first | omega | (simp <;> omega)) (by simp <;> omega)
    (try replace za := za.store2 hHeld58 s8c0 s8c1)
    (try replace zb := zb.store2 hHeld58 s8c0 s8c1)
    replace hS8 := hHeld58.add2 s8z0 s8c0 s8f0 s8c1 s8f1
    clear s8z0 s8c0 s8f0 s8z1 s8c1 s8f1
    clear hK K
    try clear hb
    try simp only [Act.put, List.setIfInBounds_toArray, List.set_cons_zero, List.set_cons_succ]
    generalize hGWA42 : World.setCell (World.setCell WA41 ⟨w0.heap.size, 0, none⟩ (.bool bb)) ⟨w0.heap.size, 1, none⟩ (.slice Ab nb cb) = WA42 at *
    clear hGWA42
    refine wpAnyH_done (by kernel_rfl) ?_ _
    have hHeld := hHeld58
    rotate_left 1
    exact AllReadyH.nil
    exact AllReadyH.nil
    all_goals
      go_wp2_with fail
      go_meet
      case rel => exact ⟨_, _, _, _, _, _, _, _, _, _, rfl, rfl, Lib.hid za, Lib.hid zb, hS7.1, hS7.2.1, hS7.2.2.1, hS8.2.1, hS8.2.2.1, hS7.2.2.2⟩
  case rest =>
    obtain ⟨g, b, A, m, c, g', b', A', m', c', rfl, rfl, HX, HY, hK⟩ := hcut
    have hHeld : Keeps wc [(g, 0, .bool b), (g, 1, .slice A m c), (g', 0, .bool b'), (g', 1, .slice A' m' c'), (w.heap.size, 0, .int .i64 ah), (w.heap.size, 1, .int .u64 al), (w.heap.size + 1, 0, .int .i64 bh), (w.heap.size + 1, 1, .int .u64 bl)] wc := ⟨Below.refl _ _, hK.2⟩
    obtain ⟨⟨kz0, kc0, kf0⟩, ⟨kz1, kc1, kf1⟩, ⟨kz2, kc2, kf2⟩, ⟨kz3, kc3, kf3⟩, ⟨kz4, kc4, kf4⟩, ⟨kz5, kc5, kf5⟩, ⟨kz6, kc6, kf6⟩, ⟨kz7, kc7, kf7⟩, _⟩ := hHeld.2
    obtain ⟨wB, hwB⟩ : ∃ W, W = wc := ⟨_, rfl⟩
    subst hwB
    go_wp2_with fail
    refine (LT.out _ _ _ (HX.out.below hHeld.1) (HY.out.below hHeld.1)).mono ?_
    skip
    rintro e w1 ⟨rfl, hb⟩
    replace hHeld := Keeps.next (hHeld) hb
    clear hb kz0 kc0 kf0 kz1 kc1 kf1 kz2 kc2 kf2 kz3 kc3 kf3 kz4 kc4 kf4 kz5 kc5 kf5 kz6 kc6 kf6 kz7 kc7 kf7
    obtain ⟨⟨kz0, kc0, kf0⟩, ⟨kz1, kc1, kf1⟩, ⟨kz2, kc2, kf2⟩, ⟨kz3, kc3, kf3⟩, ⟨kz4, kc4, kf4⟩, ⟨kz5, kc5, kf5⟩, ⟨kz6, kc6, kf6⟩, ⟨kz7, kc7, kf7⟩, _⟩ := hHeld.2
    go_upto_if 28 with (fail)
    go_cut [9, 28] (fun s9 s28 wx => s9 = .int .i64 o1 ∧ s28 = s28 ∧ Keeps wB [(g, 0, .bool b), (g, 1, .slice A m c), (g', 0, .bool b'), (g', 1, .slice A' m' c'), (w.heap.size, 0, .int .i64 ah), (w.heap.size, 1, .int .u64 al), (w.heap.size + 1, 0, .int .i64 bh), (w.heap.size + 1, 1, .int .u64 bl)] wx)
    case first =>
      rcases hl with ⟨rfl, rfl⟩ | ⟨rfl, rfl⟩
      all_goals
        go_wp2_with fail
        go_meet
        case rel => exact ⟨rfl, by first | rfl | trivial, hHeld⟩
    case rest =>
      obtain ⟨rfl, -, hcut⟩ := hcut
      clear kz0 kc0 kf0 kz1 kc1 kf1 kz2 kc2 kf2 kz3 kc3 kf3 kz4 kc4 kf4 kz5 kc5 kf5 kz6 kc6 kf6 kz7 kc7 kf7 hHeld
      have hHeld := hcut
      obtain ⟨⟨kz0, kc0, kf0⟩, ⟨kz1, kc1, kf1⟩, ⟨kz2, kc2, kf2⟩, ⟨kz3, kc3, kf3⟩, ⟨kz4, kc4, kf4⟩, ⟨kz5, kc5, kf5⟩, ⟨kz6, kc6, kf6⟩, ⟨kz7, kc7, kf7⟩, _⟩ := hHeld.2
      clear hcut
      go_wp2_with fail
      refine (GT.out _ _ _ (HY.out.below hHeld.1) (HX.out.below hHeld.1)).mono ?_
      skip
      rintro e w2 ⟨rfl, hb⟩
      replace hHeld := Keeps.next (hHeld) hb
      clear hb kz0 kc0 kf0 kz1 kc1 kf1 kz2 kc2 kf2 kz3 kc3 kf3 kz4 kc4 kf4 kz5 kc5 kf5 kz6 kc6 kf6 kz7 kc7 kf7
      obtain ⟨⟨kz0, kc0, kf0⟩, ⟨kz1, kc1, kf1⟩, ⟨kz2, kc2, kf2⟩, ⟨kz3, kc3, kf3⟩, ⟨kz4, kc4, kf4⟩, ⟨kz5, kc5, kf5⟩, ⟨kz6, kc6, kf6⟩, ⟨kz7, kc7, kf7⟩, _⟩ := hHeld.2
      go_upto_if 31 with (fail)
      go_cut [9, 31] (fun s9 s31 wx => s9 = .int .i64 od ∧ s31 = s31 ∧ Keeps wB [(g, 0, .bool b), (g, 1, .slice A m c), (g', 0, .bool b'), (g', 1, .slice A' m' c'), (w.heap.size, 0, .int .i64 ah), (w.heap.size, 1, .int .u64 al), (w.heap.size + 1, 0, .int .i64 bh), (w.heap.size + 1, 1, .int .u64 bl)] wx)
      case first =>
        rcases hg with ⟨rfl, rfl⟩ | ⟨rfl, rfl⟩
        all_goals
          go_wp2_with fail
          go_meet
          case rel => exact ⟨rfl, by first | rfl | trivial, hHeld⟩
      case rest =>
        obtain ⟨rfl, -, hcut⟩ := hcut
        clear kz0 kc0 kf0 kz1 kc1 kf1 kz2 kc2 kf2 kz3 kc3 kf3 kz4 kc4 kf4 kz5 kc5 kf5 kz6 kc6 kf6 kz7 kc7 kf7 hHeld
        have hHeld := hcut
        obtain ⟨⟨kz0, kc0, kf0⟩, ⟨kz1, kc1, kf1⟩, ⟨kz2, kc2, kf2⟩, ⟨kz3, kc3, kf3⟩, ⟨kz4, kc4, kf4⟩, ⟨kz5, kc5, kf5⟩, ⟨kz6, kc6, kf6⟩, ⟨kz7, kc7, kf7⟩, _⟩ := hHeld.2
        clear hcut
        go_wp2_with fail
        refine (VA.out _ _ (HX.out.below hHeld.1)).mono ?_
        skip
        rintro e w3 ⟨rfl, hb⟩
        replace hHeld := Keeps.next (hHeld) hb
        clear hb kz0 kc0 kf0 kz1 kc1 kf1 kz2 kc2 kf2 kz3 kc3 kf3 kz4 kc4 kf4 kz5 kc5 kf5 kz6 kc6 kf6 kz7 kc7 kf7
        obtain ⟨⟨kz0, kc0, kf0⟩, ⟨kz1, kc1, kf1⟩, ⟨kz2, kc2, kf2⟩, ⟨kz3, kc3, kf3⟩, ⟨kz4, kc4, kf4⟩, ⟨kz5, kc5, kf5⟩, ⟨kz6, kc6, kf6⟩, ⟨kz7, kc7, kf7⟩, _⟩ := hHeld.2
        go_wp2_with fail
        refine (IN.out _).mono ?_
        rintro e w4 ⟨rfl, hb⟩
        replace hHeld := Keeps.next (hHeld) hb
        clear hb kz0 kc0 kf0 kz1 kc1 kf1 kz2 kc2 kf2 kz3 kc3 kf3 kz4 kc4 kf4 kz5 kc5 kf5 kz6 kc6 kf6 kz7 kc7 kf7
        obtain ⟨⟨kz0, kc0, kf0⟩, ⟨kz1, kc1, kf1⟩, ⟨kz2, kc2, kf2⟩, ⟨kz3, kc3, kf3⟩, ⟨kz4, kc4, kf4⟩, ⟨kz5, kc5, kf5⟩, ⟨kz6, kc6, kf6⟩, ⟨kz7, kc7, kf7⟩, _⟩ := hHeld.2
        go_upto_region 11 with (fail)
        go_cut [65] (fun s65 wx => s65 = .bool false ∧ Keeps wB [(g, 0, .bool b), (g, 1, .slice A m c), (g', 0, .bool b'), (g', 1, .slice A' m' c'), (w.heap.size, 0, .int .i64 ah), (w.heap.size, 1, .int .u64 al), (w.heap.size + 1, 0, .int .i64 bh), (w.heap.size + 1, 1, .int .u64 bl)] wx)
        case first =>
          rcases he with ⟨rfl, rfl⟩ | ⟨rfl, rfl⟩
          all_goals
            go_wp2_with fail
            refine (CM.out _).mono ?_
            skip
            rintro e w5 ⟨rfl, hb⟩
            replace hHeld := Keeps.next (hHeld) hb
            clear hb kz0 kc0 kf0 kz1 kc1 kf1 kz2 kc2 kf2 kz3 kc3 kf3 kz4 kc4 kf4 kz5 kc5 kf5 kz6 kc6 kf6 kz7 kc7 kf7
            obtain ⟨⟨kz0, kc0, kf0⟩, ⟨kz1, kc1, kf1⟩, ⟨kz2, kc2, kf2⟩, ⟨kz3, kc3, kf3⟩, ⟨kz4, kc4, kf4⟩, ⟨kz5, kc5, kf5⟩, ⟨kz6, kc6, kf6⟩, ⟨kz7, kc7, kf7⟩, _⟩ := hHeld.2
            go_wp2_with fail
            go_meet
            case rel => exact ⟨rfl, hHeld⟩
        case rest =>
          obtain ⟨rfl, hcut⟩ := hcut
          clear kz0 kc0 kf0 kz1 kc1 kf1 kz2 kc2 kf2 kz3 kc3 kf3 kz4 kc4 kf4 kz5 kc5 kf5 kz6 kc6 kf6 kz7 kc7 kf7 hHeld LT GT VA IN CM OA OB hl hg he
          have hHeld := hcut
          obtain ⟨⟨kz0, kc0, kf0⟩, ⟨kz1, kc1, kf1⟩, ⟨kz2, kc2, kf2⟩, ⟨kz3, kc3, kf3⟩, ⟨kz4, kc4, kf4⟩, ⟨kz5, kc5, kf5⟩, ⟨kz6, kc6, kf6⟩, ⟨kz7, kc7, kf7⟩, _⟩ := hHeld.2
          clear hcut
          rcases hm with ⟨gm, rfl, rfl, rfl, rfl⟩ | ⟨gm, rfl⟩
          · have t1 : decide (mm < 1) = true := by simpa using gm
            clear gm IM RD VR IS
            go_wp2_with fail
            refine (DV.out _).mono ?_
            skip
            rintro e wd ⟨rfl, hb⟩
            replace hHeld := Keeps.next (hHeld) hb
            clear hb kz0 kc0 kf0 kz1 kc1 kf1 kz2 kc2 kf2 kz3 kc3 kf3 kz4 kc4 kf4 kz5 kc5 kf5 kz6 kc6 kf6 kz7 kc7 kf7
            obtain ⟨⟨kz0, kc0, kf0⟩, ⟨kz1, kc1, kf1⟩, ⟨kz2, kc2, kf2⟩, ⟨kz3, kc3, kf3⟩, ⟨kz4, kc4, kf4⟩, ⟨kz5, kc5, kf5⟩, ⟨kz6, kc6, kf6⟩, ⟨kz7, kc7, kf7⟩, _⟩ := hHeld.2
            go_wp2_with fail
            go_ret
            exact ⟨rfl, under hK.1 (hHeld.alloc _).1⟩
          · have t1 : decide (mm < 1) = false := by simp; omega
            replace RD := Lib.hid (RD gm)
            replace VR := Lib.hid (VR gm)
            replace IS := Lib.hid (IS gm)
            clear gm
            generalize x / mm = qq at *
            generalize x % mm = rr at *
            go_wp2_with fail
            refine (DV.out _).mono ?_
            skip
            rintro e wd ⟨rfl, hb⟩
            replace hHeld := Keeps.next (hHeld) hb
            clear hb kz0 kc0 kf0 kz1 kc1 kf1 kz2 kc2 kf2 kz3 kc3 kf3 kz4 kc4 kf4 kz5 kc5 kf5 kz6 kc6 kf6 kz7 kc7 kf7
            obtain ⟨⟨kz0, kc0, kf0⟩, ⟨kz1, kc1, kf1⟩, ⟨kz2, kc2, kf2⟩, ⟨kz3, kc3, kf3⟩, ⟨kz4, kc4, kf4⟩, ⟨kz5, kc5, kf5⟩, ⟨kz6, kc6, kf6⟩, ⟨kz7, kc7, kf7⟩, _⟩ := hHeld.2
            go_upto_region 16 with (fail)
            have hHs := ((show Keeps wB [(g, 0, .bool b), (g, 1, .slice A m c)] wd from ⟨hHeld.1, hHeld.2.1, hHeld.2.2.1, trivial⟩).alloc (.cells #[.int .i64 q0, .int .u64 q1] 24)).app (newK2 (hHeld.alloc (.cells #[.int .i64 q0, .int .u64 q1] 24)))
            generalize hGi : wd.alloc (.cells #[.int .i64 q0, .int .u64 q1] 24) = wi at hHs ⊢
            clear hGi
            go_cut [16, 17] (fun s16 s17 wx => ∃ (h : Nat) (b1 : Bool) (A1 : Option Addr) (m1 c1 : Nat) (h' : Nat) (b1' : Bool) (A1' : Option Addr) (m1' c1' : Nat), s16 = .pointer (some ⟨h, 0, none⟩) ∧ s17 = .pointer (some ⟨h', 0, none⟩) ∧ Hid (NumZ wx (.agg #[.bool b1, .slice A1 m1 c1]) qq) ∧ Hid (NumZ wx (.agg #[.bool b1', .slice A1' m1' c1']) rr) ∧ Keeps wB [(h, 0, .bool b1), (h, 1, .slice A1 m1 c1), (h', 0, .bool b1'), (h', 1, .slice A1' m1' c1'), (g, 0, .bool b), (g, 1, .slice A m c), (wd.heap.size, 0, .int .i64 q0), (wd.heap.size, 1, .int .u64 q1)] wx)
            case first =>
              refine region_keeps (w0 := wB) (L := [(g, 0, .bool b), (g, 1, .slice A m c), (wd.heap.size, 0, .int .i64 q0), (wd.heap.size, 1, .int .u64 q1)]) (by kernel_rfl) (by simpa using hHs) (fun hHeld0 => ?_)
              refine wpAnyH_take (i := 0) (oi := ⟨some 87, _, _, _, _, _⟩) (v := ?_) rfl (by kernel_rfl) (by kernel_rfl) (by kernel_rfl) (fun _ _ _ h => h) (Or.inl ⟨by rfl, ?_⟩) (by assumption) ?_
              rotate_left
              · intro wq hSw; obtain ⟨⟨qz0, qc0, qf0⟩, ⟨qz1, qc1, qf1⟩, ⟨qz2, qc2, qf2⟩, ⟨qz3, qc3, qf3⟩, _⟩ := hSw.2; go_simp; (try with_reducible rfl)
              try simp only [Act.put, List.setIfInBounds_toArray, List.set_cons_zero, List.set_cons_succ]
              refine wpAnyH_take (i := 1) (oi := ⟨some 88, _, _, _, _, _⟩) (v := ?_) rfl (by kernel_rfl) (by kernel_rfl) (by kernel_rfl) (fun _ _ _ h => h) (Or.inl ⟨by rfl, ?_⟩) (by assumption) ?_
              rotate_left
              · intro wq hSw; go_simp; (try with_reducible rfl)
              try simp only [Act.put, List.setIfInBounds_toArray, List.set_cons_zero, List.set_cons_succ]
              refine wpAnyH_ready (rs := [2, 7, 8]) (by kernel_rfl) (by simp) ?_
              refine AllReadyH.cons (o := ⟨some 89, _, _, _, _, _⟩) rfl (fun K hK => ?_) ?_
              go_simp
              (first | ((with_reducible refine (IM.out _).mono ?_); rintro e wn ⟨bn, An, nn, cn, rfl, hb, zn⟩) | ((with_reducible refine (RD.out _ _ _ (HX.out.below (by first | exact hHeld0.bel | exact hHeld1.bel | exact hHeld2.bel | exact hHeld3.bel | exact hHeld4.bel | exact hHeld5.bel | exact hHeld6.bel | exact hHeld7.bel | exact hHeld8.bel | exact hHeld9.bel | exact hHeld10.bel | exact hHeld11.bel | exact hHeld12.bel | exact hHeld13.bel | exact hHeld14.bel | exact hHeld15.bel | exact hHeld16.bel | exact hHeld17.bel | exact hHeld18.bel | exact hHeld19.bel | exact hHeld20.bel | exact hHeld21.bel | exact hHeld22.bel | exact hHeld23.bel | exact hHeld24.bel | exact hHeld25.bel | exact hHeld26.bel | exact hHeld27.bel | exact hHeld28.bel | exact hHeld29.bel | exact hHeld30.bel | exact hHeld31.bel | exact hHeld32.bel | exact hHeld33.bel | exact hHeld34.bel | exact hHeld35.bel | exact hHeld36.bel | exact hHeld37.bel | exact hHeld38.bel | exact hHeld39.bel | exact hHeld40.bel | exact hHeld41.bel | exact hHeld42.bel | exact hHeld43.bel | exact hHeld44.bel | exact hHeld45.bel | exact hHeld46.bel | exact hHeld47.bel | exact hHeld48.bel | exact hHeld49.bel | exact hHeld50.bel | exact hHeld51.bel | exact hHeld52.bel | exact hHeld53.bel | exact hHeld54.bel | exact hHeld55.bel | exact hHeld56.bel | exact hHeld57.bel | exact hHeld58.bel | exact hHeld59.bel | exact hHeld60.bel | exact hHeld61.bel | exact hHeld62.bel | exact hHeld63.bel | exact hHeld64.bel | exact hHeld65.bel | exact hHeld66.bel | exact hHeld67.bel | exact hHeld68.bel | exact hHeld69.bel | exact hHeld.bel)) zn).mono ?_); rintro e wq ⟨bq, Aq, nq, cq, br, Ar, nr, cr, rfl, hb, zq, zr⟩))
              refine hK.out _ _ (hHeld0.next hb) (fun hHeld1 => ?_)
              clear hK K
              try clear hb
              try simp only [Act.put, List.setIfInBounds_toArray, List.set_cons_zero, List.set_cons_succ]
              refine wpAnyH_ready (rs := [3, 7, 8]) (by kernel_rfl) (by simp) ?_
              refine AllReadyH.cons (o := ⟨some 90, _, _, _, _, _⟩) rfl (fun K hK => ?_) ?_
              go_simp
              (first | ((with_reducible refine (IM.out _).mono ?_); rintro e wn ⟨bn, An, nn, cn, rfl, hb, zn⟩) | ((with_reducible refine (RD.out _ _ _ (HX.out.below (by first | exact hHeld0.bel | exact hHeld1.bel | exact hHeld2.bel | exact hHeld3.bel | exact hHeld4.bel | exact hHeld5.bel | exact hHeld6.bel | exact hHeld7.bel | exact hHeld8.bel | exact hHeld9.bel | exact hHeld10.bel | exact hHeld11.bel | exact hHeld12.bel | exact hHeld13.bel | exact hHeld14.bel | exact hHeld15.bel | exact hHeld16.bel | exact hHeld17.bel | exact hHeld18.bel | exact hHeld19.bel | exact hHeld20.bel | exact hHeld21.bel | exact hHeld22.bel | exact hHeld23.bel | exact hHeld24.bel | exact hHeld25.bel | exact hHeld26.bel | exact hHeld27.bel | exact hHeld28.bel | exact hHeld29.bel | exact hHeld30.bel | exact hHeld31.bel | exact hHeld32.bel | exact hHeld33.bel | exact hHeld34.bel | exact hHeld35.bel | exact hHeld36.bel | exact hHeld37.bel | exact hHeld38.bel | exact hHeld39.bel | exact hHeld40.bel | exact hHeld41.bel | exact hHeld42.bel | exact hHeld43.bel | exact hHeld44.bel | exact hHeld45.bel | exact hHeld46.bel | exact hHeld47.bel | exact hHeld48.bel | exact hHeld49.bel | exact hHeld50.bel | exact hHeld51.bel | exact hHeld52.bel | exact hHeld53.bel | exact hHeld54.bel | exact hHeld55.bel | exact hHeld56.bel | exact hHeld57.bel | exact hHeld58.bel | exact hHeld59.bel | exact hHeld60.bel | exact hHeld61.bel | exact hHeld62.bel | exact hHeld63.bel | exact hHeld64.bel | exact hHeld65.bel | exact hHeld66.bel | exact hHeld67.bel | exact hHeld68.bel | exact hHeld69.bel | exact hHeld.bel)) zn).mono ?_); rintro e wq ⟨bq, Aq, nq, cq, br, Ar, nr, cr, rfl, hb, zq, zr⟩))
              refine hK.out _ _ (hHeld1.next hb) (fun hHeld2 => ?_)
              (try replace zn := zn.below hb)
              clear hK K
              try clear hb
              try simp only [Act.put, List.setIfInBounds_toArray, List.set_cons_zero, List.set_cons_succ]
              refine wpAnyH_take (i := 4) (oi := ⟨some 86, _, _, _, _, _⟩) (v := ?_) rfl (by kernel_rfl) (by kernel_rfl) (by kernel_rfl) (fun _ _ _ h => h) (Or.inl ⟨by rfl, ?_⟩) (by assumption) ?_
              rotate_left
              · intro wq hSw; go_simp; (try with_reducible rfl)
              try simp only [Act.put, List.setIfInBounds_toArray, List.set_cons_zero, List.set_cons_succ]
              refine wpAnyH_take (i := 5) (oi := ⟨some 91, _, _, _, _, _⟩) (v := ?_) rfl (by kernel_rfl) (by kernel_rfl) (by kernel_rfl) (fun _ _ _ h => h) (Or.inl ⟨by rfl, ?_⟩) (by assumption) ?_
              rotate_left
              · intro wq hSw; go_simp; (try with_reducible rfl)
              try simp only [Act.put, List.setIfInBounds_toArray, List.set_cons_zero, List.set_cons_succ]
              refine wpAnyH_take (i := 6) (oi := ⟨some 92, _, _, _, _, _⟩) (v := ?_) rfl (by kernel_rfl) (by kernel_rfl) (by kernel_rfl) (fun _ _ _ h => h) (Or.inl ⟨by rfl, ?_⟩) (by assumption) ?_
              rotate_left
              · intro wq hSw; go_simp; (try with_reducible rfl)
              try simp only [Act.put, List.setIfInBounds_toArray, List.set_cons_zero, List.set_cons_succ]
              refine wpAnyH_ready (rs := [7, 8]) (by kernel_rfl) (by simp) ?_
              refine AllReadyH.cons (o := ⟨some 16, _, _, _, _, _⟩) rfl (fun K hK => ?_) ?_
              have lo16 := hHeld2.1.size
              obtain ⟨⟨a16_z0, a16_c0, a16_f0⟩, ⟨a16_z1, a16_c1, a16_f1⟩, ⟨a16_z2, a16_c2, a16_f2⟩, ⟨a16_z3, a16_c3, a16_f3⟩, _⟩ := hHeld2.2
              (try simp at lo16); (try simp at a16_z0); (try simp at a16_z1); (try simp at a16_z2); (try simp at a16_z3)
              go_simp
              refine hK.out _ _ (by first | exact hHeld2.alloc _ | exact (hHeld2.alloc _).drew) (fun hHeld3 => ?_)
              (try replace zq := zq.alloc2 hHeld3)
              (try replace zr := zr.alloc2 hHeld3)
              first | have hS16 := newK2 hHeld3 | have hS16 := newK2d hHeld3
              clear hK K
              try clear hb
              try simp only [Act.put, List.setIfInBounds_toArray, List.set_cons_zero, List.set_cons_succ]
              generalize hGWA1 : World.alloc wq (.cells #[.bool false, .slice none 0 0] 28) = WA1 at *
              clear hGWA1
              refine wpAnyH_ready (rs := [8]) (by kernel_rfl) (by simp) ?_
              refine AllReadyH.cons (o := ⟨some 17, _, _, _, _, _⟩) rfl (fun K hK => ?_) AllReadyH.nil
              have hne16_17 := hS16.2.1.1
              have lo17 := hHeld3.1.size
              obtain ⟨⟨a17_z0, a17_c0, a17_f0⟩, ⟨a17_z1, a17_c1, a17_f1⟩, ⟨a17_z2, a17_c2, a17_f2⟩, ⟨a17_z3, a17_c3, a17_f3⟩, _⟩ := hHeld3.2
              (try simp at lo17); (try simp at hne16_17); (try simp at a17_z0); (try simp at a17_z1); (try simp at a17_z2); (try simp at a17_z3)
              go_simp
              refine hK.out _ _ (by first | exact hHeld3.alloc _ | exact (hHeld3.alloc _).drew) (fun hHeld4 => ?_)
              first | replace hS16 := hS16.alloc2e hHeld4 | replace hS16 := hS16.alloc2 hHeld4
              (try replace zq := zq.alloc2 hHeld4)
              (try replace zr := zr.alloc2 hHeld4)
              first | have hS17 := newK2 hHeld4 | have hS17 := newK2d hHeld4
              clear hK K
              try clear hb
              try simp only [Act.put, List.setIfInBounds_toArray, List.set_cons_zero, List.set_cons_succ]
              generalize hGWA2 : World.alloc WA1 (.cells #[.bool false, .slice none 0 0] 28) = WA2 at *
              clear hGWA2
              refine wpAnyH_ready (rs := [9]) (by kernel_rfl) (by simp) ?_
              refine AllReadyH.cons (o := ⟨none, _, _, _, _, _⟩) rfl (fun K hK => ?_) AllReadyH.nil
              obtain ⟨⟨s16z0, s16c0, s16f0⟩, ⟨s16z1, s16c1, s16f1⟩, _⟩ := hS16.2
              go_simp
              refine hK.out _ _ (by (repeat (first | (with_reducible exact hHeld4) | (refine Keeps.set ?_ (by simp <;> omega) (by simp <;> omega) _)))) (fun hHeld5 => ?_)
              replace hS17 := hS17.mv2 hHeld5 (by first | omega | (simp <;> omega)) (by simp <;> omega)
              (try replace zq := zq.store2 hHeld5 s16c0 s16c1)
              (try replace zr := zr.store2 hHeld5 s16c0 s16c1)
              replace hS16 := hHeld5.add2 s16z0 s16c0 s16f0 s16c1 s16f1
              clear s16z0 s16c0 s16f0 s16z1 s16c1 s16f1
              clear hK K
              try clear hb
              try simp only [Act.put, List.setIfInBounds_toArray, List.set_cons_zero, List.set_cons_succ]
              generalize hGWA3 : World.setCell (World.setCell WA2 ⟨wq.heap.size, 0, none⟩ (.bool bq)) ⟨wq.heap.size, 1, none⟩ (.slice Aq nq cq) = WA3 at *
              clear hGWA3
              refine wpAnyH_ready (rs := [10]) (by kernel_rfl) (by simp) ?_
              refine AllReadyH.cons (o := ⟨none, _, _, _, _, _⟩) rfl (fun K hK => ?_) AllReadyH.nil
              obtain ⟨⟨s17z0, s17c0, s17f0⟩, ⟨s17z1, s17c1, s17f1⟩, _⟩ := hS17.2
              go_simp
              refine hK.out _ _ (by (repeat (first | (with_reducible exact hHeld5) | (refine Keeps.set ?_ (by simp <;> omega) (by simp <;> omega) _)))) (fun hHeld6 => ?_)
              replace hS16 := hS16.mv2 hHeld6 (by first | omega | (simp <;> omega)) (by simp <;> omega)
              (try replace zq := zq.store2 hHeld6 s17c0 s17c1)
              (try replace zr := zr.store2 hHeld6 s17c0 s17c1)
              replace hS17 := hHeld6.add2 s17z0 s17c0 s17f0 s17c1 s17f1
              clear s17z0 s17c0 s17f0 s17z1 s17c1 s17f1
              clear hK K
              try clear hb
              try simp only [Act.put, List.setIfInBounds_toArray, List.set_cons_zero, List.set_cons_succ]
              generalize hGWA4 : World.setCell (World.setCell WA3 ⟨WA1.heap.size, 0, none⟩ (.bool br)) ⟨WA1.heap.size, 1, none⟩ (.slice Ar nr cr) = WA4 at *
              clear hGWA4
              refine wpAnyH_done (by kernel_rfl) ?_ _
              have hHeld := hHeld6
              rotate_left 1
              refine AllReadyH.cons (o := ⟨some 17, _, _, _, _, _⟩) rfl (fun K hK => ?_) ?_
              have lo17 := hHeld2.1.size
              obtain ⟨⟨a17_z0, a17_c0, a17_f0⟩, ⟨a17_z1, a17_c1, a17_f1⟩, ⟨a17_z2, a17_c2, a17_f2⟩, ⟨a17_z3, a17_c3, a17_f3⟩, _⟩ := hHeld2.2
              (try simp at lo17); (try simp at a17_z0); (try simp at a17_z1); (try simp at a17_z2); (try simp at a17_z3)
              go_simp
              refine hK.out _ _ (by first | exact hHeld2.alloc _ | exact (hHeld2.alloc _).drew) (fun hHeld7 => ?_)
              (try replace zq := zq.alloc2 hHeld7)
              (try replace zr := zr.alloc2 hHeld7)
              first | have hS17 := newK2 hHeld7 | have hS17 := newK2d hHeld7
              clear hK K
              try clear hb
              try simp only [Act.put, List.setIfInBounds_toArray, List.set_cons_zero, List.set_cons_succ]
              generalize hGWA5 : World.alloc wq (.cells #[.bool false, .slice none 0 0] 28) = WA5 at *
              clear hGWA5
              refine wpAnyH_ready (rs := [7]) (by kernel_rfl) (by simp) ?_
              refine AllReadyH.cons (o := ⟨some 16, _, _, _, _, _⟩) rfl (fun K hK => ?_) AllReadyH.nil
              have hne17_16 := hS17.2.1.1
              have lo16 := hHeld7.1.size
              obtain ⟨⟨a16_z0, a16_c0, a16_f0⟩, ⟨a16_z1, a16_c1, a16_f1⟩, ⟨a16_z2, a16_c2, a16_f2⟩, ⟨a16_z3, a16_c3, a16_f3⟩, _⟩ := hHeld7.2
              (try simp at lo16); (try simp at hne17_16); (try simp at a16_z0); (try simp at a16_z1); (try simp at a16_z2); (try simp at a16_z3)
              go_simp
              refine hK.out _ _ (by first | exact hHeld7.alloc _ | exact (hHeld7.alloc _).drew) (fun hHeld8 => ?_)
              first | replace hS17 := hS17.alloc2e hHeld8 | replace hS17 := hS17.alloc2 hHeld8
              (try replace zq := zq.alloc2 hHeld8)
              (try replace zr := zr.alloc2 hHeld8)
              first | have hS16 := newK2 hHeld8 | have hS16 := newK2d hHeld8
              clear hK K
              try clear hb
              try simp only [Act.put, List.setIfInBounds_toArray, List.set_cons_zero, List.set_cons_succ]
              generalize hGWA6 : World.alloc WA5 (.cells #[.bool false, .slice none 0 0] 28) = WA6 at *
              clear hGWA6
              refine wpAnyH_ready (rs := [9]) (by kernel_rfl) (by simp) ?_
              refine AllReadyH.cons (o := ⟨none, _, _, _, _, _⟩) rfl (fun K hK => ?_) AllReadyH.nil
              obtain ⟨⟨s16z0, s16c0, s16f0⟩, ⟨s16z1, s16c1, s16f1⟩, _⟩ := hS16.2
              go_simp
              refine hK.out _ _ (by (repeat (first | (with_reducible exact hHeld8) | (refine Keeps.set ?_ (by simp <;> omega) (by simp <;> omega) _)))) (fun hHeld9 => ?_)
              replace hS17 := hS17.mv2 hHeld9 (by first | omega | (simp <;> omega)) (by simp <;> omega)
              (try replace zq := zq.store2 hHeld9 s16c0 s16c1)
              (try replace zr := zr.store2 hHeld9 s16c0 s16c1)
              replace hS16 := hHeld9.add2 s16z0 s16c0 s16f0 s16c1 s16f1
              clear s16z0 s16c0 s16f0 s16z1 s16c1 s16f1
              clear hK K
              try clear hb
              try simp only [Act.put, List.setIfInBounds_toArray, List.set_cons_zero, List.set_cons_succ]
              generalize hGWA7 : World.setCell (World.setCell WA6 ⟨WA5.heap.size, 0, none⟩ (.bool bq)) ⟨WA5.heap.size, 1, none⟩ (.slice Aq nq cq) = WA7 at *
              clear hGWA7
              refine wpAnyH_ready (rs := [10]) (by kernel_rfl) (by simp) ?_
              refine AllReadyH.cons (o := ⟨none, _, _, _, _, _⟩) rfl (fun K hK => ?_) AllReadyH.nil
              obtain ⟨⟨s17z0, s17c0, s17f0⟩, ⟨s17z1, s17c1, s17f1⟩, _⟩ := hS17.2
              go_simp
              refine hK.out _ _ (by (repeat (first | (with_reducible exact hHeld9) | (refine Keeps.set ?_ (by simp <;> omega) (by simp <;> omega) _)))) (fun hHeld10 => ?_)
              replace hS16 := hS16.mv2 hHeld10 (by first | omega | (simp <;> omega)) (by simp <;> omega)
              (try replace zq := zq.store2 hHeld10 s17c0 s17c1)
              (try replace zr := zr.store2 hHeld10 s17c0 s17c1)
              replace hS17 := hHeld10.add2 s17z0 s17c0 s17f0 s17c1 s17f1
              clear s17z0 s17c0 s17f0 s17z1 s17c1 s17f1
              clear hK K
              try clear hb
              try simp only [Act.put, List.setIfInBounds_toArray, List.set_cons_zero, List.set_cons_succ]
              generalize hGWA8 : World.setCell (World.setCell WA7 ⟨wq.heap.size, 0, none⟩ (.bool br)) ⟨wq.heap.size, 1, none⟩ (.slice Ar nr cr) = WA8 at *
              clear hGWA8
              refine wpAnyH_done (by kernel_rfl) ?_ _
              have hHeld := hHeld10
              rotate_left 1
              exact AllReadyH.nil
              refine AllReadyH.cons (o := ⟨some 16, _, _, _, _, _⟩) rfl (fun K hK => ?_) ?_
              have lo16 := hHeld1.1.size
              obtain ⟨⟨a16_z0, a16_c0, a16_f0⟩, ⟨a16_z1, a16_c1, a16_f1⟩, ⟨a16_z2, a16_c2, a16_f2⟩, ⟨a16_z3, a16_c3, a16_f3⟩, _⟩ := hHeld1.2
              (try simp at lo16); (try simp at a16_z0); (try simp at a16_z1); (try simp at a16_z2); (try simp at a16_z3)
              go_simp
              refine hK.out _ _ (by first | exact hHeld1.alloc _ | exact (hHeld1.alloc _).drew) (fun hHeld11 => ?_)
              (try replace zn := zn.alloc2 hHeld11)
              first | have hS16 := newK2 hHeld11 | have hS16 := newK2d hHeld11
              clear hK K
              try clear hb
              try simp only [Act.put, List.setIfInBounds_toArray, List.set_cons_zero, List.set_cons_succ]
              generalize hGWA9 : World.alloc wn (.cells #[.bool false, .slice none 0 0] 28) = WA9 at *
              clear hGWA9
              refine wpAnyH_ready (rs := [3, 8]) (by kernel_rfl) (by simp) ?_
              refine AllReadyH.cons (o := ⟨some 90, _, _, _, _, _⟩) rfl (fun K hK => ?_) ?_
              go_simp
              (first | ((with_reducible refine (IM.out _).mono ?_); rintro e wn ⟨bn, An, nn, cn, rfl, hb, zn⟩) | ((with_reducible refine (RD.out _ _ _ (HX.out.below (by first | exact hHeld0.bel | exact hHeld1.bel | exact hHeld2.bel | exact hHeld3.bel | exact hHeld4.bel | exact hHeld5.bel | exact hHeld6.bel | exact hHeld7.bel | exact hHeld8.bel | exact hHeld9.bel | exact hHeld10.bel | exact hHeld11.bel | exact hHeld12.bel | exact hHeld13.bel | exact hHeld14.bel | exact hHeld15.bel | exact hHeld16.bel | exact hHeld17.bel | exact hHeld18.bel | exact hHeld19.bel | exact hHeld20.bel | exact hHeld21.bel | exact hHeld22.bel | exact hHeld23.bel | exact hHeld24.bel | exact hHeld25.bel | exact hHeld26.bel | exact hHeld27.bel | exact hHeld28.bel | exact hHeld29.bel | exact hHeld30.bel | exact hHeld31.bel | exact hHeld32.bel | exact hHeld33.bel | exact hHeld34.bel | exact hHeld35.bel | exact hHeld36.bel | exact hHeld37.bel | exact hHeld38.bel | exact hHeld39.bel | exact hHeld40.bel | exact hHeld41.bel | exact hHeld42.bel | exact hHeld43.bel | exact hHeld44.bel | exact hHeld45.bel | exact hHeld46.bel | exact hHeld47.bel | exact hHeld48.bel | exact hHeld49.bel | exact hHeld50.bel | exact hHeld51.bel | exact hHeld52.bel | exact hHeld53.bel | exact hHeld54.bel | exact hHeld55.bel | exact hHeld56.bel | exact hHeld57.bel | exact hHeld58.bel | exact hHeld59.bel | exact hHeld60.bel | exact hHeld61.bel | exact hHeld62.bel | exact hHeld63.bel | exact hHeld64.bel | exact hHeld65.bel | exact hHeld66.bel | exact hHeld67.bel | exact hHeld68.bel | exact hHeld69.bel | exact hHeld.bel)) zn).mono ?_); rintro e wq ⟨bq, Aq, nq, cq, br, Ar, nr, cr, rfl, hb, zq, zr⟩))
              refine hK.out _ _ (hHeld11.next hb) (fun hHeld12 => ?_)
              replace hS16 := hS16.next hb
              (try replace zn := zn.below hb)
              clear hK K
              try clear hb
              try simp only [Act.put, List.setIfInBounds_toArray, List.set_cons_zero, List.set_cons_succ]
              refine wpAnyH_take (i := 4) (oi := ⟨some 86, _, _, _, _, _⟩) (v := ?_) rfl (by kernel_rfl) (by kernel_rfl) (by kernel_rfl) (fun _ _ _ h => h) (Or.inl ⟨by rfl, ?_⟩) (by assumption) ?_
              rotate_left
              · intro wq hSw; go_simp; (try with_reducible rfl)
              try simp only [Act.put, List.setIfInBounds_toArray, List.set_cons_zero, List.set_cons_succ]
              refine wpAnyH_take (i := 5) (oi := ⟨some 91, _, _, _, _, _⟩) (v := ?_) rfl (by kernel_rfl) (by kernel_rfl) (by kernel_rfl) (fun _ _ _ h => h) (Or.inl ⟨by rfl, ?_⟩) (by assumption) ?_
              rotate_left
              · intro wq hSw; go_simp; (try with_reducible rfl)
              try simp only [Act.put, List.setIfInBounds_toArray, List.set_cons_zero, List.set_cons_succ]
              refine wpAnyH_take (i := 6) (oi := ⟨some 92, _, _, _, _, _⟩) (v := ?_) rfl (by kernel_rfl) (by kernel_rfl) (by kernel_rfl) (fun _ _ _ h => h) (Or.inl ⟨by rfl, ?_⟩) (by assumption) ?_
              rotate_left
              · intro wq hSw; go_simp; (try with_reducible rfl)
              try simp only [Act.put, List.setIfInBounds_toArray, List.set_cons_zero, List.set_cons_succ]
              refine wpAnyH_ready (rs := [8]) (by kernel_rfl) (by simp) ?_
              refine AllReadyH.cons (o := ⟨some 17, _, _, _, _, _⟩) rfl (fun K hK => ?_) AllReadyH.nil
              have hne16_17 := hS16.2.1.1
              have lo17 := hHeld12.1.size
              obtain ⟨⟨a17_z0, a17_c0, a17_f0⟩, ⟨a17_z1, a17_c1, a17_f1⟩, ⟨a17_z2, a17_c2, a17_f2⟩, ⟨a17_z3, a17_c3, a17_f3⟩, _⟩ := hHeld12.2
              (try simp at lo17); (try simp at hne16_17); (try simp at a17_z0); (try simp at a17_z1); (try simp at a17_z2); (try simp at a17_z3)
              go_simp
              refine hK.out _ _ (by first | exact hHeld12.alloc _ | exact (hHeld12.alloc _).drew) (fun hHeld13 => ?_)
              first | replace hS16 := hS16.alloc2e hHeld13 | replace hS16 := hS16.alloc2 hHeld13
              (try replace zq := zq.alloc2 hHeld13)
              (try replace zr := zr.alloc2 hHeld13)
              first | have hS17 := newK2 hHeld13 | have hS17 := newK2d hHeld13
              clear hK K
              try clear hb
              try simp only [Act.put, List.setIfInBounds_toArray, List.set_cons_zero, List.set_cons_succ]
              generalize hGWA10 : World.alloc wq (.cells #[.bool false, .slice none 0 0] 28) = WA10 at *
              clear hGWA10
              refine wpAnyH_ready (rs := [9]) (by kernel_rfl) (by simp) ?_
              refine AllReadyH.cons (o := ⟨none, _, _, _, _, _⟩) rfl (fun K hK => ?_) AllReadyH.nil
              obtain ⟨⟨s16z0, s16c0, s16f0⟩, ⟨s16z1, s16c1, s16f1⟩, _⟩ := hS16.2
              go_simp
              refine hK.out _ _ (by (repeat (first | (with_reducible exact hHeld13) | (refine Keeps.set ?_ (by simp <;> omega) (by simp <;> omega) _)))) (fun hHeld14 => ?_)
              replace hS17 := hS17.mv2 hHeld14 (by first | omega | (simp <;> omega)) (by simp <;> omega)
              (try replace zq := zq.store2 hHeld14 s16c0 s16c1)
              (try replace zr := zr.store2 hHeld14 s16c0 s16c1)
              replace hS16 := hHeld14.add2 s16z0 s16c0 s16f0 s16c1 s16f1
              clear s16z0 s16c0 s16f0 s16z1 s16c1 s16f1
              clear hK K
              try clear hb
              try simp only [Act.put, List.setIfInBounds_toArray, List.set_cons_zero, List.set_cons_succ]
              generalize hGWA11 : World.setCell (World.setCell WA10 ⟨wn.heap.size, 0, none⟩ (.bool bq)) ⟨wn.heap.size, 1, none⟩ (.slice Aq nq cq) = WA11 at *
              clear hGWA11
              refine wpAnyH_ready (rs := [10]) (by kernel_rfl) (by simp) ?_
              refine AllReadyH.cons (o := ⟨none, _, _, _, _, _⟩) rfl (fun K hK => ?_) AllReadyH.nil
              obtain ⟨⟨s17z0, s17c0, s17f0⟩, ⟨s17z1, s17c1, s17f1⟩, _⟩ := hS17.2
              go_simp
              refine hK.out _ _ (by (repeat (first | (with_reducible exact hHeld14) | (refine Keeps.set ?_ (by simp <;> omega) (by simp <;> omega) _)))) (fun hHeld15 => ?_)
              replace hS16 := hS16.mv2 hHeld15 (by first | omega | (simp <;> omega)) (by simp <;> omega)
              (try replace zq := zq.store2 hHeld15 s17c0 s17c1)
              (try replace zr := zr.store2 hHeld15 s17c0 s17c1)
              replace hS17 := hHeld15.add2 s17z0 s17c0 s17f0 s17c1 s17f1
              clear s17z0 s17c0 s17f0 s17z1 s17c1 s17f1
              clear hK K
              try clear hb
              try simp only [Act.put, List.setIfInBounds_toArray, List.set_cons_zero, List.set_cons_succ]
              generalize hGWA12 : World.setCell (World.setCell WA11 ⟨wq.heap.size, 0, none⟩ (.bool br)) ⟨wq.heap.size, 1, none⟩ (.slice Ar nr cr) = WA12 at *
              clear hGWA12
              refine wpAnyH_done (by kernel_rfl) ?_ _
              have hHeld := hHeld15
              rotate_left 1
              refine AllReadyH.cons (o := ⟨some 17, _, _, _, _, _⟩) rfl (fun K hK => ?_) ?_
              have hne16_17 := hS16.2.1.1
              have lo17 := hHeld11.1.size
              obtain ⟨⟨a17_z0, a17_c0, a17_f0⟩, ⟨a17_z1, a17_c1, a17_f1⟩, ⟨a17_z2, a17_c2, a17_f2⟩, ⟨a17_z3, a17_c3, a17_f3⟩, _⟩ := hHeld11.2
              (try simp at lo17); (try simp at hne16_17); (try simp at a17_z0); (try simp at a17_z1); (try simp at a17_z2); (try simp at a17_z3)
              go_simp
              refine hK.out _ _ (by first | exact hHeld11.alloc _ | exact (hHeld11.alloc _).drew) (fun hHeld16 => ?_)
              first | replace hS16 := hS16.alloc2e hHeld16 | replace hS16 := hS16.alloc2 hHeld16
              (try replace zn := zn.alloc2 hHeld16)
              first | have hS17 := newK2 hHeld16 | have hS17 := newK2d hHeld16
              clear hK K
              try clear hb
              try simp only [Act.put, List.setIfInBounds_toArray, List.set_cons_zero, List.set_cons_succ]
              generalize hGWA13 : World.alloc WA9 (.cells #[.bool false, .slice none 0 0] 28) = WA13 at *
              clear hGWA13
              refine wpAnyH_ready (rs := [3]) (by kernel_rfl) (by simp) ?_
              refine AllReadyH.cons (o := ⟨some 90, _, _, _, _, _⟩) rfl (fun K hK => ?_) AllReadyH.nil
              go_simp
              (first | ((with_reducible refine (IM.out _).mono ?_); rintro e wn ⟨bn, An, nn, cn, rfl, hb, zn⟩) | ((with_reducible refine (RD.out _ _ _ (HX.out.below (by first | exact hHeld0.bel | exact hHeld1.bel | exact hHeld2.bel | exact hHeld3.bel | exact hHeld4.bel | exact hHeld5.bel | exact hHeld6.bel | exact hHeld7.bel | exact hHeld8.bel | exact hHeld9.bel | exact hHeld10.bel | exact hHeld11.bel | exact hHeld12.bel | exact hHeld13.bel | exact hHeld14.bel | exact hHeld15.bel | exact hHeld16.bel | exact hHeld17.bel | exact hHeld18.bel | exact hHeld19.bel | exact hHeld20.bel | exact hHeld21.bel | exact hHeld22.bel | exact hHeld23.bel | exact hHeld24.bel | exact hHeld25.bel | exact hHeld26.bel | exact hHeld27.bel | exact hHeld28.bel | exact hHeld29.bel | exact hHeld30.bel | exact hHeld31.bel | exact hHeld32.bel | exact hHeld33.bel | exact hHeld34.bel | exact hHeld35.bel | exact hHeld36.bel | exact hHeld37.bel | exact hHeld38.bel | exact hHeld39.bel | exact hHeld40.bel | exact hHeld41.bel | exact hHeld42.bel | exact hHeld43.bel | exact hHeld44.bel | exact hHeld45.bel | exact hHeld46.bel | exact hHeld47.bel | exact hHeld48.bel | exact hHeld49.bel | exact hHeld50.bel | exact hHeld51.bel | exact hHeld52.bel | exact hHeld53.bel | exact hHeld54.bel | exact hHeld55.bel | exact hHeld56.bel | exact hHeld57.bel | exact hHeld58.bel | exact hHeld59.bel | exact hHeld60.bel | exact hHeld61.bel | exact hHeld62.bel | exact hHeld63.bel | exact hHeld64.bel | exact hHeld65.bel | exact hHeld66.bel | exact hHeld67.bel | exact hHeld68.bel | exact hHeld69.bel | exact hHeld.bel)) zn).mono ?_); rintro e wq ⟨bq, Aq, nq, cq, br, Ar, nr, cr, rfl, hb, zq, zr⟩))
              refine hK.out _ _ (hHeld16.next hb) (fun hHeld17 => ?_)
              replace hS16 := hS16.next hb
              replace hS17 := hS17.next hb
              (try replace zn := zn.below hb)
              clear hK K
              try clear hb
              try simp only [Act.put, List.setIfInBounds_toArray, List.set_cons_zero, List.set_cons_succ]
              refine wpAnyH_take (i := 4) (oi := ⟨some 86, _, _, _, _, _⟩) (v := ?_) rfl (by kernel_rfl) (by kernel_rfl) (by kernel_rfl) (fun _ _ _ h => h) (Or.inl ⟨by rfl, ?_⟩) (by assumption) ?_
              rotate_left
              · intro wq hSw; go_simp; (try with_reducible rfl)
              try simp only [Act.put, List.setIfInBounds_toArray, List.set_cons_zero, List.set_cons_succ]
              refine wpAnyH_take (i := 5) (oi := ⟨some 91, _, _, _, _, _⟩) (v := ?_) rfl (by kernel_rfl) (by kernel_rfl) (by kernel_rfl) (fun _ _ _ h => h) (Or.inl ⟨by rfl, ?_⟩) (by assumption) ?_
              rotate_left
              · intro wq hSw; go_simp; (try with_reducible rfl)
              try simp only [Act.put, List.setIfInBounds_toArray, List.set_cons_zero, List.set_cons_succ]
              refine wpAnyH_take (i := 6) (oi := ⟨some 92, _, _, _, _, _⟩) (v := ?_) rfl (by kernel_rfl) (by kernel_rfl) (by kernel_rfl) (fun _ _ _ h => h) (Or.inl ⟨by rfl, ?_⟩) (by assumption) ?_
              rotate_left
              · intro wq hSw; go_simp; (try with_reducible rfl)
              try simp only [Act.put, List.setIfInBounds_toArray, List.set_cons_zero, List.set_cons_succ]
              refine wpAnyH_ready (rs := [9]) (by kernel_rfl) (by simp) ?_
              refine AllReadyH.cons (o := ⟨none, _, _, _, _, _⟩) rfl (fun K hK => ?_) AllReadyH.nil
              obtain ⟨⟨s16z0, s16c0, s16f0⟩, ⟨s16z1, s16c1, s16f1⟩, _⟩ := hS16.2
              go_simp
              refine hK.out _ _ (by (repeat (first | (with_reducible exact hHeld17) | (refine Keeps.set ?_ (by simp <;> omega) (by simp <;> omega) _)))) (fun hHeld18 => ?_)
              replace hS17 := hS17.mv2 hHeld18 (by first | omega | (simp <;> omega)) (by simp <;> omega)
              (try replace zq := zq.store2 hHeld18 s16c0 s16c1)
              (try replace zr := zr.store2 hHeld18 s16c0 s16c1)
              replace hS16 := hHeld18.add2 s16z0 s16c0 s16f0 s16c1 s16f1
              clear s16z0 s16c0 s16f0 s16z1 s16c1 s16f1
              clear hK K
              try clear hb
              try simp only [Act.put, List.setIfInBounds_toArray, List.set_cons_zero, List.set_cons_succ]
              generalize hGWA14 : World.setCell (World.setCell wq ⟨wn.heap.size, 0, none⟩ (.bool bq)) ⟨wn.heap.size, 1, none⟩ (.slice Aq nq cq) = WA14 at *
              clear hGWA14
              refine wpAnyH_ready (rs := [10]) (by kernel_rfl) (by simp) ?_
              refine AllReadyH.cons (o := ⟨none, _, _, _, _, _⟩) rfl (fun K hK => ?_) AllReadyH.nil
              obtain ⟨⟨s17z0, s17c0, s17f0⟩, ⟨s17z1, s17c1, s17f1⟩, _⟩ := hS17.2
              go_simp
              refine hK.out _ _ (by (repeat (first | (with_reducible exact hHeld18) | (refine Keeps.set ?_ (by simp <;> omega) (by simp <;> omega) _)))) (fun hHeld19 => ?_)
              replace hS16 := hS16.mv2 hHeld19 (by first | omega | (simp <;> omega)) (by simp <;> omega)
              (try replace zq := zq.store2 hHeld19 s17c0 s17c1)
              (try replace zr := zr.store2 hHeld19 s17c0 s17c1)
              replace hS17 := hHeld19.add2 s17z0 s17c0 s17f0 s17c1 s17f1
              clear s17z0 s17c0 s17f0 s17z1 s17c1 s17f1
              clear hK K
              try clear hb
              try simp only [Act.put, List.setIfInBounds_toArray, List.set_cons_zero, List.set_cons_succ]
              generalize hGWA15 : World.setCell (World.setCell WA14 ⟨WA9.heap.size, 0, none⟩ (.bool br)) ⟨WA9.heap.size, 1, none⟩ (.slice Ar nr cr) = WA15 at *
              clear hGWA15
              refine wpAnyH_done (by kernel_rfl) ?_ _
              have hHeld := hHeld19
              rotate_left 1
              exact AllReadyH.nil
              refine AllReadyH.cons (o := ⟨some 17, _, _, _, _, _⟩) rfl (fun K hK => ?_) ?_
              have lo17 := hHeld1.1.size
              obtain ⟨⟨a17_z0, a17_c0, a17_f0⟩, ⟨a17_z1, a17_c1, a17_f1⟩, ⟨a17_z2, a17_c2, a17_f2⟩, ⟨a17_z3, a17_c3, a17_f3⟩, _⟩ := hHeld1.2
              (try simp at lo17); (try simp at a17_z0); (try simp at a17_z1); (try simp at a17_z2); (try simp at a17_z3)
              go_simp
              refine hK.out _ _ (by first | exact hHeld1.alloc _ | exact (hHeld1.alloc _).drew) (fun hHeld20 => ?_)
              (try replace zn := zn.alloc2 hHeld20)
              first | have hS17 := newK2 hHeld20 | have hS17 := newK2d hHeld20
              clear hK K
              try clear hb
              try simp only [Act.put, List.setIfInBounds_toArray, List.set_cons_zero, List.set_cons_succ]
              generalize hGWA16 : World.alloc wn (.cells #[.bool false, .slice none 0 0] 28) = WA16 at *
              clear hGWA16
              refine wpAnyH_ready (rs := [3, 7]) (by kernel_rfl) (by simp) ?_
              refine AllReadyH.cons (o := ⟨some 90, _, _, _, _, _⟩) rfl (fun K hK => ?_) ?_
              go_simp
              (first | ((with_reducible refine (IM.out _).mono ?_); rintro e wn ⟨bn, An, nn, cn, rfl, hb, zn⟩) | ((with_reducible refine (RD.out _ _ _ (HX.out.below (by first | exact hHeld0.bel | exact hHeld1.bel | exact hHeld2.bel | exact hHeld3.bel | exact hHeld4.bel | exact hHeld5.bel | exact hHeld6.bel | exact hHeld7.bel | exact hHeld8.bel | exact hHeld9.bel | exact hHeld10.bel | exact hHeld11.bel | exact hHeld12.bel | exact hHeld13.bel | exact hHeld14.bel | exact hHeld15.bel | exact hHeld16.bel | exact hHeld17.bel | exact hHeld18.bel | exact hHeld19.bel | exact hHeld20.bel | exact hHeld21.bel | exact hHeld22.bel | exact hHeld23.bel | exact hHeld24.bel | exact hHeld25.bel | exact hHeld26.bel | exact hHeld27.bel | exact hHeld28.bel | exact hHeld29.bel | exact hHeld30.bel | exact hHeld31.bel | exact hHeld32.bel | exact hHeld33.bel | exact hHeld34.bel | exact hHeld35.bel | exact hHeld36.bel | exact hHeld37.bel | exact hHeld38.bel | exact hHeld39.bel | exact hHeld40.bel | exact hHeld41.bel | exact hHeld42.bel | exact hHeld43.bel | exact hHeld44.bel | exact hHeld45.bel | exact hHeld46.bel | exact hHeld47.bel | exact hHeld48.bel | exact hHeld49.bel | exact hHeld50.bel | exact hHeld51.bel | exact hHeld52.bel | exact hHeld53.bel | exact hHeld54.bel | exact hHeld55.bel | exact hHeld56.bel | exact hHeld57.bel | exact hHeld58.bel | exact hHeld59.bel | exact hHeld60.bel | exact hHeld61.bel | exact hHeld62.bel | exact hHeld63.bel | exact hHeld64.bel | exact hHeld65.bel | exact hHeld66.bel | exact hHeld67.bel | exact hHeld68.bel | exact hHeld69.bel | exact hHeld.bel)) zn).mono ?_); rintro e wq ⟨bq, Aq, nq, cq, br, Ar, nr, cr, rfl, hb, zq, zr⟩))
              refine hK.out _ _ (hHeld20.next hb) (fun hHeld21 => ?_)
              replace hS17 := hS17.next hb
              (try replace zn := zn.below hb)
              clear hK K
              try clear hb
              try simp only [Act.put, List.setIfInBounds_toArray, List.set_cons_zero, List.set_cons_succ]
              refine wpAnyH_take (i := 4) (oi := ⟨some 86, _, _, _, _, _⟩) (v := ?_) rfl (by kernel_rfl) (by kernel_rfl) (by kernel_rfl) (fun _ _ _ h => h) (Or.inl ⟨by rfl, ?_⟩) (by assumption) ?_
              rotate_left
              · intro wq hSw; go_simp; (try with_reducible rfl)
              try simp only [Act.put, List.setIfInBounds_toArray, List.set_cons_zero, List.set_cons_succ]
              refine wpAnyH_take (i := 5) (oi := ⟨some 91, _, _, _, _, _⟩) (v := ?_) rfl (by kernel_rfl) (by kernel_rfl) (by kernel_rfl) (fun _ _ _ h => h) (Or.inl ⟨by rfl, ?_⟩) (by assumption) ?_
              rotate_left
              · intro wq hSw; go_simp; (try with_reducible rfl)
              try simp only [Act.put, List.setIfInBounds_toArray, List.set_cons_zero, List.set_cons_succ]
              refine wpAnyH_take (i := 6) (oi := ⟨some 92, _, _, _, _, _⟩) (v := ?_) rfl (by kernel_rfl) (by kernel_rfl) (by kernel_rfl) (fun _ _ _ h => h) (Or.inl ⟨by rfl, ?_⟩) (by assumption) ?_
              rotate_left
              · intro wq hSw; go_simp; (try with_reducible rfl)
              try simp only [Act.put, List.setIfInBounds_toArray, List.set_cons_zero, List.set_cons_succ]
              refine wpAnyH_ready (rs := [7]) (by kernel_rfl) (by simp) ?_
              refine AllReadyH.cons (o := ⟨some 16, _, _, _, _, _⟩) rfl (fun K hK => ?_) AllReadyH.nil
              have hne17_16 := hS17.2.1.1
              have lo16 := hHeld21.1.size
              obtain ⟨⟨a16_z0, a16_c0, a16_f0⟩, ⟨a16_z1, a16_c1, a16_f1⟩, ⟨a16_z2, a16_c2, a16_f2⟩, ⟨a16_z3, a16_c3, a16_f3⟩, _⟩ := hHeld21.2
              (try simp at lo16); (try simp at hne17_16); (try simp at a16_z0); (try simp at a16_z1); (try simp at a16_z2); (try simp at a16_z3)
              go_simp
              refine hK.out _ _ (by first | exact hHeld21.alloc _ | exact (hHeld21.alloc _).drew) (fun hHeld22 => ?_)
              first | replace hS17 := hS17.alloc2e hHeld22 | replace hS17 := hS17.alloc2 hHeld22
              (try replace zq := zq.alloc2 hHeld22)
              (try replace zr := zr.alloc2 hHeld22)
              first | have hS16 := newK2 hHeld22 | have hS16 := newK2d hHeld22
              clear hK K
              try clear hb
              try simp only [Act.put, List.setIfInBounds_toArray, List.set_cons_zero, List.set_cons_succ]
              generalize hGWA17 : World.alloc wq (.cells #[.bool false, .slice none 0 0] 28) = WA17 at *
              clear hGWA17
              refine wpAnyH_ready (rs := [9]) (by kernel_rfl) (by simp) ?_
              refine AllReadyH.cons (o := ⟨none, _, _, _, _, _⟩) rfl (fun K hK => ?_) AllReadyH.nil
              obtain ⟨⟨s16z0, s16c0, s16f0⟩, ⟨s16z1, s16c1, s16f1⟩, _⟩ := hS16.2
              go_simp
              refine hK.out _ _ (by (repeat (first | (with_reducible exact hHeld22) | (refine Keeps.set ?_ (by simp <;> omega) (by simp <;> omega) _)))) (fun hHeld23 => ?_)
              replace hS17 := hS17.mv2 hHeld23 (by first | omega | (simp <;> omega)) (by simp <;> omega)
              (try replace zq := zq.store2 hHeld23 s16c0 s16c1)
              (try replace zr := zr.store2 hHeld23 s16c0 s16c1)
              replace hS16 := hHeld23.add2 s16z0 s16c0 s16f0 s16c1 s16f1
              clear s16z0 s16c0 s16f0 s16z1 s16c1 s16f1
              clear hK K
              try clear hb
              try simp only [Act.put, List.setIfInBounds_toArray, List.set_cons_zero, List.set_cons_succ]
              generalize hGWA18 : World.setCell (World.setCell WA17 ⟨wq.heap.size, 0, none⟩ (.bool bq)) ⟨wq.heap.size, 1, none⟩ (.slice Aq nq cq) = WA18 at *
              clear hGWA18
              refine wpAnyH_ready (rs := [10]) (by kernel_rfl) (by simp) ?_
              refine AllReadyH.cons (o := ⟨none, _, _, _, _, _⟩) rfl (fun K hK => ?_) AllReadyH.nil
              obtain ⟨⟨s17z0, s17c0, s17f0⟩, ⟨s17z1, s17c1, s17f1⟩, _⟩ := hS17.2
              go_simp
              refine hK.out _ _ (by (repeat (first | (with_reducible exact hHeld23) | (refine Keeps.set ?_ (by simp <;> omega) (by simp <;> omega) _)))) (fun hHeld24 => ?_)
              replace hS16 := hS16.mv2 hHeld24 (by first | omega | (simp <;> omega)) (by simp <;> omega)
              (try replace zq := zq.store2 hHeld24 s17c0 s17c1)
              (try replace zr := zr.store2 hHeld24 s17c0 s17c1)
              replace hS17 := hHeld24.add2 s17z0 s17c0 s17f0 s17c1 s17f1
              clear s17z0 s17c0 s17f0 s17z1 s17c1 s17f1
              clear hK K
              try clear hb
              try simp only [Act.put, List.setIfInBounds_toArray, List.set_cons_zero, List.set_cons_succ]
              generalize hGWA19 : World.setCell (World.setCell WA18 ⟨wn.heap.size, 0, none⟩ (.bool br)) ⟨wn.heap.size, 1, none⟩ (.slice Ar nr cr) = WA19 at *
              clear hGWA19
              refine wpAnyH_done (by kernel_rfl) ?_ _
              have hHeld := hHeld24
              rotate_left 1
              refine AllReadyH.cons (o := ⟨some 16, _, _, _, _, _⟩) rfl (fun K hK => ?_) ?_
              have hne17_16 := hS17.2.1.1
              have lo16 := hHeld20.1.size
              obtain ⟨⟨a16_z0, a16_c0, a16_f0⟩, ⟨a16_z1, a16_c1, a16_f1⟩, ⟨a16_z2, a16_c2, a16_f2⟩, ⟨a16_z3, a16_c3, a16_f3⟩, _⟩ := hHeld20.2
              (try simp at lo16); (try simp at hne17_16); (try simp at a16_z0); (try simp at a16_z1); (try simp at a16_z2); (try simp at a16_z3)
              go_simp
              refine hK.out _ _ (by first | exact hHeld20.alloc _ | exact (hHeld20.alloc _).drew) (fun hHeld25 => ?_)
              first | replace hS17 := hS17.alloc2e hHeld25 | replace hS17 := hS17.alloc2 hHeld25
              (try replace zn := zn.alloc2 hHeld25)
              first | have hS16 := newK2 hHeld25 | have hS16 := newK2d hHeld25
              clear hK K
              try clear hb
              try simp only [Act.put, List.setIfInBounds_toArray, List.set_cons_zero, List.set_cons_succ]
              generalize hGWA20 : World.alloc WA16 (.cells #[.bool false, .slice none 0 0] 28) = WA20 at *
              clear hGWA20
              refine wpAnyH_ready (rs := [3]) (by kernel_rfl) (by simp) ?_
              refine AllReadyH.cons (o := ⟨some 90, _, _, _, _, _⟩) rfl (fun K hK => ?_) AllReadyH.nil
              go_simp
              (first | ((with_reducible refine (IM.out _).mono ?_); rintro e wn ⟨bn, An, nn, cn, rfl, hb, zn⟩) | ((with_reducible refine (RD.out _ _ _ (HX.out.below (by first | exact hHeld0.bel | exact hHeld1.bel | exact hHeld2.bel | exact hHeld3.bel | exact hHeld4.bel | exact hHeld5.bel | exact hHeld6.bel | exact hHeld7.bel | exact hHeld8.bel | exact hHeld9.bel | exact hHeld10.bel | exact hHeld11.bel | exact hHeld12.bel | exact hHeld13.bel | exact hHeld14.bel | exact hHeld15.bel | exact hHeld16.bel | exact hHeld17.bel | exact hHeld18.bel | exact hHeld19.bel | exact hHeld20.bel | exact hHeld21.bel | exact hHeld22.bel | exact hHeld23.bel | exact hHeld24.bel | exact hHeld25.bel | exact hHeld26.bel | exact hHeld27.bel | exact hHeld28.bel | exact hHeld29.bel | exact hHeld30.bel | exact hHeld31.bel | exact hHeld32.bel | exact hHeld33.bel | exact hHeld34.bel | exact hHeld35.bel | exact hHeld36.bel | exact hHeld37.bel | exact hHeld38.bel | exact hHeld39.bel | exact hHeld40.bel | exact hHeld41.bel | exact hHeld42.bel | exact hHeld43.bel | exact hHeld44.bel | exact hHeld45.bel | exact hHeld46.bel | exact hHeld47.bel | exact hHeld48.bel | exact hHeld49.bel | exact hHeld50.bel | exact hHeld51.bel | exact hHeld52.bel | exact hHeld53.bel | exact hHeld54.bel | exact hHeld55.bel | exact hHeld56.bel | exact hHeld57.bel | exact hHeld58.bel | exact hHeld59.bel | exact hHeld60.bel | exact hHeld61.bel | exact hHeld62.bel | exact hHeld63.bel | exact hHeld64.bel | exact hHeld65.bel | exact hHeld66.bel | exact hHeld67.bel | exact hHeld68.bel | exact hHeld69.bel | exact hHeld.bel)) zn).mono ?_); rintro e wq ⟨bq, Aq, nq, cq, br, Ar, nr, cr, rfl, hb, zq, zr⟩))
              refine hK.out _ _ (hHeld25.next hb) (fun hHeld26 => ?_)
              replace hS17 := hS17.next hb
              replace hS16 := hS16.next hb
              (try replace zn := zn.below hb)
              clear hK K
              try clear hb
              try simp only [Act.put, List.setIfInBounds_toArray, List.set_cons_zero, List.set_cons_succ]
              refine wpAnyH_take (i := 4) (oi := ⟨some 86, _, _, _, _, _⟩) (v := ?_) rfl (by kernel_rfl) (by kernel_rfl) (by kernel_rfl) (fun _ _ _ h => h) (Or.inl ⟨by rfl, ?_⟩) (by assumption) ?_
              rotate_left
              · intro wq hSw; go_simp; (try with_reducible rfl)
              try simp only [Act.put, List.setIfInBounds_toArray, List.set_cons_zero, List.set_cons_succ]
              refine wpAnyH_take (i := 5) (oi := ⟨some 91, _, _, _, _, _⟩) (v := ?_) rfl (by kernel_rfl) (by kernel_rfl) (by kernel_rfl) (fun _ _ _ h => h) (Or.inl ⟨by rfl, ?_⟩) (by assumption) ?_
              rotate_left
              · intro wq hSw; go_simp; (try with_reducible rfl)
              try simp only [Act.put, List.setIfInBounds_toArray, List.set_cons_zero, List.set_cons_succ]
              refine wpAnyH_take (i := 6) (oi := ⟨some 92, _, _, _, _, _⟩) (v := ?_) rfl (by kernel_rfl) (by kernel_rfl) (by kernel_rfl) (fun _ _ _ h => h) (Or.inl ⟨by rfl, ?_⟩) (by assumption) ?_
              rotate_left
              · intro wq hSw; go_simp; (try with_reducible rfl)
              try simp only [Act.put, List.setIfInBounds_toArray, List.set_cons_zero, List.set_cons_succ]
              refine wpAnyH_ready (rs := [9]) (by kernel_rfl) (by simp) ?_
              refine AllReadyH.cons (o := ⟨none, _, _, _, _, _⟩) rfl (fun K hK => ?_) AllReadyH.nil
              obtain ⟨⟨s16z0, s16c0, s16f0⟩, ⟨s16z1, s16c1, s16f1⟩, _⟩ := hS16.2
              go_simp
              refine hK.out _ _ (by (repeat (first | (with_reducible exact hHeld26) | (refine Keeps.set ?_ (by simp <;> omega) (by simp <;> omega) _)))) (fun hHeld27 => ?_)
              replace hS17 := hS17.mv2 hHeld27 (by first | omega | (simp <;> omega)) (by simp <;> omega)
              (try replace zq := zq.store2 hHeld27 s16c0 s16c1)
              (try replace zr := zr.store2 hHeld27 s16c0 s16c1)
              replace hS16 := hHeld27.add2 s16z0 s16c0 s16f0 s16c1 s16f1
              clear s16z0 s16c0 s16f0 s16z1 s16c1 s16f1
              clear hK K
              try clear hb
              try simp only [Act.put, List.setIfInBounds_toArray, List.set_cons_zero, List.set_cons_succ]
              generalize hGWA21 : World.setCell (World.setCell wq ⟨WA16.heap.size, 0, none⟩ (.bool bq)) ⟨WA16.heap.size, 1, none⟩ (.slice Aq nq cq) = WA21 at *
              clear hGWA21
              refine wpAnyH_ready (rs := [10]) (by kernel_rfl) (by simp) ?_
              refine AllReadyH.cons (o := ⟨none, _, _, _, _, _⟩) rfl (fun K hK => ?_) AllReadyH.nil
              obtain ⟨⟨s17z0, s17c0, s17f0⟩, ⟨s17z1, s17c1, s17f1⟩, _⟩ := hS17.2
              go_simp
              refine hK.out _ _ (by (repeat (first | (with_reducible exact hHeld27) | (refine Keeps.set ?_ (by simp <;> omega) (by simp <;> omega) _)))) (fun hHeld28 => ?_)
              replace hS16 := hS16.mv2 hHeld28 (by first | omega | (simp <;> omega)) (by simp <;> omega)
              (try replace zq := zq.store2 hHeld28 s17c0 s17c1)
              (try replace zr := zr.store2 hHeld28 s17c0 s17c1)
              replace hS17 := hHeld28.add2 s17z0 s17c0 s17f0 s17c1 s17f1
              clear s17z0 s17c0 s17f0 s17z1 s17c1 s17f1
              clear hK K
              try clear hb
              try simp only [Act.put, List.setIfInBounds_toArray, List.set_cons_zero, List.set_cons_succ]
              generalize hGWA22 : World.setCell (World.setCell WA21 ⟨wn.heap.size, 0, none⟩ (.bool br)) ⟨wn.heap.size, 1, none⟩ (.slice Ar nr cr) = WA22 at *
              clear hGWA22
              refine wpAnyH_done (by kernel_rfl) ?_ _
              have hHeld := hHeld28
              rotate_left 1
              exact AllReadyH.nil
              exact AllReadyH.nil
              refine AllReadyH.cons (o := ⟨some 16, _, _, _, _, _⟩) rfl (fun K hK => ?_) ?_
              have lo16 := hHeld0.1.size
              obtain ⟨⟨a16_z0, a16_c0, a16_f0⟩, ⟨a16_z1, a16_c1, a16_f1⟩, ⟨a16_z2, a16_c2, a16_f2⟩, ⟨a16_z3, a16_c3, a16_f3⟩, _⟩ := hHeld0.2
              (try simp at lo16); (try simp at a16_z0); (try simp at a16_z1); (try simp at a16_z2); (try simp at a16_z3)
              go_simp
              refine hK.out _ _ (by first | exact hHeld0.alloc _ | exact (hHeld0.alloc _).drew) (fun hHeld29 => ?_)
              first | have hS16 := newK2 hHeld29 | have hS16 := newK2d hHeld29
              clear hK K
              try clear hb
              try simp only [Act.put, List.setIfInBounds_toArray, List.set_cons_zero, List.set_cons_succ]
              generalize hGWA23 : World.alloc wi (.cells #[.bool false, .slice none 0 0] 28) = WA23 at *
              clear hGWA23
              refine wpAnyH_ready (rs := [2, 8]) (by kernel_rfl) (by simp) ?_
              refine AllReadyH.cons (o := ⟨some 89, _, _, _, _, _⟩) rfl (fun K hK => ?_) ?_
              go_simp
              (first | ((with_reducible refine (IM.out _).mono ?_); rintro e wn ⟨bn, An, nn, cn, rfl, hb, zn⟩) | ((with_reducible refine (RD.out _ _ _ (HX.out.below (by first | exact hHeld0.bel | exact hHeld1.bel | exact hHeld2.bel | exact hHeld3.bel | exact hHeld4.bel | exact hHeld5.bel | exact hHeld6.bel | exact hHeld7.bel | exact hHeld8.bel | exact hHeld9.bel | exact hHeld10.bel | exact hHeld11.bel | exact hHeld12.bel | exact hHeld13.bel | exact hHeld14.bel | exact hHeld15.bel | exact hHeld16.bel | exact hHeld17.bel | exact hHeld18.bel | exact hHeld19.bel | exact hHeld20.bel | exact hHeld21.bel | exact hHeld22.bel | exact hHeld23.bel | exact hHeld24.bel | exact hHeld25.bel | exact hHeld26.bel | exact hHeld27.bel | exact hHeld28.bel | exact hHeld29.bel | exact hHeld30.bel | exact hHeld31.bel | exact hHeld32.bel | exact hHeld33.bel | exact hHeld34.bel | exact hHeld35.bel | exact hHeld36.bel | exact hHeld37.bel | exact hHeld38.bel | exact hHeld39.bel | exact hHeld40.bel | exact hHeld41.bel | exact hHeld42.bel | exact hHeld43.bel | exact hHeld44.bel | exact hHeld45.bel | exact hHeld46.bel | exact hHeld47.bel | exact hHeld48.bel | exact hHeld49.bel | exact hHeld50.bel | exact hHeld51.bel | exact hHeld52.bel | exact hHeld53.bel | exact hHeld54.bel | exact hHeld55.bel | exact hHeld56.bel | exact hHeld57.bel | exact hHeld58.bel | exact hHeld59.bel | exact hHeld60.bel | exact hHeld61.bel | exact hHeld62.bel | exact hHeld63.bel | exact hHeld64.bel | exact hHeld65.bel | exact hHeld66.bel | exact hHeld67.bel | exact hHeld68.bel | exact hHeld69.bel | exact hHeld.bel)) zn).mono ?_); rintro e wq ⟨bq, Aq, nq, cq, br, Ar, nr, cr, rfl, hb, zq, zr⟩))
              refine hK.out _ _ (hHeld29.next hb) (fun hHeld30 => ?_)
              replace hS16 := hS16.next hb
              clear hK K
              try clear hb
              try simp only [Act.put, List.setIfInBounds_toArray, List.set_cons_zero, List.set_cons_succ]
              refine wpAnyH_ready (rs := [3, 8]) (by kernel_rfl) (by simp) ?_
              refine AllReadyH.cons (o := ⟨some 90, _, _, _, _, _⟩) rfl (fun K hK => ?_) ?_
              go_simp
              (first | ((with_reducible refine (IM.out _).mono ?_); rintro e wn ⟨bn, An, nn, cn, rfl, hb, zn⟩) | ((with_reducible refine (RD.out _ _ _ (HX.out.below (by first | exact hHeld0.bel | exact hHeld1.bel | exact hHeld2.bel | exact hHeld3.bel | exact hHeld4.bel | exact hHeld5.bel | exact hHeld6.bel | exact hHeld7.bel | exact hHeld8.bel | exact hHeld9.bel | exact hHeld10.bel | exact hHeld11.bel | exact hHeld12.bel | exact hHeld13.bel | exact hHeld14.bel | exact hHeld15.bel | exact hHeld16.bel | exact hHeld17.bel | exact hHeld18.bel | exact hHeld19.bel | exact hHeld20.bel | exact hHeld21.bel | exact hHeld22.bel | exact hHeld23.bel | exact hHeld24.bel | exact hHeld25.bel | exact hHeld26.bel | exact hHeld27.bel | exact hHeld28.bel | exact hHeld29.bel | exact hHeld30.bel | exact hHeld31.bel | exact hHeld32.bel | exact hHeld33.bel | exact hHeld34.bel | exact hHeld35.bel | exact hHeld36.bel | exact hHeld37.bel | exact hHeld38.bel | exact hHeld39.bel | exact hHeld40.bel | exact hHeld41.bel | exact hHeld42.bel | exact hHeld43.bel | exact hHeld44.bel | exact hHeld45.bel | exact hHeld46.bel | exact hHeld47.bel | exact hHeld48.bel | exact hHeld49.bel | exact hHeld50.bel | exact hHeld51.bel | exact hHeld52.bel | exact hHeld53.bel | exact hHeld54.bel | exact hHeld55.bel | exact hHeld56.bel | exact hHeld57.bel | exact hHeld58.bel | exact hHeld59.bel | exact hHeld60.bel | exact hHeld61.bel | exact hHeld62.bel | exact hHeld63.bel | exact hHeld64.bel | exact hHeld65.bel | exact hHeld66.bel | exact hHeld67.bel | exact hHeld68.bel | exact hHeld69.bel | exact hHeld.bel)) zn).mono ?_); rintro e wq ⟨bq, Aq, nq, cq, br, Ar, nr, cr, rfl, hb, zq, zr⟩))
              refine hK.out _ _ (hHeld30.next hb) (fun hHeld31 => ?_)
              replace hS16 := hS16.next hb
              (try replace zn := zn.below hb)
              clear hK K
              try clear hb
              try simp only [Act.put, List.setIfInBounds_toArray, List.set_cons_zero, List.set_cons_succ]
              refine wpAnyH_take (i := 4) (oi := ⟨some 86, _, _, _, _, _⟩) (v := ?_) rfl (by kernel_rfl) (by kernel_rfl) (by kernel_rfl) (fun _ _ _ h => h) (Or.inl ⟨by rfl, ?_⟩) (by assumption) ?_
              rotate_left
              · intro wq hSw; go_simp; (try with_reducible rfl)
              try simp only [Act.put, List.setIfInBounds_toArray, List.set_cons_zero, List.set_cons_succ]
              refine wpAnyH_take (i := 5) (oi := ⟨some 91, _, _, _, _, _⟩) (v := ?_) rfl (by kernel_rfl) (by kernel_rfl) (by kernel_rfl) (fun _ _ _ h => h) (Or.inl ⟨by rfl, ?_⟩) (by assumption) ?_
              rotate_left
              · intro wq hSw; go_simp; (try with_reducible rfl)
              try simp only [Act.put, List.setIfInBounds_toArray, List.set_cons_zero, List.set_cons_succ]
              refine wpAnyH_take (i := 6) (oi := ⟨some 92, _, _, _, _, _⟩) (v := ?_) rfl (by kernel_rfl) (by kernel_rfl) (by kernel_rfl) (fun _ _ _ h => h) (Or.inl ⟨by rfl, ?_⟩) (by assumption) ?_
              rotate_left
              · intro wq hSw; go_simp; (try with_reducible rfl)
              try simp only [Act.put, List.setIfInBounds_toArray, List.set_cons_zero, List.set_cons_succ]
              refine wpAnyH_ready (rs := [8]) (by kernel_rfl) (by simp) ?_
              refine AllReadyH.cons (o := ⟨some 17, _, _, _, _, _⟩) rfl (fun K hK => ?_) AllReadyH.nil
              have hne16_17 := hS16.2.1.1
              have lo17 := hHeld31.1.size
              obtain ⟨⟨a17_z0, a17_c0, a17_f0⟩, ⟨a17_z1, a17_c1, a17_f1⟩, ⟨a17_z2, a17_c2, a17_f2⟩, ⟨a17_z3, a17_c3, a17_f3⟩, _⟩ := hHeld31.2
              (try simp at lo17); (try simp at hne16_17); (try simp at a17_z0); (try simp at a17_z1); (try simp at a17_z2); (try simp at a17_z3)
              go_simp
              refine hK.out _ _ (by first | exact hHeld31.alloc _ | exact (hHeld31.alloc _).drew) (fun hHeld32 => ?_)
              first | replace hS16 := hS16.alloc2e hHeld32 | replace hS16 := hS16.alloc2 hHeld32
              (try replace zq := zq.alloc2 hHeld32)
              (try replace zr := zr.alloc2 hHeld32)
              first | have hS17 := newK2 hHeld32 | have hS17 := newK2d hHeld32
              clear hK K
              try clear hb
              try simp only [Act.put, List.setIfInBounds_toArray, List.set_cons_zero, List.set_cons_succ]
              generalize hGWA24 : World.alloc wq (.cells #[.bool false, .slice none 0 0] 28) = WA24 at *
              clear hGWA24
              refine wpAnyH_ready (rs := [9]) (by kernel_rfl) (by simp) ?_
              refine AllReadyH.cons (o := ⟨none, _, _, _, _, _⟩) rfl (fun K hK => ?_) AllReadyH.nil
              obtain ⟨⟨s16z0, s16c0, s16f0⟩, ⟨s16z1, s16c1, s16f1⟩, _⟩ := hS16.2
              go_simp
              refine hK.out _ _ (by (repeat (first | (with_reducible exact hHeld32) | (refine Keeps.set ?_ (by simp <;> omega) (by simp <;> omega) _)))) (fun hHeld33 => ?_)
              replace hS17 := hS17.mv2 hHeld33 (by first | omega | (simp <;> omega)) (by simp <;> omega)
              (try replace zq := zq.store2 hHeld33 s16c0 s16c1)
              (try replace zr := zr.store2 hHeld33 s16c0 s16c1)
              replace hS16 := hHeld33.add2 s16z0 s16c0 s16f0 s16c1 s16f1
              clear s16z0 s16c0 s16f0 s16z1 s16c1 s16f1
              clear hK K
              try clear hb
              try simp only [Act.put, List.setIfInBounds_toArray, List.set_cons_zero, List.set_cons_succ]
              generalize hGWA25 : World.setCell (World.setCell WA24 ⟨wi.heap.size, 0, none⟩ (.bool bq)) ⟨wi.heap.size, 1, none⟩ (.slice Aq nq cq) = WA25 at *
              clear hGWA25
              refine wpAnyH_ready (rs := [10]) (by kernel_rfl) (by simp) ?_
              refine AllReadyH.cons (o := ⟨none, _, _, _, _, _⟩) rfl (fun K hK => ?_) AllReadyH.nil
              obtain ⟨⟨s17z0, s17c0, s17f0⟩, ⟨s17z1, s17c1, s17f1⟩, _⟩ := hS17.2
              go_simp
              refine hK.out _ _ (by (repeat (first | (with_reducible exact hHeld33) | (refine Keeps.set ?_ (by simp <;> omega) (by simp <;> omega) _)))) (fun hHeld34 => ?_)
              replace hS16 := hS16.mv2 hHeld34 (by first | omega | (simp <;> omega)) (by simp <;> omega)
              (try replace zq := zq.store2 hHeld34 s17c0 s17c1)
              (try replace zr := zr.store2 hHeld34 s17c0 s17c1)
              replace hS17 := hHeld34.add2 s17z0 s17c0 s17f0 s17c1 s17f1
              clear s17z0 s17c0 s17f0 s17z1 s17c1 s17f1
              clear hK K
              try clear hb
              try simp only [Act.put, List.setIfInBounds_toArray, List.set_cons_zero, List.set_cons_succ]
              generalize hGWA26 : World.setCell (World.setCell WA25 ⟨wq.heap.size, 0, none⟩ (.bool br)) ⟨wq.heap.size, 1, none⟩ (.slice Ar nr cr) = WA26 at *
              clear hGWA26
              refine wpAnyH_done (by kernel_rfl) ?_ _
              have hHeld := hHeld34
              rotate_left 1
              refine AllReadyH.cons (o := ⟨some 17, _, _, _, _, _⟩) rfl (fun K hK => ?_) ?_
              have hne16_17 := hS16.2.1.1
              have lo17 := hHeld30.1.size
              obtain ⟨⟨a17_z0, a17_c0, a17_f0⟩, ⟨a17_z1, a17_c1, a17_f1⟩, ⟨a17_z2, a17_c2, a17_f2⟩, ⟨a17_z3, a17_c3, a17_f3⟩, _⟩ := hHeld30.2
              (try simp at lo17); (try simp at hne16_17); (try simp at a17_z0); (try simp at a17_z1); (try simp at a17_z2); (try simp at a17_z3)
              go_simp
              refine hK.out _ _ (by first | exact hHeld30.alloc _ | exact (hHeld30.alloc _).drew) (fun hHeld35 => ?_)
              first | replace hS16 := hS16.alloc2e hHeld35 | replace hS16 := hS16.alloc2 hHeld35
              (try replace zn := zn.alloc2 hHeld35)
              first | have hS17 := newK2 hHeld35 | have hS17 := newK2d hHeld35
              clear hK K
              try clear hb
              try simp only [Act.put, List.setIfInBounds_toArray, List.set_cons_zero, List.set_cons_succ]
              generalize hGWA27 : World.alloc wn (.cells #[.bool false, .slice none 0 0] 28) = WA27 at *
              clear hGWA27
              refine wpAnyH_ready (rs := [3]) (by kernel_rfl) (by simp) ?_
              refine AllReadyH.cons (o := ⟨some 90, _, _, _, _, _⟩) rfl (fun K hK => ?_) AllReadyH.nil
              go_simp
              (first | ((with_reducible refine (IM.out _).mono ?_); rintro e wn ⟨bn, An, nn, cn, rfl, hb, zn⟩) | ((with_reducible refine (RD.out _ _ _ (HX.out.below (by first | exact hHeld0.bel | exact hHeld1.bel | exact hHeld2.bel | exact hHeld3.bel | exact hHeld4.bel | exact hHeld5.bel | exact hHeld6.bel | exact hHeld7.bel | exact hHeld8.bel | exact hHeld9.bel | exact hHeld10.bel | exact hHeld11.bel | exact hHeld12.bel | exact hHeld13.bel | exact hHeld14.bel | exact hHeld15.bel | exact hHeld16.bel | exact hHeld17.bel | exact hHeld18.bel | exact hHeld19.bel | exact hHeld20.bel | exact hHeld21.bel | exact hHeld22.bel | exact hHeld23.bel | exact hHeld24.bel | exact hHeld25.bel | exact hHeld26.bel | exact hHeld27.bel | exact hHeld28.bel | exact hHeld29.bel | exact hHeld30.bel | exact hHeld31.bel | exact hHeld32.bel | exact hHeld33.bel | exact hHeld34.bel | exact hHeld35.bel | exact hHeld36.bel | exact hHeld37.bel | exact hHeld38.bel | exact hHeld39.bel | exact hHeld40.bel | exact hHeld41.bel | exact hHeld42.bel | exact hHeld43.bel | exact hHeld44.bel | exact hHeld45.bel | exact hHeld46.bel | exact hHeld47.bel | exact hHeld48.bel | exact hHeld49.bel | exact hHeld50.bel | exact hHeld51.bel | exact hHeld52.bel | exact hHeld53.bel | exact hHeld54.bel | exact hHeld55.bel | exact hHeld56.bel | exact hHeld57.bel | exact hHeld58.bel | exact hHeld59.bel | exact hHeld60.bel | exact hHeld61.bel | exact hHeld62.bel | exact hHeld63.bel | exact hHeld64.bel | exact hHeld65.bel | exact hHeld66.bel | exact hHeld67.bel | exact hHeld68.bel | exact hHeld69.bel | exact hHeld.bel)) zn).mono ?_); rintro e wq ⟨bq, Aq, nq, cq, br, Ar, nr, cr, rfl, hb, zq, zr⟩))
              refine hK.out _ _ (hHeld35.next hb) (fun hHeld36 => ?_)
              replace hS16 := hS16.next hb
              replace hS17 := hS17.next hb
              (try replace zn := zn.below hb)
              clear hK K
              try clear hb
              try simp only [Act.put, List.setIfInBounds_toArray, List.set_cons_zero, List.set_cons_succ]
              refine wpAnyH_take (i := 4) (oi := ⟨some 86, _, _, _, _, _⟩) (v := ?_) rfl (by kernel_rfl) (by kernel_rfl) (by kernel_rfl) (fun _ _ _ h => h) (Or.inl ⟨by rfl, ?_⟩) (by assumption) ?_
              rotate_left
              · intro wq hSw; go_simp; (try with_reducible rfl)
              try simp only [Act.put, List.setIfInBounds_toArray, List.set_cons_zero, List.set_cons_succ]
              refine wpAnyH_take (i := 5) (oi := ⟨some 91, _, _, _, _, _⟩) (v := ?_) rfl (by kernel_rfl) (by kernel_rfl) (by kernel_rfl) (fun _ _ _ h => h) (Or.inl ⟨by rfl, ?_⟩) (by assumption) ?_
              rotate_left
              · intro wq hSw; go_simp; (try with_reducible rfl)
              try simp only [Act.put, List.setIfInBounds_toArray, List.set_cons_zero, List.set_cons_succ]
              refine wpAnyH_take (i := 6) (oi := ⟨some 92, _, _, _, _, _⟩) (v := ?_) rfl (by kernel_rfl) (by kernel_rfl) (by kernel_rfl) (fun _ _ _ h => h) (Or.inl ⟨by rfl, ?_⟩) (by assumption) ?_
              rotate_left
              · intro wq hSw; go_simp; (try with_reducible rfl)
              try simp only [Act.put, List.setIfInBounds_toArray, List.set_cons_zero, List.set_cons_succ]
              refine wpAnyH_ready (rs := [9]) (by kernel_rfl) (by simp) ?_
              refine AllReadyH.cons (o := ⟨none, _, _, _, _, _⟩) rfl (fun K hK => ?_) AllReadyH.nil
              obtain ⟨⟨s16z0, s16c0, s16f0⟩, ⟨s16z1, s16c1, s16f1⟩, _⟩ := hS16.2
              go_simp
              refine hK.out _ _ (by (repeat (first | (with_reducible exact hHeld36) | (refine Keeps.set ?_ (by simp <;> omega) (by simp <;> omega) _)))) (fun hHeld37 => ?_)
              replace hS17 := hS17.mv2 hHeld37 (by first | omega | (simp <;> omega)) (by simp <;> omega)
              (try replace zq := zq.store2 hHeld37 s16c0 s16c1)
              (try replace zr := zr.store2 hHeld37 s16c0 s16c1)
              replace hS16 := hHeld37.add2 s16z0 s16c0 s16f0 s16c1 s16f1
              clear s16z0 s16c0 s16f0 s16z1 s16c1 s16f1
              clear hK K
              try clear hb
              try simp only [Act.put, List.setIfInBounds_toArray, List.set_cons_zero, List.set_cons_succ]
              generalize hGWA28 : World.setCell (World.setCell wq ⟨wi.heap.size, 0, none⟩ (.bool bq)) ⟨wi.heap.size, 1, none⟩ (.slice Aq nq cq) = WA28 at *
              clear hGWA28
              refine wpAnyH_ready (rs := [10]) (by kernel_rfl) (by simp) ?_
              refine AllReadyH.cons (o := ⟨none, _, _, _, _, _⟩) rfl (fun K hK => ?_) AllReadyH.nil
              obtain ⟨⟨s17z0, s17c0, s17f0⟩, ⟨s17z1, s17c1, s17f1⟩, _⟩ := hS17.2
              go_simp
              refine hK.out _ _ (by (repeat (first | (with_reducible exact hHeld37) | (refine Keeps.set ?_ (by simp <;> omega) (by simp <;> omega) _)))) (fun hHeld38 => ?_)
              replace hS16 := hS16.mv2 hHeld38 (by first | omega | (simp <;> omega)) (by simp <;> omega)
              (try replace zq := zq.store2 hHeld38 s17c0 s17c1)
              (try replace zr := zr.store2 hHeld38 s17c0 s17c1)
              replace hS17 := hHeld38.add2 s17z0 s17c0 s17f0 s17c1 s17f1
              clear s17z0 s17c0 s17f0 s17z1 s17c1 s17f1
              clear hK K
              try clear hb
              try simp only [Act.put, List.setIfInBounds_toArray, List.set_cons_zero, List.set_cons_succ]
              generalize hGWA29 : World.setCell (World.setCell WA28 ⟨wn.heap.size, 0, none⟩ (.bool br)) ⟨wn.heap.size, 1, none⟩ (.slice Ar nr cr) = WA29 at *
              clear hGWA29
              refine wpAnyH_done (by kernel_rfl) ?_ _
              have hHeld := hHeld38
              rotate_left 1
              exact AllReadyH.nil
              refine AllReadyH.cons (o := ⟨some 17, _, _, _, _, _⟩) rfl (fun K hK => ?_) ?_
              have hne16_17 := hS16.2.1.1
              have lo17 := hHeld29.1.size
              obtain ⟨⟨a17_z0, a17_c0, a17_f0⟩, ⟨a17_z1, a17_c1, a17_f1⟩, ⟨a17_z2, a17_c2, a17_f2⟩, ⟨a17_z3, a17_c3, a17_f3⟩, _⟩ := hHeld29.2
              (try simp at lo17); (try simp at hne16_17); (try simp at a17_z0); (try simp at a17_z1); (try simp at a17_z2); (try simp at a17_z3)
              go_simp
              refine hK.out _ _ (by first | exact hHeld29.alloc _ | exact (hHeld29.alloc _).drew) (fun hHeld39 => ?_)
              first | replace hS16 := hS16.alloc2e hHeld39 | replace hS16 := hS16.alloc2 hHeld39
              first | have hS17 := newK2 hHeld39 | have hS17 := newK2d hHeld39
              clear hK K
              try clear hb
              try simp only [Act.put, List.setIfInBounds_toArray, List.set_cons_zero, List.set_cons_succ]
              generalize hGWA30 : World.alloc WA23 (.cells #[.bool false, .slice none 0 0] 28) = WA30 at *
              clear hGWA30
              refine wpAnyH_ready (rs := [2]) (by kernel_rfl) (by simp) ?_
              refine AllReadyH.cons (o := ⟨some 89, _, _, _, _, _⟩) rfl (fun K hK => ?_) AllReadyH.nil
              go_simp
              (first | ((with_reducible refine (IM.out _).mono ?_); rintro e wn ⟨bn, An, nn, cn, rfl, hb, zn⟩) | ((with_reducible refine (RD.out _ _ _ (HX.out.below (by first | exact hHeld0.bel | exact hHeld1.bel | exact hHeld2.bel | exact hHeld3.bel | exact hHeld4.bel | exact hHeld5.bel | exact hHeld6.bel | exact hHeld7.bel | exact hHeld8.bel | exact hHeld9.bel | exact hHeld10.bel | exact hHeld11.bel | exact hHeld12.bel | exact hHeld13.bel | exact hHeld14.bel | exact hHeld15.bel | exact hHeld16.bel | exact hHeld17.bel | exact hHeld18.bel | exact hHeld19.bel | exact hHeld20.bel | exact hHeld21.bel | exact hHeld22.bel | exact hHeld23.bel | exact hHeld24.bel | exact hHeld25.bel | exact hHeld26.bel | exact hHeld27.bel | exact hHeld28.bel | exact hHeld29.bel | exact hHeld30.bel | exact hHeld31.bel | exact hHeld32.bel | exact hHeld33.bel | exact hHeld34.bel | exact hHeld35.bel | exact hHeld36.bel | exact hHeld37.bel | exact hHeld38.bel | exact hHeld39.bel | exact hHeld40.bel | exact hHeld41.bel | exact hHeld42.bel | exact hHeld43.bel | exact hHeld44.bel | exact hHeld45.bel | exact hHeld46.bel | exact hHeld47.bel | exact hHeld48.bel | exact hHeld49.bel | exact hHeld50.bel | exact hHeld51.bel | exact hHeld52.bel | exact hHeld53.bel | exact hHeld54.bel | exact hHeld55.bel | exact hHeld56.bel | exact hHeld57.bel | exact hHeld58.bel | exact hHeld59.bel | exact hHeld60.bel | exact hHeld61.bel | exact hHeld62.bel | exact hHeld63.bel | exact hHeld64.bel | exact hHeld65.bel | exact hHeld66.bel | exact hHeld67.bel | exact hHeld68.bel | exact hHeld69.bel | exact hHeld.bel)) zn).mono ?_); rintro e wq ⟨bq, Aq, nq, cq, br, Ar, nr, cr, rfl, hb, zq, zr⟩))
              refine hK.out _ _ (hHeld39.next hb) (fun hHeld40 => ?_)
              replace hS16 := hS16.next hb
              replace hS17 := hS17.next hb
              clear hK K
              try clear hb
              try simp only [Act.put, List.setIfInBounds_toArray, List.set_cons_zero, List.set_cons_succ]
              refine wpAnyH_ready (rs := [3]) (by kernel_rfl) (by simp) ?_
              refine AllReadyH.cons (o := ⟨some 90, _, _, _, _, _⟩) rfl (fun K hK => ?_) AllReadyH.nil
              go_simp
              (first | ((with_reducible refine (IM.out _).mono ?_); rintro e wn ⟨bn, An, nn, cn, rfl, hb, zn⟩) | ((with_reducible refine (RD.out _ _ _ (HX.out.below (by first | exact hHeld0.bel | exact hHeld1.bel | exact hHeld2.bel | exact hHeld3.bel | exact hHeld4.bel | exact hHeld5.bel | exact hHeld6.bel | exact hHeld7.bel | exact hHeld8.bel | exact hHeld9.bel | exact hHeld10.bel | exact hHeld11.bel | exact hHeld12.bel | exact hHeld13.bel | exact hHeld14.bel | exact hHeld15.bel | exact hHeld16.bel | exact hHeld17.bel | exact hHeld18.bel | exact hHeld19.bel | exact hHeld20.bel | exact hHeld21.bel | exact hHeld22.bel | exact hHeld23.bel | exact hHeld24.bel | exact hHeld25.bel | exact hHeld26.bel | exact hHeld27.bel | exact hHeld28.bel | exact hHeld29.bel | exact hHeld30.bel | exact hHeld31.bel | exact hHeld32.bel | exact hHeld33.bel | exact hHeld34.bel | exact hHeld35.bel | exact hHeld36.bel | exact hHeld37.bel | exact hHeld38.bel | exact hHeld39.bel | exact hHeld40.bel | exact hHeld41.bel | exact hHeld42.bel | exact hHeld43.bel | exact hHeld44.bel | exact hHeld45.bel | exact hHeld46.bel | exact hHeld47.bel | exact hHeld48.bel | exact hHeld49.bel | exact hHeld50.bel | exact hHeld51.bel | exact hHeld52.bel | exact hHeld53.bel | exact hHeld54.bel | exact hHeld55.bel | exact hHeld56.bel | exact hHeld57.bel | exact hHeld58.bel | exact hHeld59.bel | exact hHeld60.bel | exact hHeld61.bel | exact hHeld62.bel | exact hHeld63.bel | exact hHeld64.bel | exact hHeld65.bel | exact hHeld66.bel | exact hHeld67.bel | exact hHeld68.bel | exact hHeld69.bel | exact hHeld.bel)) zn).mono ?_); rintro e wq ⟨bq, Aq, nq, cq, br, Ar, nr, cr, rfl, hb, zq, zr⟩))
              refine hK.out _ _ (hHeld40.next hb) (fun hHeld41 => ?_)
              replace hS16 := hS16.next hb
              replace hS17 := hS17.next hb
              (try replace zn := zn.below hb)
              clear hK K
              try clear hb
              try simp only [Act.put, List.setIfInBounds_toArray, List.set_cons_zero, List.set_cons_succ]
              refine wpAnyH_take (i := 4) (oi := ⟨some 86, _, _, _, _, _⟩) (v := ?_) rfl (by kernel_rfl) (by kernel_rfl) (by kernel_rfl) (fun _ _ _ h => h) (Or.inl ⟨by rfl, ?_⟩) (by assumption) ?_
              rotate_left
              · intro wq hSw; go_simp; (try with_reducible rfl)
              try simp only [Act.put, List.setIfInBounds_toArray, List.set_cons_zero, List.set_cons_succ]
              refine wpAnyH_take (i := 5) (oi := ⟨some 91, _, _, _, _, _⟩) (v := ?_) rfl (by kernel_rfl) (by kernel_rfl) (by kernel_rfl) (fun _ _ _ h => h) (Or.inl ⟨by rfl, ?_⟩) (by assumption) ?_
              rotate_left
              · intro wq hSw; go_simp; (try with_reducible rfl)
              try simp only [Act.put, List.setIfInBounds_toArray, List.set_cons_zero, List.set_cons_succ]
              refine wpAnyH_take (i := 6) (oi := ⟨some 92, _, _, _, _, _⟩) (v := ?_) rfl (by kernel_rfl) (by kernel_rfl) (by kernel_rfl) (fun _ _ _ h => h) (Or.inl ⟨by rfl, ?_⟩) (by assumption) ?_
              rotate_left
              · intro wq hSw; go_simp; (try with_reducible rfl)
              try simp only [Act.put, List.setIfInBounds_toArray, List.set_cons_zero, List.set_cons_succ]
              refine wpAnyH_ready (rs := [9]) (by kernel_rfl) (by simp) ?_
              refine AllReadyH.cons (o := ⟨none, _, _, _, _, _⟩) rfl (fun K hK => ?_) AllReadyH.nil
              obtain ⟨⟨s16z0, s16c0, s16f0⟩, ⟨s16z1, s16c1, s16f1⟩, _⟩ := hS16.2
              go_simp
              refine hK.out _ _ (by (repeat (first | (with_reducible exact hHeld41) | (refine Keeps.set ?_ (by simp <;> omega) (by simp <;> omega) _)))) (fun hHeld42 => ?_)
              replace hS17 := hS17.mv2 hHeld42 (by first | omega | (simp <;> omega)) (by simp <;> omega)
              (try replace zq := zq.store2 hHeld42 s16c0 s16c1)
              (try replace zr := zr.store2 hHeld42 s16c0 s16c1)
              replace hS16 := hHeld42.add2 s16z0 s16c0 s16f0 s16c1 s16f1
              clear s16z0 s16c0 s16f0 s16z1 s16c1 s16f1
              clear hK K
              try clear hb
              try simp only [Act.put, List.setIfInBounds_toArray, List.set_cons_zero, List.set_cons_succ]
              generalize hGWA31 : World.setCell (World.setCell wq ⟨wi.heap.size, 0, none⟩ (.bool bq)) ⟨wi.heap.size, 1, none⟩ (.slice Aq nq cq) = WA31 at *
              clear hGWA31
              refine wpAnyH_ready (rs := [10]) (by kernel_rfl) (by simp) ?_
              refine AllReadyH.cons (o := ⟨none, _, _, _, _, _⟩) rfl (fun K hK => ?_) AllReadyH.nil
              obtain ⟨⟨s17z0, s17c0, s17f0⟩, ⟨s17z1, s17c1, s17f1⟩, _⟩ := hS17.2
              go_simp
              refine hK.out _ _ (by (repeat (first | (with_reducible exact hHeld42) | (refine Keeps.set ?_ (by simp <;> omega) (by simp <;> omega) _)))) (fun hHeld43 => ?_)
              replace hS16 := hS16.mv2 hHeld43 (by first | omega | (simp <;> omega)) (by simp <;> omega)
              (try replace zq := zq.store2 hHeld43 s17c0 s17c1)
              (try replace zr := zr.store2 hHeld43 s17c0 s17c1)
              replace hS17 := hHeld43.add2 s17z0 s17c0 s17f0 s17c1 s17f1
              clear s17z0 s17c0 s17f0 s17z1 s17c1 s17f1
              clear hK K
              try clear hb
              try simp only [Act.put, List.setIfInBounds_toArray, List.set_cons_zero, List.set_cons_succ]
              generalize hGWA32 : World.setCell (World.setCell WA31 ⟨WA23.heap.size, 0, none⟩ (.bool br)) ⟨WA23.heap.size, 1, none⟩ (.slice Ar nr cr) = WA32 at *
              clear hGWA32
              refine wpAnyH_done (by kernel_rfl) ?_ _
              have hHeld := hHeld43
              rotate_left 1
              exact AllReadyH.nil
              refine AllReadyH.cons (o := ⟨some 17, _, _, _, _, _⟩) rfl (fun K hK => ?_) ?_
              have lo17 := hHeld0.1.size
              obtain ⟨⟨a17_z0, a17_c0, a17_f0⟩, ⟨a17_z1, a17_c1, a17_f1⟩, ⟨a17_z2, a17_c2, a17_f2⟩, ⟨a17_z3, a17_c3, a17_f3⟩, _⟩ := hHeld0.2
              (try simp at lo17); (try simp at a17_z0); (try simp at a17_z1); (try simp at a17_z2); (try simp at a17_z3)
              go_simp
              refine hK.out _ _ (by first | exact hHeld0.alloc _ | exact (hHeld0.alloc _).drew) (fun hHeld44 => ?_)
              first | have hS17 := newK2 hHeld44 | have hS17 := newK2d hHeld44
              clear hK K
              try clear hb
              try simp only [Act.put, List.setIfInBounds_toArray, List.set_cons_zero, List.set_cons_succ]
              generalize hGWA33 : World.alloc wi (.cells #[.bool false, .slice none 0 0] 28) = WA33 at *
              clear hGWA33
              refine wpAnyH_ready (rs := [2, 7]) (by kernel_rfl) (by simp) ?_
              refine AllReadyH.cons (o := ⟨some 89, _, _, _, _, _⟩) rfl (fun K hK => ?_) ?_
              go_simp
              (first | ((with_reducible refine (IM.out _).mono ?_); rintro e wn ⟨bn, An, nn, cn, rfl, hb, zn⟩) | ((with_reducible refine (RD.out _ _ _ (HX.out.below (by first | exact hHeld0.bel | exact hHeld1.bel | exact hHeld2.bel | exact hHeld3.bel | exact hHeld4.bel | exact hHeld5.bel | exact hHeld6.bel | exact hHeld7.bel | exact hHeld8.bel | exact hHeld9.bel | exact hHeld10.bel | exact hHeld11.bel | exact hHeld12.bel | exact hHeld13.bel | exact hHeld14.bel | exact hHeld15.bel | exact hHeld16.bel | exact hHeld17.bel | exact hHeld18.bel | exact hHeld19.bel | exact hHeld20.bel | exact hHeld21.bel | exact hHeld22.bel | exact hHeld23.bel | exact hHeld24.bel | exact hHeld25.bel | exact hHeld26.bel | exact hHeld27.bel | exact hHeld28.bel | exact hHeld29.bel | exact hHeld30.bel | exact hHeld31.bel | exact hHeld32.bel | exact hHeld33.bel | exact hHeld34.bel | exact hHeld35.bel | exact hHeld36.bel | exact hHeld37.bel | exact hHeld38.bel | exact hHeld39.bel | exact hHeld40.bel | exact hHeld41.bel | exact hHeld42.bel | exact hHeld43.bel | exact hHeld44.bel | exact hHeld45.bel | exact hHeld46.bel | exact hHeld47.bel | exact hHeld48.bel | exact hHeld49.bel | exact hHeld50.bel | exact hHeld51.bel | exact hHeld52.bel | exact hHeld53.bel | exact hHeld54.bel | exact hHeld55.bel | exact hHeld56.bel | exact hHeld57.bel | exact hHeld58.bel | exact hHeld59.bel | exact hHeld60.bel | exact hHeld61.bel | exact hHeld62.bel | exact hHeld63.bel | exact hHeld64.bel | exact hHeld65.bel | exact hHeld66.bel | exact hHeld67.bel | exact hHeld68.bel | exact hHeld69.bel | exact hHeld.bel)) zn).mono ?_); rintro e wq ⟨bq, Aq, nq, cq, br, Ar, nr, cr, rfl, hb, zq, zr⟩))
              refine hK.out _ _ (hHeld44.next hb) (fun hHeld45 => ?_)
              replace hS17 := hS17.next hb
              clear hK K
              try clear hb
              try simp only [Act.put, List.setIfInBounds_toArray, List.set_cons_zero, List.set_cons_succ]
              refine wpAnyH_ready (rs := [3, 7]) (by kernel_rfl) (by simp) ?_
              refine AllReadyH.cons (o := ⟨some 90, _, _, _, _, _⟩) rfl (fun K hK => ?_) ?_
              go_simp
              (first | ((with_reducible refine (IM.out _).mono ?_); rintro e wn ⟨bn, An, nn, cn, rfl, hb, zn⟩) | ((with_reducible refine (RD.out _ _ _ (HX.out.below (by first | exact hHeld0.bel | exact hHeld1.bel | exact hHeld2.bel | exact hHeld3.bel | exact hHeld4.bel | exact hHeld5.bel | exact hHeld6.bel | exact hHeld7.bel | exact hHeld8.bel | exact hHeld9.bel | exact hHeld10.bel | exact hHeld11.bel | exact hHeld12.bel | exact hHeld13.bel | exact hHeld14.bel | exact hHeld15.bel | exact hHeld16.bel | exact hHeld17.bel | exact hHeld18.bel | exact hHeld19.bel | exact hHeld20.bel | exact hHeld21.bel | exact hHeld22.bel | exact hHeld23.bel | exact hHeld24.bel | exact hHeld25.bel | exact hHeld26.bel | exact hHeld27.bel | exact hHeld28.bel | exact hHeld29.bel | exact hHeld30.bel | exact hHeld31.bel | exact hHeld32.bel | exact hHeld33.bel | exact hHeld34.bel | exact hHeld35.bel | exact hHeld36.bel | exact hHeld37.bel | exact hHeld38.bel | exact hHeld39.bel | exact hHeld40.bel | exact hHeld41.bel | exact hHeld42.bel | exact hHeld43.bel | exact hHeld44.bel | exact hHeld45.bel | exact hHeld46.bel | exact hHeld47.bel | exact hHeld48.bel | exact hHeld49.bel | exact hHeld50.bel | exact hHeld51.bel | exact hHeld52.bel | exact hHeld53.bel | exact hHeld54.bel | exact hHeld55.bel | exact hHeld56.bel | exact hHeld57.bel | exact hHeld58.bel | exact hHeld59.bel | exact hHeld60.bel | exact hHeld61.bel | exact hHeld62.bel | exact hHeld63.bel | exact hHeld64.bel | exact hHeld65.bel | exact hHeld66.bel | exact hHeld67.bel | exact hHeld68.bel | exact hHeld69.bel | exact hHeld.bel)) zn).mono ?_); rintro e wq ⟨bq, Aq, nq, cq, br, Ar, nr, cr, rfl, hb, zq, zr⟩))
              refine hK.out _ _ (hHeld45.next hb) (fun hHeld46 => ?_)
              replace hS17 := hS17.next hb
              (try replace zn := zn.below hb)
              clear hK K
              try clear hb
              try simp only [Act.put, List.setIfInBounds_toArray, List.set_cons_zero, List.set_cons_succ]
              refine wpAnyH_take (i := 4) (oi := ⟨some 86, _, _, _, _, _⟩) (v := ?_) rfl (by kernel_rfl) (by kernel_rfl) (by kernel_rfl) (fun _ _ _ h => h) (Or.inl ⟨by rfl, ?_⟩) (by assumption) ?_
              rotate_left
              · intro wq hSw; go_simp; (try with_reducible rfl)
              try simp only [Act.put, List.setIfInBounds_toArray, List.set_cons_zero, List.set_cons_succ]
              refine wpAnyH_take (i := 5) (oi := ⟨some 91, _, _, _, _, _⟩) (v := ?_) rfl (by kernel_rfl) (by kernel_rfl) (by kernel_rfl) (fun _ _ _ h => h) (Or.inl ⟨by rfl, ?_⟩) (by assumption) ?_
              rotate_left
              · intro wq hSw; go_simp; (try with_reducible rfl)
              try simp only [Act.put, List.setIfInBounds_toArray, List.set_cons_zero, List.set_cons_succ]
              refine wpAnyH_take (i := 6) (oi := ⟨some 92, _, _, _, _, _⟩) (v := ?_) rfl (by kernel_rfl) (by kernel_rfl) (by kernel_rfl) (fun _ _ _ h => h) (Or.inl ⟨by rfl, ?_⟩) (by assumption) ?_
              rotate_left
              · intro wq hSw; go_simp; (try with_reducible rfl)
              try simp only [Act.put, List.setIfInBounds_toArray, List.set_cons_zero, List.set_cons_succ]
              refine wpAnyH_ready (rs := [7]) (by kernel_rfl) (by simp) ?_
              refine AllReadyH.cons (o := ⟨some 16, _, _, _, _, _⟩) rfl (fun K hK => ?_) AllReadyH.nil
              have hne17_16 := hS17.2.1.1
              have lo16 := hHeld46.1.size
              obtain ⟨⟨a16_z0, a16_c0, a16_f0⟩, ⟨a16_z1, a16_c1, a16_f1⟩, ⟨a16_z2, a16_c2, a16_f2⟩, ⟨a16_z3, a16_c3, a16_f3⟩, _⟩ := hHeld46.2
              (try simp at lo16); (try simp at hne17_16); (try simp at a16_z0); (try simp at a16_z1); (try simp at a16_z2); (try simp at a16_z3)
              go_simp
              refine hK.out _ _ (by first | exact hHeld46.alloc _ | exact (hHeld46.alloc _).drew) (fun hHeld47 => ?_)
              first | replace hS17 := hS17.alloc2e hHeld47 | replace hS17 := hS17.alloc2 hHeld47
              (try replace zq := zq.alloc2 hHeld47)
              (try replace zr := zr.alloc2 hHeld47)
              first | have hS16 := newK2 hHeld47 | have hS16 := newK2d hHeld47
              clear hK K
              try clear hb
              try simp only [Act.put, List.setIfInBounds_toArray, List.set_cons_zero, List.set_cons_succ]
              generalize hGWA34 : World.alloc wq (.cells #[.bool false, .slice none 0 0] 28) = WA34 at *
              clear hGWA34
              refine wpAnyH_ready (rs := [9]) (by kernel_rfl) (by simp) ?_
              refine AllReadyH.cons (o := ⟨none, _, _, _, _, _⟩) rfl (fun K hK => ?_) AllReadyH.nil
              obtain ⟨⟨s16z0, s16c0, s16f0⟩, ⟨s16z1, s16c1, s16f1⟩, _⟩ := hS16.2
              go_simp
              refine hK.out _ _ (by (repeat (first | (with_reducible exact hHeld47) | (refine Keeps.set ?_ (by simp <;> omega) (by simp <;> omega) _)))) (fun hHeld48 => ?_)
              replace hS17 := hS17.mv2 hHeld48 (by first | omega | (simp <;> omega)) (by simp <;> omega)
              (try replace zq := zq.store2 hHeld48 s16c0 s16c1)
              (try replace zr := zr.store2 hHeld48 s16c0 s16c1)
              replace hS16 := hHeld48.add2 s16z0 s16c0 s16f0 s16c1 s16f1
              clear s16z0 s16c0 s16f0 s16z1 s16c1 s16f1
              clear hK K
              try clear hb
              try simp only [Act.put, List.setIfInBounds_toArray, List.set_cons_zero, List.set_cons_succ]
              generalize hGWA35 : World.setCell (World.setCell WA34 ⟨wq.heap.size, 0, none⟩ (.bool bq)) ⟨wq.heap.size, 1, none⟩ (.slice Aq nq cq) = WA35 at *
              clear hGWA35
              refine wpAnyH_ready (rs := [10]) (by kernel_rfl) (by simp) ?_
              refine AllReadyH.cons (o := ⟨none, _, _, _, _, _⟩) rfl (fun K hK => ?_) AllReadyH.nil
              obtain ⟨⟨s17z0, s17c0, s17f0⟩, ⟨s17z1, s17c1, s17f1⟩, _⟩ := hS17.2
              go_simp
              refine hK.out _ _ (by (repeat (first | (with_reducible exact hHeld48) | (refine Keeps.set ?_ (by simp <;> omega) (by simp <;> omega) _)))) (fun hHeld49 => ?_)
              replace hS16 := hS16.mv2 hHeld49 (by first | omega | (simp <;> omega)) (by simp <;> omega)
              (try replace zq := zq.store2 hHeld49 s17c0 s17c1)
              (try replace zr := zr.store2 hHeld49 s17c0 s17c1)
              replace hS17 := hHeld49.add2 s17z0 s17c0 s17f0 s17c1 s17f1
              clear s17z0 s17c0 s17f0 s17z1 s17c1 s17f1
              clear hK K
              try clear hb
              try simp only [Act.put, List.setIfInBounds_toArray, List.set_cons_zero, List.set_cons_succ]
              generalize hGWA36 : World.setCell (World.setCell WA35 ⟨wi.heap.size, 0, none⟩ (.bool br)) ⟨wi.heap.size, 1, none⟩ (.slice Ar nr cr) = WA36 at *
              clear hGWA36
              refine wpAnyH_done (by kernel_rfl) ?_ _
              have hHeld := hHeld49
              rotate_left 1
              refine AllReadyH.cons (o := ⟨some 16, _, _, _, _, _⟩) rfl (fun K hK => ?_) ?_
              have hne17_16 := hS17.2.1.1
              have lo16 := hHeld45.1.size
              obtain ⟨⟨a16_z0, a16_c0, a16_f0⟩, ⟨a16_z1, a16_c1, a16_f1⟩, ⟨a16_z2, a16_c2, a16_f2⟩, ⟨a16_z3, a16_c3, a16_f3⟩, _⟩ := hHeld45.2
              (try simp at lo16); (try simp at hne17_16); (try simp at a16_z0); (try simp at a16_z1); (try simp at a16_z2); (try simp at a16_z3)
              go_simp
              refine hK.out _ _ (by first | exact hHeld45.alloc _ | exact (hHeld45.alloc _).drew) (fun hHeld50 => ?_)
              first | replace hS17 := hS17.alloc2e hHeld50 | replace hS17 := hS17.alloc2 hHeld50
              (try replace zn := zn.alloc2 hHeld50)
              first | have hS16 := newK2 hHeld50 | have hS16 := newK2d hHeld50
              clear hK K
              try clear hb
              try simp only [Act.put, List.setIfInBounds_toArray, List.set_cons_zero, List.set_cons_succ]
              generalize hGWA37 : World.alloc wn (.cells #[.bool false, .slice none 0 0] 28) = WA37 at *
              clear hGWA37
              refine wpAnyH_ready (rs := [3]) (by kernel_rfl) (by simp) ?_
              refine AllReadyH.cons (o := ⟨some 90, _, _, _, _, _⟩) rfl (fun K hK => ?_) AllReadyH.nil
              go_simp
              (first | ((with_reducible refine (IM.out _).mono ?_); rintro e wn ⟨bn, An, nn, cn, rfl, hb, zn⟩) | ((with_reducible refine (RD.out _ _ _ (HX.out.below (by first | exact hHeld0.bel | exact hHeld1.bel | exact hHeld2.bel | exact hHeld3.bel | exact hHeld4.bel | exact hHeld5.bel | exact hHeld6.bel | exact hHeld7.bel | exact hHeld8.bel | exact hHeld9.bel | exact hHeld10.bel | exact hHeld11.bel | exact hHeld12.bel | exact hHeld13.bel | exact hHeld14.bel | exact hHeld15.bel | exact hHeld16.bel | exact hHeld17.bel | exact hHeld18.bel | exact hHeld19.bel | exact hHeld20.bel | exact hHeld21.bel | exact hHeld22.bel | exact hHeld23.bel | exact hHeld24.bel | exact hHeld25.bel | exact hHeld26.bel | exact hHeld27.bel | exact hHeld28.bel | exact hHeld29.bel | exact hHeld30.bel | exact hHeld31.bel | exact hHeld32.bel | exact hHeld33.bel | exact hHeld34.bel | exact hHeld35.bel | exact hHeld36.bel | exact hHeld37.bel | exact hHeld38.bel | exact hHeld39.bel | exact hHeld40.bel | exact hHeld41.bel | exact hHeld42.bel | exact hHeld43.bel | exact hHeld44.bel | exact hHeld45.bel | exact hHeld46.bel | exact hHeld47.bel | exact hHeld48.bel | exact hHeld49.bel | exact hHeld50.bel | exact hHeld51.bel | exact hHeld52.bel | exact hHeld53.bel | exact hHeld54.bel | exact hHeld55.bel | exact hHeld56.bel | exact hHeld57.bel | exact hHeld58.bel | exact hHeld59.bel | exact hHeld60.bel | exact hHeld61.bel | exact hHeld62.bel | exact hHeld63.bel | exact hHeld64.bel | exact hHeld65.bel | exact hHeld66.bel | exact hHeld67.bel | exact hHeld68.bel | exact hHeld69.bel | exact hHeld.bel)) zn).mono ?_); rintro e wq ⟨bq, Aq, nq, cq, br, Ar, nr, cr, rfl, hb, zq, zr⟩))
              refine hK.out _ _ (hHeld50.next hb) (fun hHeld51 => ?_)
              replace hS17 := hS17.next hb
              replace hS16 := hS16.next hb
              (try replace zn := zn.below hb)
              clear hK K
              try clear hb
              try simp only [Act.put, List.setIfInBounds_toArray, List.set_cons_zero, List.set_cons_succ]
              refine wpAnyH_take (i := 4) (oi := ⟨some 86, _, _, _, _, _⟩) (v := ?_) rfl (by kernel_rfl) (by kernel_rfl) (by kernel_rfl) (fun _ _ _ h => h) (Or.inl ⟨by rfl, ?_⟩) (by assumption) ?_
              rotate_left
              · intro wq hSw; go_simp; (try with_reducible rfl)
              try simp only [Act.put, List.setIfInBounds_toArray, List.set_cons_zero, List.set_cons_succ]
              refine wpAnyH_take (i := 5) (oi := ⟨some 91, _, _, _, _, _⟩) (v := ?_) rfl (by kernel_rfl) (by kernel_rfl) (by kernel_rfl) (fun _ _ _ h => h) (Or.inl ⟨by rfl, ?_⟩) (by assumption) ?_
              rotate_left
              · intro wq hSw; go_simp; (try with_reducible rfl)
              try simp only [Act.put, List.setIfInBounds_toArray, List.set_cons_zero, List.set_cons_succ]
              refine wpAnyH_take (i := 6) (oi := ⟨some 92, _, _, _, _, _⟩) (v := ?_) rfl (by kernel_rfl) (by kernel_rfl) (by kernel_rfl) (fun _ _ _ h => h) (Or.inl ⟨by rfl, ?_⟩) (by assumption) ?_
              rotate_left
              · intro wq hSw; go_simp; (try with_reducible rfl)
              try simp only [Act.put, List.setIfInBounds_toArray, List.set_cons_zero, List.set_cons_succ]
              refine wpAnyH_ready (rs := [9]) (by kernel_rfl) (by simp) ?_
              refine AllReadyH.cons (o := ⟨none, _, _, _, _, _⟩) rfl (fun K hK => ?_) AllReadyH.nil
              obtain ⟨⟨s16z0, s16c0, s16f0⟩, ⟨s16z1, s16c1, s16f1⟩, _⟩ := hS16.2
              go_simp
              refine hK.out _ _ (by (repeat (first | (with_reducible exact hHeld51) | (refine Keeps.set ?_ (by simp <;> omega) (by simp <;> omega) _)))) (fun hHeld52 => ?_)
              replace hS17 := hS17.mv2 hHeld52 (by first | omega | (simp <;> omega)) (by simp <;> omega)
              (try replace zq := zq.store2 hHeld52 s16c0 s16c1)
              (try replace zr := zr.store2 hHeld52 s16c0 s16c1)
              replace hS16 := hHeld52.add2 s16z0 s16c0 s16f0 s16c1 s16f1
              clear s16z0 s16c0 s16f0 s16z1 s16c1 s16f1
              clear hK K
              try clear hb
              try simp only [Act.put, List.setIfInBounds_toArray, List.set_cons_zero, List.set_cons_succ]
              generalize hGWA38 : World.setCell (World.setCell wq ⟨wn.heap.size, 0, none⟩ (.bool bq)) ⟨wn.heap.size, 1, none⟩ (.slice Aq nq cq) = WA38 at *
              clear hGWA38
              refine wpAnyH_ready (rs := [10]) (by kernel_rfl) (by simp) ?_
              refine AllReadyH.cons (o := ⟨none, _, _, _, _, _⟩) rfl (fun K hK => ?_) AllReadyH.nil
              obtain ⟨⟨s17z0, s17c0, s17f0⟩, ⟨s17z1, s17c1, s17f1⟩, _⟩ := hS17.2
              go_simp
              refine hK.out _ _ (by (repeat (first | (with_reducible exact hHeld52) | (refine Keeps.set ?_ (by simp <;> omega) (by simp <;> omega) _)))) (fun hHeld53 => ?_)
              replace hS16 := hS16.mv2 hHeld53 (by first | omega | (simp <;> omega)) (by simp <;> omega)
              (try replace zq := zq.store2 hHeld53 s17c0 s17c1)
              (try replace zr := zr.store2 hHeld53 s17c0 s17c1)
              replace hS17 := hHeld53.add2 s17z0 s17c0 s17f0 s17c1 s17f1
              clear s17z0 s17c0 s17f0 s17z1 s17c1 s17f1
              clear hK K
              try clear hb
              try simp only [Act.put, List.setIfInBounds_toArray, List.set_cons_zero, List.set_cons_succ]
              generalize hGWA39 : World.setCell (World.setCell WA38 ⟨wi.heap.size, 0, none⟩ (.bool br)) ⟨wi.heap.size, 1, none⟩ (.slice Ar nr cr) = WA39 at *
              clear hGWA39
              refine wpAnyH_done (by kernel_rfl) ?_ _
              have hHeld := hHeld53
              rotate_left 1
              exact AllReadyH.nil
              refine AllReadyH.cons (o := ⟨some 16, _, _, _, _, _⟩) rfl (fun K hK => ?_) ?_
              have hne17_16 := hS17.2.1.1
              have lo16 := hHeld44.1.size
              obtain ⟨⟨a16_z0, a16_c0, a16_f0⟩, ⟨a16_z1, a16_c1, a16_f1⟩, ⟨a16_z2, a16_c2, a16_f2⟩, ⟨a16_z3, a16_c3, a16_f3⟩, _⟩ := hHeld44.2
              (try simp at lo16); (try simp at hne17_16); (try simp at a16_z0); (try simp at a16_z1); (try simp at a16_z2); (try simp at a16_z3)
              go_simp
              refine hK.out _ _ (by first | exact hHeld44.alloc _ | exact (hHeld44.alloc _).drew) (fun hHeld54 => ?_)
              first | replace hS17 := hS17.alloc2e hHeld54 | replace hS17 := hS17.alloc2 hHeld54
              first | have hS16 := newK2 hHeld54 | have hS16 := newK2d hHeld54
              clear hK K
              try clear hb
              try simp only [Act.put, List.setIfInBounds_toArray, List.set_cons_zero, List.set_cons_succ]
              generalize hGWA40 : World.alloc WA33 (.cells #[.bool false, .slice none 0 0] 28) = WA40 at *
              clear hGWA40
              refine wpAnyH_ready (rs := [2]) (by kernel_rfl) (by simp) ?_
              refine AllReadyH.cons (o := ⟨some 89, _, _, _, _, _⟩) rfl (fun K hK => ?_) AllReadyH.nil
              go_simp
              (first | ((with_reducible refine (IM.out _).mono ?_); rintro e wn ⟨bn, An, nn, cn, rfl, hb, zn⟩) | ((with_reducible refine (RD.out _ _ _ (HX.out.below (by first | exact hHeld0.bel | exact hHeld1.bel | exact hHeld2.bel | exact hHeld3.bel | exact hHeld4.bel | exact hHeld5.bel | exact hHeld6.bel | exact hHeld7.bel | exact hHeld8.bel | exact hHeld9.bel | exact hHeld10.bel | exact hHeld11.bel | exact hHeld12.bel | exact hHeld13.bel | exact hHeld14.bel | exact hHeld15.bel | exact hHeld16.bel | exact hHeld17.bel | exact hHeld18.bel | exact hHeld19.bel | exact hHeld20.bel | exact hHeld21.bel | exact hHeld22.bel | exact hHeld23.bel | exact hHeld24.bel | exact hHeld25.bel | exact hHeld26.bel | exact hHeld27.bel | exact hHeld28.bel | exact hHeld29.bel | exact hHeld30.bel | exact hHeld31.bel | exact hHeld32.bel | exact hHeld33.bel | exact hHeld34.bel | exact hHeld35.bel | exact hHeld36.bel | exact hHeld37.bel | exact hHeld38.bel | exact hHeld39.bel | exact hHeld40.bel | exact hHeld41.bel | exact hHeld42.bel | exact hHeld43.bel | exact hHeld44.bel | exact hHeld45.bel | exact hHeld46.bel | exact hHeld47.bel | exact hHeld48.bel | exact hHeld49.bel | exact hHeld50.bel | exact hHeld51.bel | exact hHeld52.bel | exact hHeld53.bel | exact hHeld54.bel | exact hHeld55.bel | exact hHeld56.bel | exact hHeld57.bel | exact hHeld58.bel | exact hHeld59.bel | exact hHeld60.bel | exact hHeld61.bel | exact hHeld62.bel | exact hHeld63.bel | exact hHeld64.bel | exact hHeld65.bel | exact hHeld66.bel | exact hHeld67.bel | exact hHeld68.bel | exact hHeld69.bel | exact hHeld.bel)) zn).mono ?_); rintro e wq ⟨bq, Aq, nq, cq, br, Ar, nr, cr, rfl, hb, zq, zr⟩))
              refine hK.out _ _ (hHeld54.next hb) (fun hHeld55 => ?_)
              replace hS17 := hS17.next hb
              replace hS16 := hS16.next hb
              clear hK K
              try clear hb
              try simp only [Act.put, List.setIfInBounds_toArray, List.set_cons_zero, List.set_cons_succ]
              refine wpAnyH_ready (rs := [3]) (by kernel_rfl) (by simp) ?_
              refine AllReadyH.cons (o := ⟨some 90, _, _, _, _, _⟩) rfl (fun K hK => ?_) AllReadyH.nil
              go_simp
              (first | ((with_reducible refine (IM.out _).mono ?_); rintro e wn ⟨bn, An, nn, cn, rfl, hb, zn⟩) | ((with_reducible refine (RD.out _ _ _ (HX.out.below (by first | exact hHeld0.bel | exact hHeld1.bel | exact hHeld2.bel | exact hHeld3.bel | exact hHeld4.bel | exact hHeld5.bel | exact hHeld6.bel | exact hHeld7.bel | exact hHeld8.bel | exact hHeld9.bel | exact hHeld10.bel | exact hHeld11.bel | exact hHeld12.bel | exact hHeld13.bel | exact hHeld14.bel | exact hHeld15.bel | exact hHeld16.bel | exact hHeld17.bel | exact hHeld18.bel | exact hHeld19.bel | exact hHeld20.bel | exact hHeld21.bel | exact hHeld22.bel | exact hHeld23.bel | exact hHeld24.bel | exact hHeld25.bel | exact hHeld26.bel | exact hHeld27.bel | exact hHeld28.bel | exact hHeld29.bel | exact hHeld30.bel | exact hHeld31.bel | exact hHeld32.bel | exact hHeld33.bel | exact hHeld34.bel | exact hHeld35.bel | exact hHeld36.bel | exact hHeld37.bel | exact hHeld38.bel | exact hHeld39.bel | exact hHeld40.bel | exact hHeld41.bel | exact hHeld42.bel | exact hHeld43.bel | exact hHeld44.bel | exact hHeld45.bel | exact hHeld46.bel | exact hHeld47.bel | exact hHeld48.bel | exact hHeld49.bel | exact hHeld50.bel | exact hHeld51.bel | exact hHeld52.bel | exact hHeld53.bel | exact hHeld54.bel | exact hHeld55.bel | exact hHeld56.bel | exact hHeld57.bel | exact hHeld58.bel | exact hHeld59.bel | exact hHeld60.bel | exact hHeld61.bel | exact hHeld62.bel | exact hHeld63.bel | exact hHeld64.bel | exact hHeld65.bel | exact hHeld66.bel | exact hHeld67.bel | exact hHeld68.bel | exact hHeld69.bel | exact hHeld.bel)) zn).mono ?_); rintro e wq ⟨bq, Aq, nq, cq, br, Ar, nr, cr, rfl, hb, zq, zr⟩))
              refine hK.out _ _ (hHeld55.next hb) (fun hHeld56 => ?_)
              replace hS17 := hS17.next hb
              replace hS16 := hS16.next hb
              (try replace zn := zn.below hb)
              clear hK K
              try clear hb
              try simp only [Act.put, List.setIfInBounds_toArray, List.set_cons_zero, List.set_cons_succ]
              refine wpAnyH_take (i := 4) (oi := ⟨some 86, _, _, _, _, _⟩) (v := ?_) rfl (by kernel_rfl) (by kernel_rfl) (by kernel_rfl) (fun _ _ _ h => h) (Or.inl ⟨by rfl, ?_⟩) (by assumption) ?_
              rotate_left
              · intro wq hSw; go_simp; (try with_reducible rfl)
              try simp only [Act.put, List.setIfInBounds_toArray, List.set_cons_zero, List.set_cons_succ]
              refine wpAnyH_take (i := 5) (oi := ⟨some 91, _, _, _, _, _⟩) (v := ?_) rfl (by kernel_rfl) (by kernel_rfl) (by kernel_rfl) (fun _ _ _ h => h) (Or.inl ⟨by rfl, ?_⟩) (by assumption) ?_
              rotate_left
              · intro wq hSw; go_simp; (try with_reducible rfl)
              try simp only [Act.put, List.setIfInBounds_toArray, List.set_cons_zero, List.set_cons_succ]
              refine wpAnyH_take (i := 6) (oi := ⟨some 92, _, _, _, _, _⟩) (v := ?_) rfl (by kernel_rfl) (by kernel_rfl) (by kernel_rfl) (fun _ _ _ h => h) (Or.inl ⟨by rfl, ?_⟩) (by assumption) ?_
              rotate_left
              · intro wq hSw; go_simp; (try with_reducible rfl)
              try simp only [Act.put, List.setIfInBounds_toArray, List.set_cons_zero, List.set_cons_succ]
              refine wpAnyH_ready (rs := [9]) (by kernel_rfl) (by simp) ?_
              refine AllReadyH.cons (o := ⟨none, _, _, _, _, _⟩) rfl (fun K hK => ?_) AllReadyH.nil
              obtain ⟨⟨s16z0, s16c0, s16f0⟩, ⟨s16z1, s16c1, s16f1⟩, _⟩ := hS16.2
              go_simp
              refine hK.out _ _ (by (repeat (first | (with_reducible exact hHeld56) | (refine Keeps.set ?_ (by simp <;> omega) (by simp <;> omega) _)))) (fun hHeld57 => ?_)
              replace hS17 := hS17.mv2 hHeld57 (by first | omega | (simp <;> omega)) (by simp <;> omega)
              (try replace zq := zq.store2 hHeld57 s16c0 s16c1)
              (try replace zr := zr.store2 hHeld57 s16c0 s16c1)
              replace hS16 := hHeld57.add2 s16z0 s16c0 s16f0 s16c1 s16f1
              clear s16z0 s16c0 s16f0 s16z1 s16c1 s16f1
              clear hK K
              try clear hb
              try simp only [Act.put, List.setIfInBounds_toArray, List.set_cons_zero, List.set_cons_succ]
              generalize hGWA41 : World.setCell (World.setCell wq ⟨WA33.heap.size, 0, none⟩ (.bool bq)) ⟨WA33.heap.size, 1, none⟩ (.slice Aq nq cq) = WA41 at *
              clear hGWA41
              refine wpAnyH_ready (rs := [10]) (by kernel_rfl) (by simp) ?_
              refine AllReadyH.cons (o := ⟨none, _, _, _, _, _⟩) rfl (fun K hK => ?_) AllReadyH.nil
              obtain ⟨⟨s17z0, s17c0, s17f0⟩, ⟨s17z1, s17c1, s17f1⟩, _⟩ := hS17.2
              go_simp
              refine hK.out _ _ (by (repeat (first | (with_reducible exact hHeld57) | (refine Keeps.set ?_ (by simp <;> omega) (by simp <;> omega) _)))) (fun hHeld58 => ?_)
              replace hS16 := hS16.mv2 hHeld58 (by first | omega | (simp <;> omega)) (by simp <;> omega)
              (try replace zq := zq.store2 hHeld58 s17c0 s17c1)
              (try replace zr := zr.store2 hHeld58 s17c0 s17c1)
              replace hS17 := hHeld58.add2 s17z0 s17c0 s17f0 s17c1 s17f1
              clear s17z0 s17c0 s17f0 s17z1 s17c1 s17f1
              clear hK K
              try clear hb
              try simp only [Act.put, List.setIfInBounds_toArray, List.set_cons_zero, List.set_cons_succ]
              generalize hGWA42 : World.setCell (World.setCell WA41 ⟨wi.heap.size, 0, none⟩ (.bool br)) ⟨wi.heap.size, 1, none⟩ (.slice Ar nr cr) = WA42 at *
              clear hGWA42
              refine wpAnyH_done (by kernel_rfl) ?_ _
              have hHeld := hHeld58
              rotate_left 1
              exact AllReadyH.nil
              exact AllReadyH.nil
              all_goals
                go_wp2_with fail
                go_meet
                case rel => exact ⟨_, _, _, _, _, _, _, _, _, _, rfl, rfl, Lib.hid zq, Lib.hid zr, hS16.1, hS16.2.1, hS16.2.2.1, hS17.2.1, hS17.2.2.1, hS16.2.2.2⟩
            case rest =>
              obtain ⟨h, b1, A1, m1, c1, h', b1', A1', m1', c1', rfl, rfl, HQ, HR, hHeld⟩ := hcut
              clear kz0 kc0 kf0 kz1 kc1 kf1 kz2 kc2 kf2 kz3 kc3 kf3 kz4 kc4 kf4 kz5 kc5 kf5 kz6 kc6 kf6 kz7 kc7 kf7
              obtain ⟨⟨kz0, kc0, kf0⟩, ⟨kz1, kc1, kf1⟩, ⟨kz2, kc2, kf2⟩, ⟨kz3, kc3, kf3⟩, ⟨kz4, kc4, kf4⟩, ⟨kz5, kc5, kf5⟩, ⟨kz6, kc6, kf6⟩, ⟨kz7, kc7, kf7⟩, _⟩ := hHeld.2
              go_wp2_with fail
              refine (VR.out _ _ HR.out).mono ?_
              rintro e wv ⟨rfl, hb⟩
              replace HQ := Lib.hid (HQ.out.below hb)
              replace hHeld := hHeld.next hb
              clear hb kz0 kc0 kf0 kz1 kc1 kf1 kz2 kc2 kf2 kz3 kc3 kf3 kz4 kc4 kf4 kz5 kc5 kf5 kz6 kc6 kf6 kz7 kc7 kf7
              obtain ⟨⟨kz0, kc0, kf0⟩, ⟨kz1, kc1, kf1⟩, ⟨kz2, kc2, kf2⟩, ⟨kz3, kc3, kf3⟩, ⟨kz4, kc4, kf4⟩, ⟨kz5, kc5, kf5⟩, ⟨kz6, kc6, kf6⟩, ⟨kz7, kc7, kf7⟩, _⟩ := hHeld.2
              go_wp2_with fail
              refine (IS.out _ _ _ _ _ HQ.out).mono ?_
              skip
              rintro e ws ⟨rfl, hb⟩
              replace hHeld := Keeps.next (hHeld) hb
              clear hb kz0 kc0 kf0 kz1 kc1 kf1 kz2 kc2 kf2 kz3 kc3 kf3 kz4 kc4 kf4 kz5 kc5 kf5 kz6 kc6 kf6 kz7 kc7 kf7
              obtain ⟨⟨kz0, kc0, kf0⟩, ⟨kz1, kc1, kf1⟩, ⟨kz2, kc2, kf2⟩, ⟨kz3, kc3, kf3⟩, ⟨kz4, kc4, kf4⟩, ⟨kz5, kc5, kf5⟩, ⟨kz6, kc6, kf6⟩, ⟨kz7, kc7, kf7⟩, _⟩ := hHeld.2
              go_wp2_with fail
              go_ret
              exact ⟨by first | rfl | simp, under hK.1 hHeld.1⟩
theorem parts_any_law (ah al bh bl mm : Int) (i1 : I64 ah) (k1 : U64 al) (i2 : I64 bh) (k2 : U64 bl) (j : I64 mm) (w : World) (htab : Tab w) : Calls Tryd.prog 5 #[wideV ah al, wideV bh bl, .int .i64 mm] w (Ret w (.bool true)) := by
  have l1 : (sizeL (val ah al).natAbs).length ≤ 130 := sizeL_length 130 _ (by have := fits_val i1 k1; unfold Fits at this; omega)
  have l2 : (sizeL (val bh bl).natAbs).length ≤ 130 := sizeL_length 130 _ (by have := fits_val i2 k2; unfold Fits at this; omega)
  have l3 : (sizeL mm.natAbs).length ≤ 64 := sizeL_length 64 _ (by unfold I64 at j; omega)
  have OA := fun W => refOf_any ah al i1.1 i1.2 k1.1 k1.2 W
  have OB := fun W => refOf_any bh bl i2.1 i2.2 k2.1 k2.2 W
  rw [show ah * 18446744073709551616 + al = val ah al by unfold val; rfl] at OA
  rw [show bh * 18446744073709551616 + bl = val bh bl by unfold val; rfl] at OB
  have CM := fun W => compare_any ah al bh bl W
  rw [cmp_words ah al bh bl k1 k2] at CM
  have IN := fun W => int_any ah al i1 k1 W
  have DV := fun W => div_any ah al mm i1 k1 j W
  have fz := fits_val i1 k1
  generalize val ah al = x at *
  generalize val bh bl = y at *
  have ei : ihi x = valueV x := by
    unfold ihi valueV
    by_cases g : -9223372036854775808 ≤ x ∧ x ≤ 9223372036854775807
    · rw [if_pos g, if_pos (by omega)]
    · rw [if_neg g, if_neg (by omega)]
  rw [ei] at IN
  refine parts_law ah al bh bl mm x y (valueV x) (icode x) (qhi x mm) (qlo x mm) (qrest x mm) (qcode mm) (if x < y then -1 else if y < x then 1 else 0) (valueB x) (decide (x < y)) (decide (y < x)) w htab OA OB (fun u u' W k k' => lessZ_any x y (by omega) (by omega) u u' W k k') (fun u u' W k k' => lessZ_any y x (by omega) (by omega) u u' W k k')
    (fun u W k => valueZ_any x (by omega) u W k) IN CM DV (fun W => intZ_any mm j.1 j.2 W) (fun h u u' W k k' => divD_any x mm h (by omega) (by omega) u u' W k k') ?_ ?_ ?_ ?_ ?_
  · intro h u W k
    have m0 := Int.emod_nonneg x (show mm ≠ 0 by omega)
    have m1 := Int.emod_lt_of_pos x (show 0 < mm by omega)
    unfold I64 at j
    have := valueZ_any (x % mm) (Nat.le_trans (sizeL_length 64 _ (by omega)) (by omega)) u W k
    rw [show valueV (x % mm) = x % mm by unfold valueV; rw [if_pos (by omega)], show valueB (x % mm) = true by unfold valueB; simp; omega] at this
    rw [show qrest x mm = x % mm by unfold qrest; rw [if_neg (by omega)]]
    exact this
  · intro h b A n c W k
    have fq := div_fits fz (show 0 < mm by omega)
    have lq : (sizeL (x / mm).natAbs).length ≤ 3990 := Nat.le_trans (sizeL_length 130 _ (by unfold Fits at fq; omega)) (by omega)
    have := is_any (x / mm) lq b A n c W k
    rw [show rcode (x / mm) = 0 by unfold rcode; rw [if_pos fq]] at this
    rw [show qhi x mm = rhi (x / mm) by unfold qhi; rw [if_neg (by omega)], show qlo x mm = rlo (x / mm) by unfold qlo; rw [if_neg (by omega)]]
    exact this
  · rcases Int.lt_trichotomy x y with g | g | g
    · exact Or.inl ⟨by simpa using g, by simp; omega, by rw [if_pos g]⟩
    · exact Or.inr (Or.inr ⟨by simp; omega, by simp; omega, by rw [if_neg (by omega), if_neg (by omega)]⟩)
    · refine Or.inr (Or.inl ⟨by simp; omega, by simpa using g, ?_⟩)
      have g2 : ¬ x < y := by omega
      rw [if_neg g2, if_pos g]
  · unfold valueB icode
    by_cases g : -9223372036854775808 ≤ x ∧ x < 9223372036854775808
    · exact Or.inl ⟨by simpa using g, by rw [if_pos (by omega)]⟩
    · exact Or.inr ⟨by simpa using g, by rw [if_neg (by omega)]⟩
  · unfold qhi qlo qrest qcode
    by_cases g : mm < 1
    · exact Or.inl ⟨g, by rw [if_pos g], by rw [if_pos g], by rw [if_pos g], by rw [if_pos g]⟩
    · exact Or.inr ⟨by omega, by rw [if_neg g]⟩
end Go.Proofs.YtinppckjolkhpaaDoor
