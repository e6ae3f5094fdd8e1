/-
  The document's own answers for layer 9: Door's walk. Conditions: those written at each fact.
-/
import Derived.Maps.RangeWalk
import Derived.Test.YtjioljgojfcckaaGreatSwW
namespace Go.Proofs.YtjioljgojfcckaaGreat.P9
open Go.RowKit Go.Shelf Go.Proofs.YtjioljgojfcckaaGreat.P8

theorem new_pair {w W : World} {L : List (Nat × Nat × Value)} {u0 u1 : Value} {t : TypeId} (h : Keeps w L W) :
    Keeps w ((W.heap.size, 0, u0) :: (W.heap.size, 1, u1) :: L) (W.alloc (.cells #[u0, u1] t)) := by
  have h1 := h.alloc (.cells #[u0, u1] t)
  have k := newK2 h1
  exact ⟨h1.1, k.2.1, k.2.2.1, h1.2⟩
theorem set_pair {w W : World} {M : List (Nat × Nat × Value)} {B : Nat} {u0 u1 a0 a1 : Value} (h : Keeps w ((B, 0, a0) :: (B, 1, a1) :: M) W) (hB : w.heap.size ≤ B) (hne : ∀ q ∈ M, q.1 ≠ B) :
    Keeps w ((B, 0, u0) :: (B, 1, u1) :: M) ((W.setCell ⟨B, 0, none⟩ u0).setCell ⟨B, 1, none⟩ u1) := by
  have h2 := ((show Keeps w M W from ⟨h.1, h.2.2.2⟩).set (p := ⟨B, 0, none⟩) hB hne u0).set (p := ⟨B, 1, none⟩) hB hne u1
  exact h2.add2 h.2.1.1 h.2.1.2.1 h.2.1.2.2 h.2.2.1.2.1 h.2.2.1.2.2
theorem set22 {W : World} {B C : Nat} {u0 u1 v0 v1 a0 a1 b0 b1 : Value} (hne : B ≠ C) (h0 : W.cell? ⟨B, 0, none⟩ = some a0) (h1 : W.cell? ⟨B, 1, none⟩ = some a1) (k0 : W.cell? ⟨C, 0, none⟩ = some b0) (k1 : W.cell? ⟨C, 1, none⟩ = some b1) :
    ((((W.setCell ⟨B, 0, none⟩ u0).setCell ⟨B, 1, none⟩ u1).setCell ⟨C, 0, none⟩ v0).setCell ⟨C, 1, none⟩ v1).cell? ⟨B, 0, none⟩ = some u0 ∧ ((((W.setCell ⟨B, 0, none⟩ u0).setCell ⟨B, 1, none⟩ u1).setCell ⟨C, 0, none⟩ v0).setCell ⟨C, 1, none⟩ v1).cell? ⟨B, 1, none⟩ = some u1 ∧
      ((((W.setCell ⟨B, 0, none⟩ u0).setCell ⟨B, 1, none⟩ u1).setCell ⟨C, 0, none⟩ v0).setCell ⟨C, 1, none⟩ v1).cell? ⟨C, 0, none⟩ = some v0 ∧ ((((W.setCell ⟨B, 0, none⟩ u0).setCell ⟨B, 1, none⟩ u1).setCell ⟨C, 0, none⟩ v0).setCell ⟨C, 1, none⟩ v1).cell? ⟨C, 1, none⟩ = some v1 := by
  obtain ⟨d0, d1⟩ := set2 (u0 := u0) (u1 := u1) h0 h1
  have j0 : ((W.setCell ⟨B, 0, none⟩ u0).setCell ⟨B, 1, none⟩ u1).cell? ⟨C, 0, none⟩ = some b0 := off_cell (by simp <;> omega) (off_cell (by simp <;> omega) k0)
  have j1 : ((W.setCell ⟨B, 0, none⟩ u0).setCell ⟨B, 1, none⟩ u1).cell? ⟨C, 1, none⟩ = some b1 := off_cell (by simp <;> omega) (off_cell (by simp <;> omega) k1)
  obtain ⟨e0, e1⟩ := set2 (u0 := v0) (u1 := v1) j0 j1
  exact ⟨off_cell (by simp <;> omega) (off_cell (by simp <;> omega) d0), off_cell (by simp <;> omega) (off_cell (by simp <;> omega) d1), e0, e1⟩
set_option maxRecDepth 100000 in
set_option maxHeartbeats 16000000 in
theorem refDoor_any (b0 : Bd) (l : List Bd) (hl : (b0 :: l).length ≤ 1000000) (hne : 2 ≤ (b0 :: l).length) (hR : ∀ b ∈ b0 :: l, BdOk b) (hT : ∀ b ∈ l, b0.t < b.t) (v : Value) (w : World) (h : ReadsD w v (b0 :: l)) :
    Calls Tryz.prog 29 #[v] w (Ret w (.tuple #[slV (allD (b0 :: l)).a (allD (b0 :: l)).b, slV (allD (b0 :: l)).c (allD (b0 :: l)).d])) := by
  have h' := h
  obtain ⟨A, c, rfl, hc, hk⟩ := h
  obtain ⟨b1, hb1⟩ : ∃ b1, (b0 :: l)[1]? = some b1 := ⟨_, List.getElem?_eq_getElem (by omega)⟩
  obtain ⟨bb, off, rfl, hbw, _, hp1, hp2⟩ := hk 1 _ hb1
  have ht1 : b0.t < b1.t := hT b1 (List.mem_of_getElem? (i := 0) (by simpa using hb1))
  obtain ⟨_, q2, q3⟩ := band_ok (hR b1 (List.mem_of_getElem? hb1))
  have TL := Lib.hid (fun W (hb : Below w.heap.size w W) => (show Calls Tryz.prog 54 #[.slice (some ⟨bb, off, none⟩) (b0 :: l).length c, .int .i64 1, .int .i64 b1.lo] W (Ret W (slV (slN b0.t (mid b0) b1.t b1.lo) (slD b0.t (mid b0) b1.t b1.lo))) from refTo_any b0 l hR 1 b1 hb1 ht1 b1.lo q2 _ W (h'.below hb)))
  have TH := Lib.hid (fun W (hb : Below w.heap.size w W) => (show Calls Tryz.prog 54 #[.slice (some ⟨bb, off, none⟩) (b0 :: l).length c, .int .i64 1, .int .i64 b1.hi] W (Ret W (slV (slN b0.t (mid b0) b1.t b1.hi) (slD b0.t (mid b0) b1.t b1.hi))) from refTo_any b0 l hR 1 b1 hb1 ht1 b1.hi q3 _ W (h'.below hb)))
  have e2 := atD_two hR hb1 ht1
  have E2 := Lib.hid (show (atD b0 l 2).a = slN b0.t (mid b0) b1.t b1.lo ∧ (atD b0 l 2).b = slD b0.t (mid b0) b1.t b1.lo ∧ (atD b0 l 2).c = slN b0.t (mid b0) b1.t b1.hi ∧ (atD b0 l 2).d = slD b0.t (mid b0) b1.t b1.hi by rw [e2]; exact ⟨rfl, rfl, rfl, rfl⟩)
  have HP := Lib.hid (And.intro hp1 hp2)
  have i3 : (1 : Int) < ((b0 :: l).length : Int) := by omega
  have i4 : 1 < (b0 :: l).length := by omega
  rw [← atD_all]
  have HK := Lib.hid hk
  have HD := Lib.hid h'
  have HRR := Lib.hid hR
  have HTT := Lib.hid hT
  have HL := Lib.hid hl
  clear h' hk hR hT hb1 ht1 q2 q3 hp1 hp2 e2 hc hl hne
  generalize slN b0.t (mid b0) b1.t b1.lo = p at *
  generalize slD b0.t (mid b0) b1.t b1.lo = q at *
  generalize slN b0.t (mid b0) b1.t b1.hi = r at *
  generalize slD b0.t (mid b0) b1.t b1.hi = s at *
  obtain ⟨_, lo1, hi1⟩ := b1
  simp only at *
  generalize hlen : (b0 :: l).length = len at *
  replace hlen := Lib.hid hlen
  go_enter Tryz.func29, Tryz.ntmps29
  go_upto_region 1 with (fail)
  have hHs : Keeps w [(w.heap.size, 0, .int .i64 0), (w.heap.size, 1, .int .i64 0), (w.heap.size + 1, 0, .int .i64 0), (w.heap.size + 1, 1, .int .i64 0)] ((w.alloc (.cells #[.int .i64 0, .int .i64 0] 49)).alloc (.cells #[.int .i64 0, .int .i64 0] 49)) := ⟨(below_alloc w _).alloc (by simp) _, by simp [Cells, go_sem]⟩
  generalize hGi : (w.alloc (.cells #[.int .i64 0, .int .i64 0] 49)).alloc (.cells #[.int .i64 0, .int .i64 0] 49) = wi at hHs ⊢
  clear hGi
  go_cut [4, 5] (fun s4 s5 wx => ∃ (g g' : Nat), s4 = .pointer (some ⟨g, 0, none⟩) ∧ s5 = .pointer (some ⟨g', 0, none⟩) ∧ g ≠ g' ∧ w.heap.size + 2 ≤ g ∧ w.heap.size + 2 ≤ g' ∧ Keeps w [(g, 0, .int .i64 p), (g, 1, .int .i64 q), (g', 0, .int .i64 r), (g', 1, .int .i64 s), (w.heap.size, 0, .int .i64 0), (w.heap.size, 1, .int .i64 0), (w.heap.size + 1, 0, .int .i64 0), (w.heap.size + 1, 1, .int .i64 0)] wx)
  case first =>
    have hwi : w.heap.size + 2 ≤ wi.heap.size := by have := hHs.2.2.2.1.1; omega
    refine region_keeps (w0 := w) (L := [(w.heap.size, 0, .int .i64 0), (w.heap.size, 1, .int .i64 0), (w.heap.size + 1, 0, .int .i64 0), (w.heap.size + 1, 1, .int .i64 0)]) (by kernel_rfl) hHs (fun hHeld0 => ?_)
    refine wpAnyH_take (i := 0) (oi := ⟨some 9, _, _, _, _, _⟩) (v := ?_) rfl (by kernel_rfl) (by kernel_rfl) (by kernel_rfl) (fun _ _ _ h => h) (Or.inl ⟨by rfl, ?_⟩) (by assumption) ?_
    rotate_left
    · intro wq hSw; go_simp; (try with_reducible rfl)
    try go_frame
    refine wpAnyH_take (i := 1) (oi := ⟨some 10, _, _, _, _, _⟩) (v := ?_) rfl (by kernel_rfl) (by kernel_rfl) (by kernel_rfl) (fun _ _ _ h => h) (Or.inl ⟨by rfl, ?_⟩) (by assumption) ?_
    rotate_left
    · intro wq hSw; go_simp; (try with_reducible rfl)
    try go_frame
    refine wpAnyH_take (i := 2) (oi := ⟨some 11, _, _, _, _, _⟩) (v := ?_) rfl (by kernel_rfl) (by kernel_rfl) (by kernel_rfl) (fun _ _ _ h => h) (Or.inl ⟨by rfl, ?_⟩) (by assumption) ?_
    rotate_left
    · intro wq hSw; go_simp; (try with_reducible rfl)
    try go_frame
    refine wpAnyH_take (i := 3) (oi := ⟨some 12, _, _, _, _, _⟩) (v := ?_) rfl (by kernel_rfl) (by kernel_rfl) (by kernel_rfl) (fun _ _ _ h => h) (Or.inl ⟨by rfl, ?_⟩) (by assumption) ?_
    rotate_left
    · intro wq hSw; go_simp; (try with_reducible rfl)
    try go_frame
    refine wpAnyH_take (i := 4) (oi := ⟨some 13, _, _, _, _, _⟩) (v := ?_) rfl (by kernel_rfl) (by kernel_rfl) (by kernel_rfl) (fun _ _ _ h => h) (Or.inl ⟨by rfl, ?_⟩) (by assumption) ?_
    rotate_left
    · intro wq hSw; obtain ⟨⟨qz0, qc0, qf0⟩, ⟨qz1, qc1, qf1⟩, ⟨qz2, qc2, qf2⟩, ⟨qz3, qc3, qf3⟩, _⟩ := hSw.2; have hp1 := (hSw.1.cell (p := ⟨bb, off + 1 * 3 + 1, none⟩) hbw).trans HP.out.1; have hp2 := (hSw.1.cell (p := ⟨bb, off + 1 * 3 + 2, none⟩) hbw).trans HP.out.2; (try simp only [Nat.one_mul] at hp1 hp2); go_simp; (try with_reducible rfl)
    try go_frame
    refine wpAnyH_take (i := 6) (oi := ⟨some 15, _, _, _, _, _⟩) (v := ?_) rfl (by kernel_rfl) (by kernel_rfl) (by kernel_rfl) (fun _ _ _ h => h) (Or.inl ⟨by rfl, ?_⟩) (by assumption) ?_
    rotate_left
    · intro wq hSw; go_simp; (try with_reducible rfl)
    try go_frame
    refine wpAnyH_take (i := 7) (oi := ⟨some 16, _, _, _, _, _⟩) (v := ?_) rfl (by kernel_rfl) (by kernel_rfl) (by kernel_rfl) (fun _ _ _ h => h) (Or.inl ⟨by rfl, ?_⟩) (by assumption) ?_
    rotate_left
    · intro wq hSw; go_simp; (try with_reducible rfl)
    try go_frame
    refine wpAnyH_take (i := 8) (oi := ⟨some 17, _, _, _, _, _⟩) (v := ?_) rfl (by kernel_rfl) (by kernel_rfl) (by kernel_rfl) (fun _ _ _ h => h) (Or.inl ⟨by rfl, ?_⟩) (by assumption) ?_
    rotate_left
    · intro wq hSw; go_simp; (try with_reducible rfl)
    try go_frame
    refine wpAnyH_take (i := 9) (oi := ⟨some 18, _, _, _, _, _⟩) (v := ?_) rfl (by kernel_rfl) (by kernel_rfl) (by kernel_rfl) (fun _ _ _ h => h) (Or.inl ⟨by rfl, ?_⟩) (by assumption) ?_
    rotate_left
    · intro wq hSw; go_simp; (try with_reducible rfl)
    try go_frame
    refine wpAnyH_take (i := 10) (oi := ⟨some 19, _, _, _, _, _⟩) (v := ?_) rfl (by kernel_rfl) (by kernel_rfl) (by kernel_rfl) (fun _ _ _ h => h) (Or.inl ⟨by rfl, ?_⟩) (by assumption) ?_
    rotate_left
    · intro wq hSw; obtain ⟨⟨qz0, qc0, qf0⟩, ⟨qz1, qc1, qf1⟩, ⟨qz2, qc2, qf2⟩, ⟨qz3, qc3, qf3⟩, _⟩ := hSw.2; have hp1 := (hSw.1.cell (p := ⟨bb, off + 1 * 3 + 1, none⟩) hbw).trans HP.out.1; have hp2 := (hSw.1.cell (p := ⟨bb, off + 1 * 3 + 2, none⟩) hbw).trans HP.out.2; (try simp only [Nat.one_mul] at hp1 hp2); go_simp; (try with_reducible rfl)
    try go_frame
    refine wpAnyH_ready (rs := [5, 12, 13]) (by kernel_rfl) (by simp) ?_
    refine AllReadyH.cons (o := ⟨some 14, _, _, _, _, _⟩) rfl (fun K hK => ?_) ?_
    go_simp
    (first | ((with_reducible refine (TL.out _ (bel9 (L := [(w.heap.size, 0, .int .i64 0), (w.heap.size, 1, .int .i64 0), (w.heap.size + 1, 0, .int .i64 0), (w.heap.size + 1, 1, .int .i64 0)]) (by assumption))).mono ?_); rintro e wl ⟨rfl, hb⟩) | ((with_reducible refine (TH.out _ (bel9 (L := [(w.heap.size, 0, .int .i64 0), (w.heap.size, 1, .int .i64 0), (w.heap.size + 1, 0, .int .i64 0), (w.heap.size + 1, 1, .int .i64 0)]) (by assumption))).mono ?_); rintro e wh ⟨rfl, hb⟩))
    refine hK.out _ _ (hHeld0.next hb) (fun hHeld1 => ?_)
    clear hK K
    try clear hb
    try go_frame
    refine wpAnyH_ready (rs := [11, 12, 13]) (by kernel_rfl) (by simp) ?_
    refine AllReadyH.cons (o := ⟨some 20, _, _, _, _, _⟩) rfl (fun K hK => ?_) ?_
    go_simp
    (first | ((with_reducible refine (TL.out _ (bel9 (L := [(w.heap.size, 0, .int .i64 0), (w.heap.size, 1, .int .i64 0), (w.heap.size + 1, 0, .int .i64 0), (w.heap.size + 1, 1, .int .i64 0)]) (by assumption))).mono ?_); rintro e wl ⟨rfl, hb⟩) | ((with_reducible refine (TH.out _ (bel9 (L := [(w.heap.size, 0, .int .i64 0), (w.heap.size, 1, .int .i64 0), (w.heap.size + 1, 0, .int .i64 0), (w.heap.size + 1, 1, .int .i64 0)]) (by assumption))).mono ?_); rintro e wh ⟨rfl, hb⟩))
    refine hK.out _ _ (hHeld1.next hb) (fun hHeld2 => ?_)
    clear hK K
    try clear hb
    try go_frame
    refine wpAnyH_ready (rs := [12, 13]) (by kernel_rfl) (by simp) ?_
    refine AllReadyH.cons (o := ⟨some 4, _, _, _, _, _⟩) rfl (fun K hK => ?_) ?_
    have lo4 := hHeld2.1.size
    obtain ⟨⟨a4_z0, a4_c0, a4_f0⟩, ⟨a4_z1, a4_c1, a4_f1⟩, ⟨a4_z2, a4_c2, a4_f2⟩, ⟨a4_z3, a4_c3, a4_f3⟩, _⟩ := hHeld2.2
    (try simp at lo4); (try simp at a4_z0); (try simp at a4_z1); (try simp at a4_z2); (try simp at a4_z3)
    go_simp
    refine hK.out _ _ (by first | exact hHeld2.alloc _ | exact (hHeld2.alloc _).drew) (fun hHeld3 => ?_)
    first | have hS4 := newK2 hHeld3 | have hS4 := newK2d hHeld3
    clear hK K
    try clear hb
    try go_frame
    generalize hGWA1 : World.alloc wh (.cells #[.int .i64 0, .int .i64 0] 49) = WA1 at *
    clear hGWA1
    refine wpAnyH_ready (rs := [13]) (by kernel_rfl) (by simp) ?_
    refine AllReadyH.cons (o := ⟨some 5, _, _, _, _, _⟩) rfl (fun K hK => ?_) AllReadyH.nil
    have hne4_5 := hS4.2.1.1
    have lo5 := hHeld3.1.size
    obtain ⟨⟨a5_z0, a5_c0, a5_f0⟩, ⟨a5_z1, a5_c1, a5_f1⟩, ⟨a5_z2, a5_c2, a5_f2⟩, ⟨a5_z3, a5_c3, a5_f3⟩, _⟩ := hHeld3.2
    (try simp at lo5); (try simp at hne4_5); (try simp at a5_z0); (try simp at a5_z1); (try simp at a5_z2); (try simp at a5_z3)
    go_simp
    refine hK.out _ _ (by first | exact hHeld3.alloc _ | exact (hHeld3.alloc _).drew) (fun hHeld4 => ?_)
    first | replace hS4 := hS4.alloc2e hHeld4 | replace hS4 := hS4.alloc2 hHeld4
    first | have hS5 := newK2 hHeld4 | have hS5 := newK2d hHeld4
    clear hK K
    try clear hb
    try go_frame
    generalize hGWA2 : World.alloc WA1 (.cells #[.int .i64 0, .int .i64 0] 49) = WA2 at *
    clear hGWA2
    refine wpAnyH_ready (rs := [14]) (by kernel_rfl) (by simp) ?_
    refine AllReadyH.cons (o := ⟨none, _, _, _, _, _⟩) rfl (fun K hK => ?_) AllReadyH.nil
    obtain ⟨⟨s4z0, s4c0, s4f0⟩, ⟨s4z1, s4c1, s4f1⟩, _⟩ := hS4.2
    go_simp
    refine hK.out _ _ (by (repeat (first | (with_reducible exact hHeld4) | (refine Keeps.set ?_ (by simp <;> omega) (by simp <;> omega) _)))) (fun hHeld5 => ?_)
    replace hS5 := hS5.mv2 hHeld5 (by first | omega | (simp <;> omega)) (by simp <;> omega)
    replace hS4 := hHeld5.add2 s4z0 s4c0 s4f0 s4c1 s4f1
    clear s4z0 s4c0 s4f0 s4z1 s4c1 s4f1
    clear hK K
    try clear hb
    try go_frame
    generalize hGWA3 : World.setCell (World.setCell WA2 ⟨wh.heap.size, 0, none⟩ (.int .i64 p)) ⟨wh.heap.size, 1, none⟩ (.int .i64 q) = WA3 at *
    clear hGWA3
    refine wpAnyH_ready (rs := [15]) (by kernel_rfl) (by simp) ?_
    refine AllReadyH.cons (o := ⟨none, _, _, _, _, _⟩) rfl (fun K hK => ?_) AllReadyH.nil
    obtain ⟨⟨s5z0, s5c0, s5f0⟩, ⟨s5z1, s5c1, s5f1⟩, _⟩ := hS5.2
    go_simp
    refine hK.out _ _ (by (repeat (first | (with_reducible exact hHeld5) | (refine Keeps.set ?_ (by simp <;> omega) (by simp <;> omega) _)))) (fun hHeld6 => ?_)
    replace hS4 := hS4.mv2 hHeld6 (by first | omega | (simp <;> omega)) (by simp <;> omega)
    replace hS5 := hHeld6.add2 s5z0 s5c0 s5f0 s5c1 s5f1
    clear s5z0 s5c0 s5f0 s5z1 s5c1 s5f1
    clear hK K
    try clear hb
    try go_frame
    generalize hGWA4 : World.setCell (World.setCell WA3 ⟨WA1.heap.size, 0, none⟩ (.int .i64 r)) ⟨WA1.heap.size, 1, none⟩ (.int .i64 s) = WA4 at *
    clear hGWA4
    refine wpAnyH_done (by kernel_rfl) ?_ _
    have hHeld := hHeld6
    rotate_left 1
    refine AllReadyH.cons (o := ⟨some 5, _, _, _, _, _⟩) rfl (fun K hK => ?_) ?_
    have lo5 := hHeld2.1.size
    obtain ⟨⟨a5_z0, a5_c0, a5_f0⟩, ⟨a5_z1, a5_c1, a5_f1⟩, ⟨a5_z2, a5_c2, a5_f2⟩, ⟨a5_z3, a5_c3, a5_f3⟩, _⟩ := hHeld2.2
    (try simp at lo5); (try simp at a5_z0); (try simp at a5_z1); (try simp at a5_z2); (try simp at a5_z3)
    go_simp
    refine hK.out _ _ (by first | exact hHeld2.alloc _ | exact (hHeld2.alloc _).drew) (fun hHeld7 => ?_)
    first | have hS5 := newK2 hHeld7 | have hS5 := newK2d hHeld7
    clear hK K
    try clear hb
    try go_frame
    generalize hGWA5 : World.alloc wh (.cells #[.int .i64 0, .int .i64 0] 49) = WA5 at *
    clear hGWA5
    refine wpAnyH_ready (rs := [12]) (by kernel_rfl) (by simp) ?_
    refine AllReadyH.cons (o := ⟨some 4, _, _, _, _, _⟩) rfl (fun K hK => ?_) AllReadyH.nil
    have hne5_4 := hS5.2.1.1
    have lo4 := hHeld7.1.size
    obtain ⟨⟨a4_z0, a4_c0, a4_f0⟩, ⟨a4_z1, a4_c1, a4_f1⟩, ⟨a4_z2, a4_c2, a4_f2⟩, ⟨a4_z3, a4_c3, a4_f3⟩, _⟩ := hHeld7.2
    (try simp at lo4); (try simp at hne5_4); (try simp at a4_z0); (try simp at a4_z1); (try simp at a4_z2); (try simp at a4_z3)
    go_simp
    refine hK.out _ _ (by first | exact hHeld7.alloc _ | exact (hHeld7.alloc _).drew) (fun hHeld8 => ?_)
    first | replace hS5 := hS5.alloc2e hHeld8 | replace hS5 := hS5.alloc2 hHeld8
    first | have hS4 := newK2 hHeld8 | have hS4 := newK2d hHeld8
    clear hK K
    try clear hb
    try go_frame
    generalize hGWA6 : World.alloc WA5 (.cells #[.int .i64 0, .int .i64 0] 49) = WA6 at *
    clear hGWA6
    refine wpAnyH_ready (rs := [14]) (by kernel_rfl) (by simp) ?_
    refine AllReadyH.cons (o := ⟨none, _, _, _, _, _⟩) rfl (fun K hK => ?_) AllReadyH.nil
    obtain ⟨⟨s4z0, s4c0, s4f0⟩, ⟨s4z1, s4c1, s4f1⟩, _⟩ := hS4.2
    go_simp
    refine hK.out _ _ (by (repeat (first | (with_reducible exact hHeld8) | (refine Keeps.set ?_ (by simp <;> omega) (by simp <;> omega) _)))) (fun hHeld9 => ?_)
    replace hS5 := hS5.mv2 hHeld9 (by first | omega | (simp <;> omega)) (by simp <;> omega)
    replace hS4 := hHeld9.add2 s4z0 s4c0 s4f0 s4c1 s4f1
    clear s4z0 s4c0 s4f0 s4z1 s4c1 s4f1
    clear hK K
    try clear hb
    try go_frame
    generalize hGWA7 : World.setCell (World.setCell WA6 ⟨WA5.heap.size, 0, none⟩ (.int .i64 p)) ⟨WA5.heap.size, 1, none⟩ (.int .i64 q) = WA7 at *
    clear hGWA7
    refine wpAnyH_ready (rs := [15]) (by kernel_rfl) (by simp) ?_
    refine AllReadyH.cons (o := ⟨none, _, _, _, _, _⟩) rfl (fun K hK => ?_) AllReadyH.nil
    obtain ⟨⟨s5z0, s5c0, s5f0⟩, ⟨s5z1, s5c1, s5f1⟩, _⟩ := hS5.2
    go_simp
    refine hK.out _ _ (by (repeat (first | (with_reducible exact hHeld9) | (refine Keeps.set ?_ (by simp <;> omega) (by simp <;> omega) _)))) (fun hHeld10 => ?_)
    replace hS4 := hS4.mv2 hHeld10 (by first | omega | (simp <;> omega)) (by simp <;> omega)
    replace hS5 := hHeld10.add2 s5z0 s5c0 s5f0 s5c1 s5f1
    clear s5z0 s5c0 s5f0 s5z1 s5c1 s5f1
    clear hK K
    try clear hb
    try go_frame
    generalize hGWA8 : World.setCell (World.setCell WA7 ⟨wh.heap.size, 0, none⟩ (.int .i64 r)) ⟨wh.heap.size, 1, none⟩ (.int .i64 s) = WA8 at *
    clear hGWA8
    refine wpAnyH_done (by kernel_rfl) ?_ _
    have hHeld := hHeld10
    rotate_left 1
    exact AllReadyH.nil
    refine AllReadyH.cons (o := ⟨some 4, _, _, _, _, _⟩) rfl (fun K hK => ?_) ?_
    have lo4 := hHeld1.1.size
    obtain ⟨⟨a4_z0, a4_c0, a4_f0⟩, ⟨a4_z1, a4_c1, a4_f1⟩, ⟨a4_z2, a4_c2, a4_f2⟩, ⟨a4_z3, a4_c3, a4_f3⟩, _⟩ := hHeld1.2
    (try simp at lo4); (try simp at a4_z0); (try simp at a4_z1); (try simp at a4_z2); (try simp at a4_z3)
    go_simp
    refine hK.out _ _ (by first | exact hHeld1.alloc _ | exact (hHeld1.alloc _).drew) (fun hHeld11 => ?_)
    first | have hS4 := newK2 hHeld11 | have hS4 := newK2d hHeld11
    clear hK K
    try clear hb
    try go_frame
    generalize hGWA9 : World.alloc wl (.cells #[.int .i64 0, .int .i64 0] 49) = WA9 at *
    clear hGWA9
    refine wpAnyH_ready (rs := [11, 13]) (by kernel_rfl) (by simp) ?_
    refine AllReadyH.cons (o := ⟨some 20, _, _, _, _, _⟩) rfl (fun K hK => ?_) ?_
    go_simp
    (first | ((with_reducible refine (TL.out _ (bel9 (L := [(w.heap.size, 0, .int .i64 0), (w.heap.size, 1, .int .i64 0), (w.heap.size + 1, 0, .int .i64 0), (w.heap.size + 1, 1, .int .i64 0)]) (by assumption))).mono ?_); rintro e wl ⟨rfl, hb⟩) | ((with_reducible refine (TH.out _ (bel9 (L := [(w.heap.size, 0, .int .i64 0), (w.heap.size, 1, .int .i64 0), (w.heap.size + 1, 0, .int .i64 0), (w.heap.size + 1, 1, .int .i64 0)]) (by assumption))).mono ?_); rintro e wh ⟨rfl, hb⟩))
    refine hK.out _ _ (hHeld11.next hb) (fun hHeld12 => ?_)
    replace hS4 := hS4.next hb
    clear hK K
    try clear hb
    try go_frame
    refine wpAnyH_ready (rs := [13]) (by kernel_rfl) (by simp) ?_
    refine AllReadyH.cons (o := ⟨some 5, _, _, _, _, _⟩) rfl (fun K hK => ?_) AllReadyH.nil
    have hne4_5 := hS4.2.1.1
    have lo5 := hHeld12.1.size
    obtain ⟨⟨a5_z0, a5_c0, a5_f0⟩, ⟨a5_z1, a5_c1, a5_f1⟩, ⟨a5_z2, a5_c2, a5_f2⟩, ⟨a5_z3, a5_c3, a5_f3⟩, _⟩ := hHeld12.2
    (try simp at lo5); (try simp at hne4_5); (try simp at a5_z0); (try simp at a5_z1); (try simp at a5_z2); (try simp at a5_z3)
    go_simp
    refine hK.out _ _ (by first | exact hHeld12.alloc _ | exact (hHeld12.alloc _).drew) (fun hHeld13 => ?_)
    first | replace hS4 := hS4.alloc2e hHeld13 | replace hS4 := hS4.alloc2 hHeld13
    first | have hS5 := newK2 hHeld13 | have hS5 := newK2d hHeld13
    clear hK K
    try clear hb
    try go_frame
    generalize hGWA10 : World.alloc wh (.cells #[.int .i64 0, .int .i64 0] 49) = WA10 at *
    clear hGWA10
    refine wpAnyH_ready (rs := [14]) (by kernel_rfl) (by simp) ?_
    refine AllReadyH.cons (o := ⟨none, _, _, _, _, _⟩) rfl (fun K hK => ?_) AllReadyH.nil
    obtain ⟨⟨s4z0, s4c0, s4f0⟩, ⟨s4z1, s4c1, s4f1⟩, _⟩ := hS4.2
    go_simp
    refine hK.out _ _ (by (repeat (first | (with_reducible exact hHeld13) | (refine Keeps.set ?_ (by simp <;> omega) (by simp <;> omega) _)))) (fun hHeld14 => ?_)
    replace hS5 := hS5.mv2 hHeld14 (by first | omega | (simp <;> omega)) (by simp <;> omega)
    replace hS4 := hHeld14.add2 s4z0 s4c0 s4f0 s4c1 s4f1
    clear s4z0 s4c0 s4f0 s4z1 s4c1 s4f1
    clear hK K
    try clear hb
    try go_frame
    generalize hGWA11 : World.setCell (World.setCell WA10 ⟨wl.heap.size, 0, none⟩ (.int .i64 p)) ⟨wl.heap.size, 1, none⟩ (.int .i64 q) = WA11 at *
    clear hGWA11
    refine wpAnyH_ready (rs := [15]) (by kernel_rfl) (by simp) ?_
    refine AllReadyH.cons (o := ⟨none, _, _, _, _, _⟩) rfl (fun K hK => ?_) AllReadyH.nil
    obtain ⟨⟨s5z0, s5c0, s5f0⟩, ⟨s5z1, s5c1, s5f1⟩, _⟩ := hS5.2
    go_simp
    refine hK.out _ _ (by (repeat (first | (with_reducible exact hHeld14) | (refine Keeps.set ?_ (by simp <;> omega) (by simp <;> omega) _)))) (fun hHeld15 => ?_)
    replace hS4 := hS4.mv2 hHeld15 (by first | omega | (simp <;> omega)) (by simp <;> omega)
    replace hS5 := hHeld15.add2 s5z0 s5c0 s5f0 s5c1 s5f1
    clear s5z0 s5c0 s5f0 s5z1 s5c1 s5f1
    clear hK K
    try clear hb
    try go_frame
    generalize hGWA12 : World.setCell (World.setCell WA11 ⟨wh.heap.size, 0, none⟩ (.int .i64 r)) ⟨wh.heap.size, 1, none⟩ (.int .i64 s) = WA12 at *
    clear hGWA12
    refine wpAnyH_done (by kernel_rfl) ?_ _
    have hHeld := hHeld15
    rotate_left 1
    refine AllReadyH.cons (o := ⟨some 5, _, _, _, _, _⟩) rfl (fun K hK => ?_) ?_
    have hne4_5 := hS4.2.1.1
    have lo5 := hHeld11.1.size
    obtain ⟨⟨a5_z0, a5_c0, a5_f0⟩, ⟨a5_z1, a5_c1, a5_f1⟩, ⟨a5_z2, a5_c2, a5_f2⟩, ⟨a5_z3, a5_c3, a5_f3⟩, _⟩ := hHeld11.2
    (try simp at lo5); (try simp at hne4_5); (try simp at a5_z0); (try simp at a5_z1); (try simp at a5_z2); (try simp at a5_z3)
    go_simp
    refine hK.out _ _ (by first | exact hHeld11.alloc _ | exact (hHeld11.alloc _).drew) (fun hHeld16 => ?_)
    first | replace hS4 := hS4.alloc2e hHeld16 | replace hS4 := hS4.alloc2 hHeld16
    first | have hS5 := newK2 hHeld16 | have hS5 := newK2d hHeld16
    clear hK K
    try clear hb
    try go_frame
    generalize hGWA13 : World.alloc WA9 (.cells #[.int .i64 0, .int .i64 0] 49) = WA13 at *
    clear hGWA13
    refine wpAnyH_ready (rs := [11]) (by kernel_rfl) (by simp) ?_
    refine AllReadyH.cons (o := ⟨some 20, _, _, _, _, _⟩) rfl (fun K hK => ?_) AllReadyH.nil
    go_simp
    (first | ((with_reducible refine (TL.out _ (bel9 (L := [(w.heap.size, 0, .int .i64 0), (w.heap.size, 1, .int .i64 0), (w.heap.size + 1, 0, .int .i64 0), (w.heap.size + 1, 1, .int .i64 0)]) (by assumption))).mono ?_); rintro e wl ⟨rfl, hb⟩) | ((with_reducible refine (TH.out _ (bel9 (L := [(w.heap.size, 0, .int .i64 0), (w.heap.size, 1, .int .i64 0), (w.heap.size + 1, 0, .int .i64 0), (w.heap.size + 1, 1, .int .i64 0)]) (by assumption))).mono ?_); rintro e wh ⟨rfl, hb⟩))
    refine hK.out _ _ (hHeld16.next hb) (fun hHeld17 => ?_)
    replace hS4 := hS4.next hb
    replace hS5 := hS5.next hb
    clear hK K
    try clear hb
    try go_frame
    refine wpAnyH_ready (rs := [14]) (by kernel_rfl) (by simp) ?_
    refine AllReadyH.cons (o := ⟨none, _, _, _, _, _⟩) rfl (fun K hK => ?_) AllReadyH.nil
    obtain ⟨⟨s4z0, s4c0, s4f0⟩, ⟨s4z1, s4c1, s4f1⟩, _⟩ := hS4.2
    go_simp
    refine hK.out _ _ (by (repeat (first | (with_reducible exact hHeld17) | (refine Keeps.set ?_ (by simp <;> omega) (by simp <;> omega) _)))) (fun hHeld18 => ?_)
    replace hS5 := hS5.mv2 hHeld18 (by first | omega | (simp <;> omega)) (by simp <;> omega)
    replace hS4 := hHeld18.add2 s4z0 s4c0 s4f0 s4c1 s4f1
    clear s4z0 s4c0 s4f0 s4z1 s4c1 s4f1
    clear hK K
    try clear hb
    try go_frame
    generalize hGWA14 : World.setCell (World.setCell wh ⟨wl.heap.size, 0, none⟩ (.int .i64 p)) ⟨wl.heap.size, 1, none⟩ (.int .i64 q) = WA14 at *
    clear hGWA14
    refine wpAnyH_ready (rs := [15]) (by kernel_rfl) (by simp) ?_
    refine AllReadyH.cons (o := ⟨none, _, _, _, _, _⟩) rfl (fun K hK => ?_) AllReadyH.nil
    obtain ⟨⟨s5z0, s5c0, s5f0⟩, ⟨s5z1, s5c1, s5f1⟩, _⟩ := hS5.2
    go_simp
    refine hK.out _ _ (by (repeat (first | (with_reducible exact hHeld18) | (refine Keeps.set ?_ (by simp <;> omega) (by simp <;> omega) _)))) (fun hHeld19 => ?_)
    replace hS4 := hS4.mv2 hHeld19 (by first | omega | (simp <;> omega)) (by simp <;> omega)
    replace hS5 := hHeld19.add2 s5z0 s5c0 s5f0 s5c1 s5f1
    clear s5z0 s5c0 s5f0 s5z1 s5c1 s5f1
    clear hK K
    try clear hb
    try go_frame
    generalize hGWA15 : World.setCell (World.setCell WA14 ⟨WA9.heap.size, 0, none⟩ (.int .i64 r)) ⟨WA9.heap.size, 1, none⟩ (.int .i64 s) = WA15 at *
    clear hGWA15
    refine wpAnyH_done (by kernel_rfl) ?_ _
    have hHeld := hHeld19
    rotate_left 1
    exact AllReadyH.nil
    refine AllReadyH.cons (o := ⟨some 5, _, _, _, _, _⟩) rfl (fun K hK => ?_) ?_
    have lo5 := hHeld1.1.size
    obtain ⟨⟨a5_z0, a5_c0, a5_f0⟩, ⟨a5_z1, a5_c1, a5_f1⟩, ⟨a5_z2, a5_c2, a5_f2⟩, ⟨a5_z3, a5_c3, a5_f3⟩, _⟩ := hHeld1.2
    (try simp at lo5); (try simp at a5_z0); (try simp at a5_z1); (try simp at a5_z2); (try simp at a5_z3)
    go_simp
    refine hK.out _ _ (by first | exact hHeld1.alloc _ | exact (hHeld1.alloc _).drew) (fun hHeld20 => ?_)
    first | have hS5 := newK2 hHeld20 | have hS5 := newK2d hHeld20
    clear hK K
    try clear hb
    try go_frame
    generalize hGWA16 : World.alloc wl (.cells #[.int .i64 0, .int .i64 0] 49) = WA16 at *
    clear hGWA16
    refine wpAnyH_ready (rs := [11, 12]) (by kernel_rfl) (by simp) ?_
    refine AllReadyH.cons (o := ⟨some 20, _, _, _, _, _⟩) rfl (fun K hK => ?_) ?_
    go_simp
    (first | ((with_reducible refine (TL.out _ (bel9 (L := [(w.heap.size, 0, .int .i64 0), (w.heap.size, 1, .int .i64 0), (w.heap.size + 1, 0, .int .i64 0), (w.heap.size + 1, 1, .int .i64 0)]) (by assumption))).mono ?_); rintro e wl ⟨rfl, hb⟩) | ((with_reducible refine (TH.out _ (bel9 (L := [(w.heap.size, 0, .int .i64 0), (w.heap.size, 1, .int .i64 0), (w.heap.size + 1, 0, .int .i64 0), (w.heap.size + 1, 1, .int .i64 0)]) (by assumption))).mono ?_); rintro e wh ⟨rfl, hb⟩))
    refine hK.out _ _ (hHeld20.next hb) (fun hHeld21 => ?_)
    replace hS5 := hS5.next hb
    clear hK K
    try clear hb
    try go_frame
    refine wpAnyH_ready (rs := [12]) (by kernel_rfl) (by simp) ?_
    refine AllReadyH.cons (o := ⟨some 4, _, _, _, _, _⟩) rfl (fun K hK => ?_) AllReadyH.nil
    have hne5_4 := hS5.2.1.1
    have lo4 := hHeld21.1.size
    obtain ⟨⟨a4_z0, a4_c0, a4_f0⟩, ⟨a4_z1, a4_c1, a4_f1⟩, ⟨a4_z2, a4_c2, a4_f2⟩, ⟨a4_z3, a4_c3, a4_f3⟩, _⟩ := hHeld21.2
    (try simp at lo4); (try simp at hne5_4); (try simp at a4_z0); (try simp at a4_z1); (try simp at a4_z2); (try simp at a4_z3)
    go_simp
    refine hK.out _ _ (by first | exact hHeld21.alloc _ | exact (hHeld21.alloc _).drew) (fun hHeld22 => ?_)
    first | replace hS5 := hS5.alloc2e hHeld22 | replace hS5 := hS5.alloc2 hHeld22
    first | have hS4 := newK2 hHeld22 | have hS4 := newK2d hHeld22
    clear hK K
    try clear hb
    try go_frame
    generalize hGWA17 : World.alloc wh (.cells #[.int .i64 0, .int .i64 0] 49) = WA17 at *
    clear hGWA17
    refine wpAnyH_ready (rs := [14]) (by kernel_rfl) (by simp) ?_
    refine AllReadyH.cons (o := ⟨none, _, _, _, _, _⟩) rfl (fun K hK => ?_) AllReadyH.nil
    obtain ⟨⟨s4z0, s4c0, s4f0⟩, ⟨s4z1, s4c1, s4f1⟩, _⟩ := hS4.2
    go_simp
    refine hK.out _ _ (by (repeat (first | (with_reducible exact hHeld22) | (refine Keeps.set ?_ (by simp <;> omega) (by simp <;> omega) _)))) (fun hHeld23 => ?_)
    replace hS5 := hS5.mv2 hHeld23 (by first | omega | (simp <;> omega)) (by simp <;> omega)
    replace hS4 := hHeld23.add2 s4z0 s4c0 s4f0 s4c1 s4f1
    clear s4z0 s4c0 s4f0 s4z1 s4c1 s4f1
    clear hK K
    try clear hb
    try go_frame
    generalize hGWA18 : World.setCell (World.setCell WA17 ⟨wh.heap.size, 0, none⟩ (.int .i64 p)) ⟨wh.heap.size, 1, none⟩ (.int .i64 q) = WA18 at *
    clear hGWA18
    refine wpAnyH_ready (rs := [15]) (by kernel_rfl) (by simp) ?_
    refine AllReadyH.cons (o := ⟨none, _, _, _, _, _⟩) rfl (fun K hK => ?_) AllReadyH.nil
    obtain ⟨⟨s5z0, s5c0, s5f0⟩, ⟨s5z1, s5c1, s5f1⟩, _⟩ := hS5.2
    go_simp
    refine hK.out _ _ (by (repeat (first | (with_reducible exact hHeld23) | (refine Keeps.set ?_ (by simp <;> omega) (by simp <;> omega) _)))) (fun hHeld24 => ?_)
    replace hS4 := hS4.mv2 hHeld24 (by first | omega | (simp <;> omega)) (by simp <;> omega)
    replace hS5 := hHeld24.add2 s5z0 s5c0 s5f0 s5c1 s5f1
    clear s5z0 s5c0 s5f0 s5z1 s5c1 s5f1
    clear hK K
    try clear hb
    try go_frame
    generalize hGWA19 : World.setCell (World.setCell WA18 ⟨wl.heap.size, 0, none⟩ (.int .i64 r)) ⟨wl.heap.size, 1, none⟩ (.int .i64 s) = WA19 at *
    clear hGWA19
    refine wpAnyH_done (by kernel_rfl) ?_ _
    have hHeld := hHeld24
    rotate_left 1
    refine AllReadyH.cons (o := ⟨some 4, _, _, _, _, _⟩) rfl (fun K hK => ?_) ?_
    have hne5_4 := hS5.2.1.1
    have lo4 := hHeld20.1.size
    obtain ⟨⟨a4_z0, a4_c0, a4_f0⟩, ⟨a4_z1, a4_c1, a4_f1⟩, ⟨a4_z2, a4_c2, a4_f2⟩, ⟨a4_z3, a4_c3, a4_f3⟩, _⟩ := hHeld20.2
    (try simp at lo4); (try simp at hne5_4); (try simp at a4_z0); (try simp at a4_z1); (try simp at a4_z2); (try simp at a4_z3)
    go_simp
    refine hK.out _ _ (by first | exact hHeld20.alloc _ | exact (hHeld20.alloc _).drew) (fun hHeld25 => ?_)
    first | replace hS5 := hS5.alloc2e hHeld25 | replace hS5 := hS5.alloc2 hHeld25
    first | have hS4 := newK2 hHeld25 | have hS4 := newK2d hHeld25
    clear hK K
    try clear hb
    try go_frame
    generalize hGWA20 : World.alloc WA16 (.cells #[.int .i64 0, .int .i64 0] 49) = WA20 at *
    clear hGWA20
    refine wpAnyH_ready (rs := [11]) (by kernel_rfl) (by simp) ?_
    refine AllReadyH.cons (o := ⟨some 20, _, _, _, _, _⟩) rfl (fun K hK => ?_) AllReadyH.nil
    go_simp
    (first | ((with_reducible refine (TL.out _ (bel9 (L := [(w.heap.size, 0, .int .i64 0), (w.heap.size, 1, .int .i64 0), (w.heap.size + 1, 0, .int .i64 0), (w.heap.size + 1, 1, .int .i64 0)]) (by assumption))).mono ?_); rintro e wl ⟨rfl, hb⟩) | ((with_reducible refine (TH.out _ (bel9 (L := [(w.heap.size, 0, .int .i64 0), (w.heap.size, 1, .int .i64 0), (w.heap.size + 1, 0, .int .i64 0), (w.heap.size + 1, 1, .int .i64 0)]) (by assumption))).mono ?_); rintro e wh ⟨rfl, hb⟩))
    refine hK.out _ _ (hHeld25.next hb) (fun hHeld26 => ?_)
    replace hS5 := hS5.next hb
    replace hS4 := hS4.next hb
    clear hK K
    try clear hb
    try go_frame
    refine wpAnyH_ready (rs := [14]) (by kernel_rfl) (by simp) ?_
    refine AllReadyH.cons (o := ⟨none, _, _, _, _, _⟩) rfl (fun K hK => ?_) AllReadyH.nil
    obtain ⟨⟨s4z0, s4c0, s4f0⟩, ⟨s4z1, s4c1, s4f1⟩, _⟩ := hS4.2
    go_simp
    refine hK.out _ _ (by (repeat (first | (with_reducible exact hHeld26) | (refine Keeps.set ?_ (by simp <;> omega) (by simp <;> omega) _)))) (fun hHeld27 => ?_)
    replace hS5 := hS5.mv2 hHeld27 (by first | omega | (simp <;> omega)) (by simp <;> omega)
    replace hS4 := hHeld27.add2 s4z0 s4c0 s4f0 s4c1 s4f1
    clear s4z0 s4c0 s4f0 s4z1 s4c1 s4f1
    clear hK K
    try clear hb
    try go_frame
    generalize hGWA21 : World.setCell (World.setCell wh ⟨WA16.heap.size, 0, none⟩ (.int .i64 p)) ⟨WA16.heap.size, 1, none⟩ (.int .i64 q) = WA21 at *
    clear hGWA21
    refine wpAnyH_ready (rs := [15]) (by kernel_rfl) (by simp) ?_
    refine AllReadyH.cons (o := ⟨none, _, _, _, _, _⟩) rfl (fun K hK => ?_) AllReadyH.nil
    obtain ⟨⟨s5z0, s5c0, s5f0⟩, ⟨s5z1, s5c1, s5f1⟩, _⟩ := hS5.2
    go_simp
    refine hK.out _ _ (by (repeat (first | (with_reducible exact hHeld27) | (refine Keeps.set ?_ (by simp <;> omega) (by simp <;> omega) _)))) (fun hHeld28 => ?_)
    replace hS4 := hS4.mv2 hHeld28 (by first | omega | (simp <;> omega)) (by simp <;> omega)
    replace hS5 := hHeld28.add2 s5z0 s5c0 s5f0 s5c1 s5f1
    clear s5z0 s5c0 s5f0 s5z1 s5c1 s5f1
    clear hK K
    try clear hb
    try go_frame
    generalize hGWA22 : World.setCell (World.setCell WA21 ⟨wl.heap.size, 0, none⟩ (.int .i64 r)) ⟨wl.heap.size, 1, none⟩ (.int .i64 s) = WA22 at *
    clear hGWA22
    refine wpAnyH_done (by kernel_rfl) ?_ _
    have hHeld := hHeld28
    rotate_left 1
    exact AllReadyH.nil
    exact AllReadyH.nil
    refine AllReadyH.cons (o := ⟨some 4, _, _, _, _, _⟩) rfl (fun K hK => ?_) ?_
    have lo4 := hHeld0.1.size
    obtain ⟨⟨a4_z0, a4_c0, a4_f0⟩, ⟨a4_z1, a4_c1, a4_f1⟩, ⟨a4_z2, a4_c2, a4_f2⟩, ⟨a4_z3, a4_c3, a4_f3⟩, _⟩ := hHeld0.2
    (try simp at lo4); (try simp at a4_z0); (try simp at a4_z1); (try simp at a4_z2); (try simp at a4_z3)
    go_simp
    refine hK.out _ _ (by first | exact hHeld0.alloc _ | exact (hHeld0.alloc _).drew) (fun hHeld29 => ?_)
    first | have hS4 := newK2 hHeld29 | have hS4 := newK2d hHeld29
    clear hK K
    try clear hb
    try go_frame
    generalize hGWA23 : World.alloc wi (.cells #[.int .i64 0, .int .i64 0] 49) = WA23 at *
    clear hGWA23
    refine wpAnyH_ready (rs := [5, 13]) (by kernel_rfl) (by simp) ?_
    refine AllReadyH.cons (o := ⟨some 14, _, _, _, _, _⟩) rfl (fun K hK => ?_) ?_
    go_simp
    (first | ((with_reducible refine (TL.out _ (bel9 (L := [(w.heap.size, 0, .int .i64 0), (w.heap.size, 1, .int .i64 0), (w.heap.size + 1, 0, .int .i64 0), (w.heap.size + 1, 1, .int .i64 0)]) (by assumption))).mono ?_); rintro e wl ⟨rfl, hb⟩) | ((with_reducible refine (TH.out _ (bel9 (L := [(w.heap.size, 0, .int .i64 0), (w.heap.size, 1, .int .i64 0), (w.heap.size + 1, 0, .int .i64 0), (w.heap.size + 1, 1, .int .i64 0)]) (by assumption))).mono ?_); rintro e wh ⟨rfl, hb⟩))
    refine hK.out _ _ (hHeld29.next hb) (fun hHeld30 => ?_)
    replace hS4 := hS4.next hb
    clear hK K
    try clear hb
    try go_frame
    refine wpAnyH_ready (rs := [11, 13]) (by kernel_rfl) (by simp) ?_
    refine AllReadyH.cons (o := ⟨some 20, _, _, _, _, _⟩) rfl (fun K hK => ?_) ?_
    go_simp
    (first | ((with_reducible refine (TL.out _ (bel9 (L := [(w.heap.size, 0, .int .i64 0), (w.heap.size, 1, .int .i64 0), (w.heap.size + 1, 0, .int .i64 0), (w.heap.size + 1, 1, .int .i64 0)]) (by assumption))).mono ?_); rintro e wl ⟨rfl, hb⟩) | ((with_reducible refine (TH.out _ (bel9 (L := [(w.heap.size, 0, .int .i64 0), (w.heap.size, 1, .int .i64 0), (w.heap.size + 1, 0, .int .i64 0), (w.heap.size + 1, 1, .int .i64 0)]) (by assumption))).mono ?_); rintro e wh ⟨rfl, hb⟩))
    refine hK.out _ _ (hHeld30.next hb) (fun hHeld31 => ?_)
    replace hS4 := hS4.next hb
    clear hK K
    try clear hb
    try go_frame
    refine wpAnyH_ready (rs := [13]) (by kernel_rfl) (by simp) ?_
    refine AllReadyH.cons (o := ⟨some 5, _, _, _, _, _⟩) rfl (fun K hK => ?_) AllReadyH.nil
    have hne4_5 := hS4.2.1.1
    have lo5 := hHeld31.1.size
    obtain ⟨⟨a5_z0, a5_c0, a5_f0⟩, ⟨a5_z1, a5_c1, a5_f1⟩, ⟨a5_z2, a5_c2, a5_f2⟩, ⟨a5_z3, a5_c3, a5_f3⟩, _⟩ := hHeld31.2
    (try simp at lo5); (try simp at hne4_5); (try simp at a5_z0); (try simp at a5_z1); (try simp at a5_z2); (try simp at a5_z3)
    go_simp
    refine hK.out _ _ (by first | exact hHeld31.alloc _ | exact (hHeld31.alloc _).drew) (fun hHeld32 => ?_)
    first | replace hS4 := hS4.alloc2e hHeld32 | replace hS4 := hS4.alloc2 hHeld32
    first | have hS5 := newK2 hHeld32 | have hS5 := newK2d hHeld32
    clear hK K
    try clear hb
    try go_frame
    generalize hGWA24 : World.alloc wh (.cells #[.int .i64 0, .int .i64 0] 49) = WA24 at *
    clear hGWA24
    refine wpAnyH_ready (rs := [14]) (by kernel_rfl) (by simp) ?_
    refine AllReadyH.cons (o := ⟨none, _, _, _, _, _⟩) rfl (fun K hK => ?_) AllReadyH.nil
    obtain ⟨⟨s4z0, s4c0, s4f0⟩, ⟨s4z1, s4c1, s4f1⟩, _⟩ := hS4.2
    go_simp
    refine hK.out _ _ (by (repeat (first | (with_reducible exact hHeld32) | (refine Keeps.set ?_ (by simp <;> omega) (by simp <;> omega) _)))) (fun hHeld33 => ?_)
    replace hS5 := hS5.mv2 hHeld33 (by first | omega | (simp <;> omega)) (by simp <;> omega)
    replace hS4 := hHeld33.add2 s4z0 s4c0 s4f0 s4c1 s4f1
    clear s4z0 s4c0 s4f0 s4z1 s4c1 s4f1
    clear hK K
    try clear hb
    try go_frame
    generalize hGWA25 : World.setCell (World.setCell WA24 ⟨wi.heap.size, 0, none⟩ (.int .i64 p)) ⟨wi.heap.size, 1, none⟩ (.int .i64 q) = WA25 at *
    clear hGWA25
    refine wpAnyH_ready (rs := [15]) (by kernel_rfl) (by simp) ?_
    refine AllReadyH.cons (o := ⟨none, _, _, _, _, _⟩) rfl (fun K hK => ?_) AllReadyH.nil
    obtain ⟨⟨s5z0, s5c0, s5f0⟩, ⟨s5z1, s5c1, s5f1⟩, _⟩ := hS5.2
    go_simp
    refine hK.out _ _ (by (repeat (first | (with_reducible exact hHeld33) | (refine Keeps.set ?_ (by simp <;> omega) (by simp <;> omega) _)))) (fun hHeld34 => ?_)
    replace hS4 := hS4.mv2 hHeld34 (by first | omega | (simp <;> omega)) (by simp <;> omega)
    replace hS5 := hHeld34.add2 s5z0 s5c0 s5f0 s5c1 s5f1
    clear s5z0 s5c0 s5f0 s5z1 s5c1 s5f1
    clear hK K
    try clear hb
    try go_frame
    generalize hGWA26 : World.setCell (World.setCell WA25 ⟨wh.heap.size, 0, none⟩ (.int .i64 r)) ⟨wh.heap.size, 1, none⟩ (.int .i64 s) = WA26 at *
    clear hGWA26
    refine wpAnyH_done (by kernel_rfl) ?_ _
    have hHeld := hHeld34
    rotate_left 1
    refine AllReadyH.cons (o := ⟨some 5, _, _, _, _, _⟩) rfl (fun K hK => ?_) ?_
    have hne4_5 := hS4.2.1.1
    have lo5 := hHeld30.1.size
    obtain ⟨⟨a5_z0, a5_c0, a5_f0⟩, ⟨a5_z1, a5_c1, a5_f1⟩, ⟨a5_z2, a5_c2, a5_f2⟩, ⟨a5_z3, a5_c3, a5_f3⟩, _⟩ := hHeld30.2
    (try simp at lo5); (try simp at hne4_5); (try simp at a5_z0); (try simp at a5_z1); (try simp at a5_z2); (try simp at a5_z3)
    go_simp
    refine hK.out _ _ (by first | exact hHeld30.alloc _ | exact (hHeld30.alloc _).drew) (fun hHeld35 => ?_)
    first | replace hS4 := hS4.alloc2e hHeld35 | replace hS4 := hS4.alloc2 hHeld35
    first | have hS5 := newK2 hHeld35 | have hS5 := newK2d hHeld35
    clear hK K
    try clear hb
    try go_frame
    generalize hGWA27 : World.alloc wl (.cells #[.int .i64 0, .int .i64 0] 49) = WA27 at *
    clear hGWA27
    refine wpAnyH_ready (rs := [11]) (by kernel_rfl) (by simp) ?_
    refine AllReadyH.cons (o := ⟨some 20, _, _, _, _, _⟩) rfl (fun K hK => ?_) AllReadyH.nil
    go_simp
    (first | ((with_reducible refine (TL.out _ (bel9 (L := [(w.heap.size, 0, .int .i64 0), (w.heap.size, 1, .int .i64 0), (w.heap.size + 1, 0, .int .i64 0), (w.heap.size + 1, 1, .int .i64 0)]) (by assumption))).mono ?_); rintro e wl ⟨rfl, hb⟩) | ((with_reducible refine (TH.out _ (bel9 (L := [(w.heap.size, 0, .int .i64 0), (w.heap.size, 1, .int .i64 0), (w.heap.size + 1, 0, .int .i64 0), (w.heap.size + 1, 1, .int .i64 0)]) (by assumption))).mono ?_); rintro e wh ⟨rfl, hb⟩))
    refine hK.out _ _ (hHeld35.next hb) (fun hHeld36 => ?_)
    replace hS4 := hS4.next hb
    replace hS5 := hS5.next hb
    clear hK K
    try clear hb
    try go_frame
    refine wpAnyH_ready (rs := [14]) (by kernel_rfl) (by simp) ?_
    refine AllReadyH.cons (o := ⟨none, _, _, _, _, _⟩) rfl (fun K hK => ?_) AllReadyH.nil
    obtain ⟨⟨s4z0, s4c0, s4f0⟩, ⟨s4z1, s4c1, s4f1⟩, _⟩ := hS4.2
    go_simp
    refine hK.out _ _ (by (repeat (first | (with_reducible exact hHeld36) | (refine Keeps.set ?_ (by simp <;> omega) (by simp <;> omega) _)))) (fun hHeld37 => ?_)
    replace hS5 := hS5.mv2 hHeld37 (by first | omega | (simp <;> omega)) (by simp <;> omega)
    replace hS4 := hHeld37.add2 s4z0 s4c0 s4f0 s4c1 s4f1
    clear s4z0 s4c0 s4f0 s4z1 s4c1 s4f1
    clear hK K
    try clear hb
    try go_frame
    generalize hGWA28 : World.setCell (World.setCell wh ⟨wi.heap.size, 0, none⟩ (.int .i64 p)) ⟨wi.heap.size, 1, none⟩ (.int .i64 q) = WA28 at *
    clear hGWA28
    refine wpAnyH_ready (rs := [15]) (by kernel_rfl) (by simp) ?_
    refine AllReadyH.cons (o := ⟨none, _, _, _, _, _⟩) rfl (fun K hK => ?_) AllReadyH.nil
    obtain ⟨⟨s5z0, s5c0, s5f0⟩, ⟨s5z1, s5c1, s5f1⟩, _⟩ := hS5.2
    go_simp
    refine hK.out _ _ (by (repeat (first | (with_reducible exact hHeld37) | (refine Keeps.set ?_ (by simp <;> omega) (by simp <;> omega) _)))) (fun hHeld38 => ?_)
    replace hS4 := hS4.mv2 hHeld38 (by first | omega | (simp <;> omega)) (by simp <;> omega)
    replace hS5 := hHeld38.add2 s5z0 s5c0 s5f0 s5c1 s5f1
    clear s5z0 s5c0 s5f0 s5z1 s5c1 s5f1
    clear hK K
    try clear hb
    try go_frame
    generalize hGWA29 : World.setCell (World.setCell WA28 ⟨wl.heap.size, 0, none⟩ (.int .i64 r)) ⟨wl.heap.size, 1, none⟩ (.int .i64 s) = WA29 at *
    clear hGWA29
    refine wpAnyH_done (by kernel_rfl) ?_ _
    have hHeld := hHeld38
    rotate_left 1
    exact AllReadyH.nil
    refine AllReadyH.cons (o := ⟨some 5, _, _, _, _, _⟩) rfl (fun K hK => ?_) ?_
    have hne4_5 := hS4.2.1.1
    have lo5 := hHeld29.1.size
    obtain ⟨⟨a5_z0, a5_c0, a5_f0⟩, ⟨a5_z1, a5_c1, a5_f1⟩, ⟨a5_z2, a5_c2, a5_f2⟩, ⟨a5_z3, a5_c3, a5_f3⟩, _⟩ := hHeld29.2
    (try simp at lo5); (try simp at hne4_5); (try simp at a5_z0); (try simp at a5_z1); (try simp at a5_z2); (try simp at a5_z3)
    go_simp
    refine hK.out _ _ (by first | exact hHeld29.alloc _ | exact (hHeld29.alloc _).drew) (fun hHeld39 => ?_)
    first | replace hS4 := hS4.alloc2e hHeld39 | replace hS4 := hS4.alloc2 hHeld39
    first | have hS5 := newK2 hHeld39 | have hS5 := newK2d hHeld39
    clear hK K
    try clear hb
    try go_frame
    generalize hGWA30 : World.alloc WA23 (.cells #[.int .i64 0, .int .i64 0] 49) = WA30 at *
    clear hGWA30
    refine wpAnyH_ready (rs := [5]) (by kernel_rfl) (by simp) ?_
    refine AllReadyH.cons (o := ⟨some 14, _, _, _, _, _⟩) rfl (fun K hK => ?_) AllReadyH.nil
    go_simp
    (first | ((with_reducible refine (TL.out _ (bel9 (L := [(w.heap.size, 0, .int .i64 0), (w.heap.size, 1, .int .i64 0), (w.heap.size + 1, 0, .int .i64 0), (w.heap.size + 1, 1, .int .i64 0)]) (by assumption))).mono ?_); rintro e wl ⟨rfl, hb⟩) | ((with_reducible refine (TH.out _ (bel9 (L := [(w.heap.size, 0, .int .i64 0), (w.heap.size, 1, .int .i64 0), (w.heap.size + 1, 0, .int .i64 0), (w.heap.size + 1, 1, .int .i64 0)]) (by assumption))).mono ?_); rintro e wh ⟨rfl, hb⟩))
    refine hK.out _ _ (hHeld39.next hb) (fun hHeld40 => ?_)
    replace hS4 := hS4.next hb
    replace hS5 := hS5.next hb
    clear hK K
    try clear hb
    try go_frame
    refine wpAnyH_ready (rs := [11]) (by kernel_rfl) (by simp) ?_
    refine AllReadyH.cons (o := ⟨some 20, _, _, _, _, _⟩) rfl (fun K hK => ?_) AllReadyH.nil
    go_simp
    (first | ((with_reducible refine (TL.out _ (bel9 (L := [(w.heap.size, 0, .int .i64 0), (w.heap.size, 1, .int .i64 0), (w.heap.size + 1, 0, .int .i64 0), (w.heap.size + 1, 1, .int .i64 0)]) (by assumption))).mono ?_); rintro e wl ⟨rfl, hb⟩) | ((with_reducible refine (TH.out _ (bel9 (L := [(w.heap.size, 0, .int .i64 0), (w.heap.size, 1, .int .i64 0), (w.heap.size + 1, 0, .int .i64 0), (w.heap.size + 1, 1, .int .i64 0)]) (by assumption))).mono ?_); rintro e wh ⟨rfl, hb⟩))
    refine hK.out _ _ (hHeld40.next hb) (fun hHeld41 => ?_)
    replace hS4 := hS4.next hb
    replace hS5 := hS5.next hb
    clear hK K
    try clear hb
    try go_frame
    refine wpAnyH_ready (rs := [14]) (by kernel_rfl) (by simp) ?_
    refine AllReadyH.cons (o := ⟨none, _, _, _, _, _⟩) rfl (fun K hK => ?_) AllReadyH.nil
    obtain ⟨⟨s4z0, s4c0, s4f0⟩, ⟨s4z1, s4c1, s4f1⟩, _⟩ := hS4.2
    go_simp
    refine hK.out _ _ (by (repeat (first | (with_reducible exact hHeld41) | (refine Keeps.set ?_ (by simp <;> omega) (by simp <;> omega) _)))) (fun hHeld42 => ?_)
    replace hS5 := hS5.mv2 hHeld42 (by first | omega | (simp <;> omega)) (by simp <;> omega)
    replace hS4 := hHeld42.add2 s4z0 s4c0 s4f0 s4c1 s4f1
    clear s4z0 s4c0 s4f0 s4z1 s4c1 s4f1
    clear hK K
    try clear hb
    try go_frame
    generalize hGWA31 : World.setCell (World.setCell wh ⟨wi.heap.size, 0, none⟩ (.int .i64 p)) ⟨wi.heap.size, 1, none⟩ (.int .i64 q) = WA31 at *
    clear hGWA31
    refine wpAnyH_ready (rs := [15]) (by kernel_rfl) (by simp) ?_
    refine AllReadyH.cons (o := ⟨none, _, _, _, _, _⟩) rfl (fun K hK => ?_) AllReadyH.nil
    obtain ⟨⟨s5z0, s5c0, s5f0⟩, ⟨s5z1, s5c1, s5f1⟩, _⟩ := hS5.2
    go_simp
    refine hK.out _ _ (by (repeat (first | (with_reducible exact hHeld42) | (refine Keeps.set ?_ (by simp <;> omega) (by simp <;> omega) _)))) (fun hHeld43 => ?_)
    replace hS4 := hS4.mv2 hHeld43 (by first | omega | (simp <;> omega)) (by simp <;> omega)
    replace hS5 := hHeld43.add2 s5z0 s5c0 s5f0 s5c1 s5f1
    clear s5z0 s5c0 s5f0 s5z1 s5c1 s5f1
    clear hK K
    try clear hb
    try go_frame
    generalize hGWA32 : World.setCell (World.setCell WA31 ⟨WA23.heap.size, 0, none⟩ (.int .i64 r)) ⟨WA23.heap.size, 1, none⟩ (.int .i64 s) = WA32 at *
    clear hGWA32
    refine wpAnyH_done (by kernel_rfl) ?_ _
    have hHeld := hHeld43
    rotate_left 1
    exact AllReadyH.nil
    refine AllReadyH.cons (o := ⟨some 5, _, _, _, _, _⟩) rfl (fun K hK => ?_) ?_
    have lo5 := hHeld0.1.size
    obtain ⟨⟨a5_z0, a5_c0, a5_f0⟩, ⟨a5_z1, a5_c1, a5_f1⟩, ⟨a5_z2, a5_c2, a5_f2⟩, ⟨a5_z3, a5_c3, a5_f3⟩, _⟩ := hHeld0.2
    (try simp at lo5); (try simp at a5_z0); (try simp at a5_z1); (try simp at a5_z2); (try simp at a5_z3)
    go_simp
    refine hK.out _ _ (by first | exact hHeld0.alloc _ | exact (hHeld0.alloc _).drew) (fun hHeld44 => ?_)
    first | have hS5 := newK2 hHeld44 | have hS5 := newK2d hHeld44
    clear hK K
    try clear hb
    try go_frame
    generalize hGWA33 : World.alloc wi (.cells #[.int .i64 0, .int .i64 0] 49) = WA33 at *
    clear hGWA33
    refine wpAnyH_ready (rs := [5, 12]) (by kernel_rfl) (by simp) ?_
    refine AllReadyH.cons (o := ⟨some 14, _, _, _, _, _⟩) rfl (fun K hK => ?_) ?_
    go_simp
    (first | ((with_reducible refine (TL.out _ (bel9 (L := [(w.heap.size, 0, .int .i64 0), (w.heap.size, 1, .int .i64 0), (w.heap.size + 1, 0, .int .i64 0), (w.heap.size + 1, 1, .int .i64 0)]) (by assumption))).mono ?_); rintro e wl ⟨rfl, hb⟩) | ((with_reducible refine (TH.out _ (bel9 (L := [(w.heap.size, 0, .int .i64 0), (w.heap.size, 1, .int .i64 0), (w.heap.size + 1, 0, .int .i64 0), (w.heap.size + 1, 1, .int .i64 0)]) (by assumption))).mono ?_); rintro e wh ⟨rfl, hb⟩))
    refine hK.out _ _ (hHeld44.next hb) (fun hHeld45 => ?_)
    replace hS5 := hS5.next hb
    clear hK K
    try clear hb
    try go_frame
    refine wpAnyH_ready (rs := [11, 12]) (by kernel_rfl) (by simp) ?_
    refine AllReadyH.cons (o := ⟨some 20, _, _, _, _, _⟩) rfl (fun K hK => ?_) ?_
    go_simp
    (first | ((with_reducible refine (TL.out _ (bel9 (L := [(w.heap.size, 0, .int .i64 0), (w.heap.size, 1, .int .i64 0), (w.heap.size + 1, 0, .int .i64 0), (w.heap.size + 1, 1, .int .i64 0)]) (by assumption))).mono ?_); rintro e wl ⟨rfl, hb⟩) | ((with_reducible refine (TH.out _ (bel9 (L := [(w.heap.size, 0, .int .i64 0), (w.heap.size, 1, .int .i64 0), (w.heap.size + 1, 0, .int .i64 0), (w.heap.size + 1, 1, .int .i64 0)]) (by assumption))).mono ?_); rintro e wh ⟨rfl, hb⟩))
    refine hK.out _ _ (hHeld45.next hb) (fun hHeld46 => ?_)
    replace hS5 := hS5.next hb
    clear hK K
    try clear hb
    try go_frame
    refine wpAnyH_ready (rs := [12]) (by kernel_rfl) (by simp) ?_
    refine AllReadyH.cons (o := ⟨some 4, _, _, _, _, _⟩) rfl (fun K hK => ?_) AllReadyH.nil
    have hne5_4 := hS5.2.1.1
    have lo4 := hHeld46.1.size
    obtain ⟨⟨a4_z0, a4_c0, a4_f0⟩, ⟨a4_z1, a4_c1, a4_f1⟩, ⟨a4_z2, a4_c2, a4_f2⟩, ⟨a4_z3, a4_c3, a4_f3⟩, _⟩ := hHeld46.2
    (try simp at lo4); (try simp at hne5_4); (try simp at a4_z0); (try simp at a4_z1); (try simp at a4_z2); (try simp at a4_z3)
    go_simp
    refine hK.out _ _ (by first | exact hHeld46.alloc _ | exact (hHeld46.alloc _).drew) (fun hHeld47 => ?_)
    first | replace hS5 := hS5.alloc2e hHeld47 | replace hS5 := hS5.alloc2 hHeld47
    first | have hS4 := newK2 hHeld47 | have hS4 := newK2d hHeld47
    clear hK K
    try clear hb
    try go_frame
    generalize hGWA34 : World.alloc wh (.cells #[.int .i64 0, .int .i64 0] 49) = WA34 at *
    clear hGWA34
    refine wpAnyH_ready (rs := [14]) (by kernel_rfl) (by simp) ?_
    refine AllReadyH.cons (o := ⟨none, _, _, _, _, _⟩) rfl (fun K hK => ?_) AllReadyH.nil
    obtain ⟨⟨s4z0, s4c0, s4f0⟩, ⟨s4z1, s4c1, s4f1⟩, _⟩ := hS4.2
    go_simp
    refine hK.out _ _ (by (repeat (first | (with_reducible exact hHeld47) | (refine Keeps.set ?_ (by simp <;> omega) (by simp <;> omega) _)))) (fun hHeld48 => ?_)
    replace hS5 := hS5.mv2 hHeld48 (by first | omega | (simp <;> omega)) (by simp <;> omega)
    replace hS4 := hHeld48.add2 s4z0 s4c0 s4f0 s4c1 s4f1
    clear s4z0 s4c0 s4f0 s4z1 s4c1 s4f1
    clear hK K
    try clear hb
    try go_frame
    generalize hGWA35 : World.setCell (World.setCell WA34 ⟨wh.heap.size, 0, none⟩ (.int .i64 p)) ⟨wh.heap.size, 1, none⟩ (.int .i64 q) = WA35 at *
    clear hGWA35
    refine wpAnyH_ready (rs := [15]) (by kernel_rfl) (by simp) ?_
    refine AllReadyH.cons (o := ⟨none, _, _, _, _, _⟩) rfl (fun K hK => ?_) AllReadyH.nil
    obtain ⟨⟨s5z0, s5c0, s5f0⟩, ⟨s5z1, s5c1, s5f1⟩, _⟩ := hS5.2
    go_simp
    refine hK.out _ _ (by (repeat (first | (with_reducible exact hHeld48) | (refine Keeps.set ?_ (by simp <;> omega) (by simp <;> omega) _)))) (fun hHeld49 => ?_)
    replace hS4 := hS4.mv2 hHeld49 (by first | omega | (simp <;> omega)) (by simp <;> omega)
    replace hS5 := hHeld49.add2 s5z0 s5c0 s5f0 s5c1 s5f1
    clear s5z0 s5c0 s5f0 s5z1 s5c1 s5f1
    clear hK K
    try clear hb
    try go_frame
    generalize hGWA36 : World.setCell (World.setCell WA35 ⟨wi.heap.size, 0, none⟩ (.int .i64 r)) ⟨wi.heap.size, 1, none⟩ (.int .i64 s) = WA36 at *
    clear hGWA36
    refine wpAnyH_done (by kernel_rfl) ?_ _
    have hHeld := hHeld49
    rotate_left 1
    refine AllReadyH.cons (o := ⟨some 4, _, _, _, _, _⟩) rfl (fun K hK => ?_) ?_
    have hne5_4 := hS5.2.1.1
    have lo4 := hHeld45.1.size
    obtain ⟨⟨a4_z0, a4_c0, a4_f0⟩, ⟨a4_z1, a4_c1, a4_f1⟩, ⟨a4_z2, a4_c2, a4_f2⟩, ⟨a4_z3, a4_c3, a4_f3⟩, _⟩ := hHeld45.2
    (try simp at lo4); (try simp at hne5_4); (try simp at a4_z0); (try simp at a4_z1); (try simp at a4_z2); (try simp at a4_z3)
    go_simp
    refine hK.out _ _ (by first | exact hHeld45.alloc _ | exact (hHeld45.alloc _).drew) (fun hHeld50 => ?_)
    first | replace hS5 := hS5.alloc2e hHeld50 | replace hS5 := hS5.alloc2 hHeld50
    first | have hS4 := newK2 hHeld50 | have hS4 := newK2d hHeld50
    clear hK K
    try clear hb
    try go_frame
    generalize hGWA37 : World.alloc wl (.cells #[.int .i64 0, .int .i64 0] 49) = WA37 at *
    clear hGWA37
    refine wpAnyH_ready (rs := [11]) (by kernel_rfl) (by simp) ?_
    refine AllReadyH.cons (o := ⟨some 20, _, _, _, _, _⟩) rfl (fun K hK => ?_) AllReadyH.nil
    go_simp
    (first | ((with_reducible refine (TL.out _ (bel9 (L := [(w.heap.size, 0, .int .i64 0), (w.heap.size, 1, .int .i64 0), (w.heap.size + 1, 0, .int .i64 0), (w.heap.size + 1, 1, .int .i64 0)]) (by assumption))).mono ?_); rintro e wl ⟨rfl, hb⟩) | ((with_reducible refine (TH.out _ (bel9 (L := [(w.heap.size, 0, .int .i64 0), (w.heap.size, 1, .int .i64 0), (w.heap.size + 1, 0, .int .i64 0), (w.heap.size + 1, 1, .int .i64 0)]) (by assumption))).mono ?_); rintro e wh ⟨rfl, hb⟩))
    refine hK.out _ _ (hHeld50.next hb) (fun hHeld51 => ?_)
    replace hS5 := hS5.next hb
    replace hS4 := hS4.next hb
    clear hK K
    try clear hb
    try go_frame
    refine wpAnyH_ready (rs := [14]) (by kernel_rfl) (by simp) ?_
    refine AllReadyH.cons (o := ⟨none, _, _, _, _, _⟩) rfl (fun K hK => ?_) AllReadyH.nil
    obtain ⟨⟨s4z0, s4c0, s4f0⟩, ⟨s4z1, s4c1, s4f1⟩, _⟩ := hS4.2
    go_simp
    refine hK.out _ _ (by (repeat (first | (with_reducible exact hHeld51) | (refine Keeps.set ?_ (by simp <;> omega) (by simp <;> omega) _)))) (fun hHeld52 => ?_)
    replace hS5 := hS5.mv2 hHeld52 (by first | omega | (simp <;> omega)) (by simp <;> omega)
    replace hS4 := hHeld52.add2 s4z0 s4c0 s4f0 s4c1 s4f1
    clear s4z0 s4c0 s4f0 s4z1 s4c1 s4f1
    clear hK K
    try clear hb
    try go_frame
    generalize hGWA38 : World.setCell (World.setCell wh ⟨wl.heap.size, 0, none⟩ (.int .i64 p)) ⟨wl.heap.size, 1, none⟩ (.int .i64 q) = WA38 at *
    clear hGWA38
    refine wpAnyH_ready (rs := [15]) (by kernel_rfl) (by simp) ?_
    refine AllReadyH.cons (o := ⟨none, _, _, _, _, _⟩) rfl (fun K hK => ?_) AllReadyH.nil
    obtain ⟨⟨s5z0, s5c0, s5f0⟩, ⟨s5z1, s5c1, s5f1⟩, _⟩ := hS5.2
    go_simp
    refine hK.out _ _ (by (repeat (first | (with_reducible exact hHeld52) | (refine Keeps.set ?_ (by simp <;> omega) (by simp <;> omega) _)))) (fun hHeld53 => ?_)
    replace hS4 := hS4.mv2 hHeld53 (by first | omega | (simp <;> omega)) (by simp <;> omega)
    replace hS5 := hHeld53.add2 s5z0 s5c0 s5f0 s5c1 s5f1
    clear s5z0 s5c0 s5f0 s5z1 s5c1 s5f1
    clear hK K
    try clear hb
    try go_frame
    generalize hGWA39 : World.setCell (World.setCell WA38 ⟨wi.heap.size, 0, none⟩ (.int .i64 r)) ⟨wi.heap.size, 1, none⟩ (.int .i64 s) = WA39 at *
    clear hGWA39
    refine wpAnyH_done (by kernel_rfl) ?_ _
    have hHeld := hHeld53
    rotate_left 1
    exact AllReadyH.nil
    refine AllReadyH.cons (o := ⟨some 4, _, _, _, _, _⟩) rfl (fun K hK => ?_) ?_
    have hne5_4 := hS5.2.1.1
    have lo4 := hHeld44.1.size
    obtain ⟨⟨a4_z0, a4_c0, a4_f0⟩, ⟨a4_z1, a4_c1, a4_f1⟩, ⟨a4_z2, a4_c2, a4_f2⟩, ⟨a4_z3, a4_c3, a4_f3⟩, _⟩ := hHeld44.2
    (try simp at lo4); (try simp at hne5_4); (try simp at a4_z0); (try simp at a4_z1); (try simp at a4_z2); (try simp at a4_z3)
    go_simp
    refine hK.out _ _ (by first | exact hHeld44.alloc _ | exact (hHeld44.alloc _).drew) (fun hHeld54 => ?_)
    first | replace hS5 := hS5.alloc2e hHeld54 | replace hS5 := hS5.alloc2 hHeld54
    first | have hS4 := newK2 hHeld54 | have hS4 := newK2d hHeld54
    clear hK K
    try clear hb
    try go_frame
    generalize hGWA40 : World.alloc WA33 (.cells #[.int .i64 0, .int .i64 0] 49) = WA40 at *
    clear hGWA40
    refine wpAnyH_ready (rs := [5]) (by kernel_rfl) (by simp) ?_
    refine AllReadyH.cons (o := ⟨some 14, _, _, _, _, _⟩) rfl (fun K hK => ?_) AllReadyH.nil
    go_simp
    (first | ((with_reducible refine (TL.out _ (bel9 (L := [(w.heap.size, 0, .int .i64 0), (w.heap.size, 1, .int .i64 0), (w.heap.size + 1, 0, .int .i64 0), (w.heap.size + 1, 1, .int .i64 0)]) (by assumption))).mono ?_); rintro e wl ⟨rfl, hb⟩) | ((with_reducible refine (TH.out _ (bel9 (L := [(w.heap.size, 0, .int .i64 0), (w.heap.size, 1, .int .i64 0), (w.heap.size + 1, 0, .int .i64 0), (w.heap.size + 1, 1, .int .i64 0)]) (by assumption))).mono ?_); rintro e wh ⟨rfl, hb⟩))
    refine hK.out _ _ (hHeld54.next hb) (fun hHeld55 => ?_)
    replace hS5 := hS5.next hb
    replace hS4 := hS4.next hb
    clear hK K
    try clear hb
    try go_frame
    refine wpAnyH_ready (rs := [11]) (by kernel_rfl) (by simp) ?_
    refine AllReadyH.cons (o := ⟨some 20, _, _, _, _, _⟩) rfl (fun K hK => ?_) AllReadyH.nil
    go_simp
    (first | ((with_reducible refine (TL.out _ (bel9 (L := [(w.heap.size, 0, .int .i64 0), (w.heap.size, 1, .int .i64 0), (w.heap.size + 1, 0, .int .i64 0), (w.heap.size + 1, 1, .int .i64 0)]) (by assumption))).mono ?_); rintro e wl ⟨rfl, hb⟩) | ((with_reducible refine (TH.out _ (bel9 (L := [(w.heap.size, 0, .int .i64 0), (w.heap.size, 1, .int .i64 0), (w.heap.size + 1, 0, .int .i64 0), (w.heap.size + 1, 1, .int .i64 0)]) (by assumption))).mono ?_); rintro e wh ⟨rfl, hb⟩))
    refine hK.out _ _ (hHeld55.next hb) (fun hHeld56 => ?_)
    replace hS5 := hS5.next hb
    replace hS4 := hS4.next hb
    clear hK K
    try clear hb
    try go_frame
    refine wpAnyH_ready (rs := [14]) (by kernel_rfl) (by simp) ?_
    refine AllReadyH.cons (o := ⟨none, _, _, _, _, _⟩) rfl (fun K hK => ?_) AllReadyH.nil
    obtain ⟨⟨s4z0, s4c0, s4f0⟩, ⟨s4z1, s4c1, s4f1⟩, _⟩ := hS4.2
    go_simp
    refine hK.out _ _ (by (repeat (first | (with_reducible exact hHeld56) | (refine Keeps.set ?_ (by simp <;> omega) (by simp <;> omega) _)))) (fun hHeld57 => ?_)
    replace hS5 := hS5.mv2 hHeld57 (by first | omega | (simp <;> omega)) (by simp <;> omega)
    replace hS4 := hHeld57.add2 s4z0 s4c0 s4f0 s4c1 s4f1
    clear s4z0 s4c0 s4f0 s4z1 s4c1 s4f1
    clear hK K
    try clear hb
    try go_frame
    generalize hGWA41 : World.setCell (World.setCell wh ⟨WA33.heap.size, 0, none⟩ (.int .i64 p)) ⟨WA33.heap.size, 1, none⟩ (.int .i64 q) = WA41 at *
    clear hGWA41
    refine wpAnyH_ready (rs := [15]) (by kernel_rfl) (by simp) ?_
    refine AllReadyH.cons (o := ⟨none, _, _, _, _, _⟩) rfl (fun K hK => ?_) AllReadyH.nil
    obtain ⟨⟨s5z0, s5c0, s5f0⟩, ⟨s5z1, s5c1, s5f1⟩, _⟩ := hS5.2
    go_simp
    refine hK.out _ _ (by (repeat (first | (with_reducible exact hHeld57) | (refine Keeps.set ?_ (by simp <;> omega) (by simp <;> omega) _)))) (fun hHeld58 => ?_)
    replace hS4 := hS4.mv2 hHeld58 (by first | omega | (simp <;> omega)) (by simp <;> omega)
    replace hS5 := hHeld58.add2 s5z0 s5c0 s5f0 s5c1 s5f1
    clear s5z0 s5c0 s5f0 s5z1 s5c1 s5f1
    clear hK K
    try clear hb
    try go_frame
    generalize hGWA42 : World.setCell (World.setCell WA41 ⟨wi.heap.size, 0, none⟩ (.int .i64 r)) ⟨wi.heap.size, 1, none⟩ (.int .i64 s) = WA42 at *
    clear hGWA42
    refine wpAnyH_done (by kernel_rfl) ?_ _
    have hHeld := hHeld58
    rotate_left 1
    exact AllReadyH.nil
    exact AllReadyH.nil
    all_goals
      go_wp2_with fail
      go_meet
      case rel => exact ⟨_, _, rfl, rfl, by omega, by omega, by omega, hS4.1, hS4.2.1, hS4.2.2.1, hS5.2.1, hS5.2.2.1, hS4.2.2.2⟩
  case rest =>
    obtain ⟨g, g', rfl, rfl, hgg, hg1, hg2, hK⟩ := hcut
    have HG := Lib.hid (And.intro hgg (And.intro hg1 hg2))
    have HS := Lib.hid (show Keeps w [(g, 0, .int .i64 (atD b0 l 2).a), (g, 1, .int .i64 (atD b0 l 2).b), (g', 0, .int .i64 (atD b0 l 2).c), (g', 1, .int .i64 (atD b0 l 2).d), (w.heap.size, 0, .int .i64 0), (w.heap.size, 1, .int .i64 0), (w.heap.size + 1, 0, .int .i64 0), (w.heap.size + 1, 1, .int .i64 0)] wc by rw [E2.out.1, E2.out.2.1, E2.out.2.2.1, E2.out.2.2.2]; exact hK)
    clear hgg hg1 hg2 hK TL TH HP E2
    go_wp2_with fail
    go_loopw [6] (fun s6 wr => ∃ i : Nat, s6 = .int .i64 i ∧ 2 ≤ i ∧ i ≤ len ∧ Hid (Keeps w [(g, 0, .int .i64 (atD b0 l i).a), (g, 1, .int .i64 (atD b0 l i).b), (g', 0, .int .i64 (atD b0 l i).c), (g', 1, .int .i64 (atD b0 l i).d), (w.heap.size, 0, .int .i64 0), (w.heap.size, 1, .int .i64 0), (w.heap.size + 1, 0, .int .i64 0), (w.heap.size + 1, 1, .int .i64 0)] wr)) (fun s _ => len - (intOf s).toNat)
    case atStart => exact ⟨2, rfl, by omega, by omega, HS⟩
    case round =>
      obtain ⟨i, rfl, hi2, hil, hB⟩ := hrel
      clear HS
      by_cases gi : i < len
      · obtain ⟨b, hb⟩ : ∃ b, (b0 :: l)[i]? = some b := ⟨_, List.getElem?_eq_getElem (by rw [hlen.out]; exact gi)⟩
        have i1 : (i : Int) < (len : Int) := Int.ofNat_lt.2 gi
        have hbi : b ∈ b0 :: l := List.mem_of_getElem? hb
        have hbt : b0.t < b.t := HTT.out b (by
          cases hj : i with
          | zero => omega
          | succ j => rw [hj, List.getElem?_cons_succ] at hb; exact List.mem_of_getElem? hb)
        obtain ⟨_, q2, q3⟩ := band_ok (HRR.out b hbi)
        obtain ⟨⟨m1, m2, m3, m4⟩, ⟨m5, m6⟩, m7, m8⟩ := atD_less HRR.out hb hbt
        obtain ⟨_, _, eq, _, _, hp1, hp2⟩ := HK.out i _ hb
        cases eq
        have HP := Lib.hid (And.intro hp1 hp2)
        have TL := Lib.hid (fun W (hb' : Below w.heap.size w W) => refTo_any b0 l HRR.out i b hb hbt b.lo q2 _ W (HD.out.below hb'))
        have TH := Lib.hid (fun W (hb' : Below w.heap.size w W) => refTo_any b0 l HRR.out i b hb hbt b.hi q3 _ W (HD.out.below hb'))
        have LE1 := Lib.hid (fun W => refLess_any _ _ _ _ m1 m2 m5 m6 W)
        have LE2 := Lib.hid (fun W => refLess_any _ _ _ _ m7 m8 m3 m4 W)
        have MO := Lib.hid (atD_more HRR.out hb hbt)
        have HB := Lib.hid hB.out.1
        have hCc := hB.out.2
        have i2 : (0 : Int) ≤ (i : Int) := Int.natCast_nonneg i
        obtain ⟨tb, lo, hi⟩ := b
        simp only at TL TH LE1 LE2 MO HP
        generalize slN b0.t (mid b0) tb lo = p2 at *
        generalize slD b0.t (mid b0) tb lo = q2' at *
        generalize slN b0.t (mid b0) tb hi = r2 at *
        generalize slD b0.t (mid b0) tb hi = s2 at *
        generalize atD b0 l i = x at *
        clear m1 m2 m3 m4 m5 m6 m7 m8 hbi hbt q2 q3 hp1 hp2
        have hp1 := (HB.out.cell (p := ⟨bb, off + i * 3 + 1, none⟩) hbw).trans HP.out.1
        go_upto_region 5 with (fail)
        go_cut [7] (fun s7 wx => ∃ g7, s7 = .pointer (some ⟨g7, 0, none⟩) ∧ Keeps w [(g7, 0, .int .i64 p2), (g7, 1, .int .i64 q2'), (g, 0, .int .i64 x.a), (g, 1, .int .i64 x.b), (g', 0, .int .i64 x.c), (g', 1, .int .i64 x.d), (w.heap.size, 0, .int .i64 0), (w.heap.size, 1, .int .i64 0), (w.heap.size + 1, 0, .int .i64 0), (w.heap.size + 1, 1, .int .i64 0)] wx)
        case first =>
          go_wp2_with fail
          refine (TL.out _ HB.out).mono ?_
          rintro e w2 ⟨rfl, hbw2⟩
          have hN := hB.out.next hbw2
          go_wp2_with fail
          go_meet
          case rel => exact ⟨_, rfl, new_pair hN⟩
        case rest =>
          obtain ⟨g7, rfl, h7⟩ := hcut
          clear hp1
          have hgg := HG.out.1
          have hg1 := HG.out.2.1
          have hg2 := HG.out.2.2
          have hl2 := HL.out
          have i5 : IntKind.i64.wrap ((i : Int) + 1) = ((i + 1 : Nat) : Int) := by rw [IntKind.wrap_i64]; omega
          obtain ⟨⟨kz0, kc0, kf0⟩, ⟨kz1, kc1, kf1⟩, ⟨kz2, kc2, kf2⟩, ⟨kz3, kc3, kf3⟩, ⟨kz4, kc4, kf4⟩, ⟨kz5, kc5, kf5⟩, ⟨kz6, kc6, kf6⟩, ⟨kz7, kc7, kf7⟩, ⟨kz8, kc8, kf8⟩, ⟨kz9, kc9, kf9⟩, _⟩ := h7.2
          by_cases gl : x.a * q2' < p2 * x.b
          · rw [decide_eq_true gl] at LE1
            go_wp2_with fail
            refine (LE1.out _).mono ?_
            rintro e w3 ⟨rfl, hbw3⟩
            clear kz0 kc0 kf0 kz1 kc1 kf1 kz2 kc2 kf2 kz3 kc3 kf3 kz4 kc4 kf4 kz5 kc5 kf5 kz6 kc6 kf6 kz7 kc7 kf7 kz8 kc8 kf8 kz9 kc9 kf9
            have h8 := h7.next hbw3
            clear hbw3
            obtain ⟨⟨kz0, kc0, kf0⟩, ⟨kz1, kc1, kf1⟩, ⟨kz2, kc2, kf2⟩, ⟨kz3, kc3, kf3⟩, ⟨kz4, kc4, kf4⟩, ⟨kz5, kc5, kf5⟩, ⟨kz6, kc6, kf6⟩, ⟨kz7, kc7, kf7⟩, ⟨kz8, kc8, kf8⟩, ⟨kz9, kc9, kf9⟩, _⟩ := h8.2
            have h9 := set_pair (u0 := .int .i64 p2) (u1 := .int .i64 q2') (B := g) (M := [(g', 0, .int .i64 x.c), (g', 1, .int .i64 x.d), (w.heap.size, 0, .int .i64 0), (w.heap.size, 1, .int .i64 0), (w.heap.size + 1, 0, .int .i64 0), (w.heap.size + 1, 1, .int .i64 0)]) (a0 := .int .i64 x.a) (a1 := .int .i64 x.b) ⟨h8.1, h8.2.2.2⟩ (by omega) (by simp <;> omega)
            go_upto_region 8 with (fail)
            clear kz0 kc0 kf0 kz1 kc1 kf1 kz2 kc2 kf2 kz3 kc3 kf3 kz4 kc4 kf4 kz5 kc5 kf5 kz6 kc6 kf6 kz7 kc7 kf7 kz8 kc8 kf8 kz9 kc9 kf9
            have hp2 := (h9.1.cell (p := ⟨bb, off + i * 3 + 2, none⟩) hbw).trans HP.out.2
            go_cut [8] (fun s8 wx => ∃ g8, s8 = .pointer (some ⟨g8, 0, none⟩) ∧ Keeps w [(g8, 0, .int .i64 r2), (g8, 1, .int .i64 s2), (g, 0, .int .i64 p2), (g, 1, .int .i64 q2'), (g', 0, .int .i64 x.c), (g', 1, .int .i64 x.d), (w.heap.size, 0, .int .i64 0), (w.heap.size, 1, .int .i64 0), (w.heap.size + 1, 0, .int .i64 0), (w.heap.size + 1, 1, .int .i64 0)] wx)
            case first =>
              go_wp2_with fail
              refine (TH.out _ h9.1).mono ?_
              rintro e w4 ⟨rfl, hbw4⟩
              have hN4 := h9.next hbw4
              go_wp2_with fail
              go_meet
              case rel => exact ⟨_, rfl, new_pair hN4⟩
            case rest =>
              obtain ⟨g8, rfl, h11⟩ := hcut
              clear hp2
              obtain ⟨⟨kz0, kc0, kf0⟩, ⟨kz1, kc1, kf1⟩, ⟨kz2, kc2, kf2⟩, ⟨kz3, kc3, kf3⟩, ⟨kz4, kc4, kf4⟩, ⟨kz5, kc5, kf5⟩, ⟨kz6, kc6, kf6⟩, ⟨kz7, kc7, kf7⟩, ⟨kz8, kc8, kf8⟩, ⟨kz9, kc9, kf9⟩, _⟩ := h11.2
              by_cases gr : r2 * x.d < x.c * s2
              · rw [decide_eq_true gr] at LE2
                go_wp2_with fail
                refine (LE2.out _).mono ?_
                rintro e w5 ⟨rfl, hbw5⟩
                clear kz0 kc0 kf0 kz1 kc1 kf1 kz2 kc2 kf2 kz3 kc3 kf3 kz4 kc4 kf4 kz5 kc5 kf5 kz6 kc6 kf6 kz7 kc7 kf7 kz8 kc8 kf8 kz9 kc9 kf9
                have h12 := h11.next hbw5
                clear hbw5
                obtain ⟨⟨kz0, kc0, kf0⟩, ⟨kz1, kc1, kf1⟩, ⟨kz2, kc2, kf2⟩, ⟨kz3, kc3, kf3⟩, ⟨kz4, kc4, kf4⟩, ⟨kz5, kc5, kf5⟩, ⟨kz6, kc6, kf6⟩, ⟨kz7, kc7, kf7⟩, ⟨kz8, kc8, kf8⟩, ⟨kz9, kc9, kf9⟩, _⟩ := h12.2
                go_wp2_with fail
                go_roundw
                case rel =>
                  refine ⟨i + 1, by simp, by omega, gi, Lib.hid ?_⟩
                  have h13 := set_pair (u0 := .int .i64 r2) (u1 := .int .i64 s2) (B := g') (M := [(g, 0, .int .i64 p2), (g, 1, .int .i64 q2'), (w.heap.size, 0, .int .i64 0), (w.heap.size, 1, .int .i64 0), (w.heap.size + 1, 0, .int .i64 0), (w.heap.size + 1, 1, .int .i64 0)]) (a0 := .int .i64 x.c) (a1 := .int .i64 x.d) ⟨h12.1, ⟨kz4, kc4, kf4⟩, ⟨kz5, kc5, kf5⟩, ⟨kz2, kc2, kf2⟩, ⟨kz3, kc3, kf3⟩, h12.2.2.2.2.2.2.2⟩ (by omega) (by simp <;> omega)
                  rw [MO.out.1, MO.out.2.1, MO.out.2.2.1, MO.out.2.2.2, if_pos gl, if_pos gl, if_pos gr, if_pos gr]
                  exact ⟨h13.1, h13.2.2.2.1, h13.2.2.2.2.1, h13.2.1, h13.2.2.1, h13.2.2.2.2.2⟩
                case measure => exact index_less gi
              · rw [decide_eq_false gr] at LE2
                go_wp2_with fail
                refine (LE2.out _).mono ?_
                rintro e w5 ⟨rfl, hbw5⟩
                clear kz0 kc0 kf0 kz1 kc1 kf1 kz2 kc2 kf2 kz3 kc3 kf3 kz4 kc4 kf4 kz5 kc5 kf5 kz6 kc6 kf6 kz7 kc7 kf7 kz8 kc8 kf8 kz9 kc9 kf9
                have h12 := h11.next hbw5
                clear hbw5
                go_wp2_with fail
                go_roundw
                case rel =>
                  refine ⟨i + 1, by simp, by omega, gi, Lib.hid ?_⟩
                  rw [MO.out.1, MO.out.2.1, MO.out.2.2.1, MO.out.2.2.2, if_pos gl, if_pos gl, if_neg (Int.not_lt.2 gr), if_neg (Int.not_lt.2 gr)]
                  exact ⟨h12.1, h12.2.2.2⟩
                case measure => exact index_less gi
          · rw [decide_eq_false gl] at LE1
            go_wp2_with fail
            refine (LE1.out _).mono ?_
            rintro e w3 ⟨rfl, hbw3⟩
            clear kz0 kc0 kf0 kz1 kc1 kf1 kz2 kc2 kf2 kz3 kc3 kf3 kz4 kc4 kf4 kz5 kc5 kf5 kz6 kc6 kf6 kz7 kc7 kf7 kz8 kc8 kf8 kz9 kc9 kf9
            have h9 : Keeps w [(g, 0, .int .i64 x.a), (g, 1, .int .i64 x.b), (g', 0, .int .i64 x.c), (g', 1, .int .i64 x.d), (w.heap.size, 0, .int .i64 0), (w.heap.size, 1, .int .i64 0), (w.heap.size + 1, 0, .int .i64 0), (w.heap.size + 1, 1, .int .i64 0)] w3 := ⟨(h7.next hbw3).1, (h7.next hbw3).2.2.2⟩
            clear hbw3
            go_upto_region 8 with (fail)
            have hp2 := (h9.1.cell (p := ⟨bb, off + i * 3 + 2, none⟩) hbw).trans HP.out.2
            go_cut [8] (fun s8 wx => ∃ g8, s8 = .pointer (some ⟨g8, 0, none⟩) ∧ Keeps w [(g8, 0, .int .i64 r2), (g8, 1, .int .i64 s2), (g, 0, .int .i64 x.a), (g, 1, .int .i64 x.b), (g', 0, .int .i64 x.c), (g', 1, .int .i64 x.d), (w.heap.size, 0, .int .i64 0), (w.heap.size, 1, .int .i64 0), (w.heap.size + 1, 0, .int .i64 0), (w.heap.size + 1, 1, .int .i64 0)] wx)
            case first =>
              go_wp2_with fail
              refine (TH.out _ h9.1).mono ?_
              rintro e w4 ⟨rfl, hbw4⟩
              have hN4 := h9.next hbw4
              go_wp2_with fail
              go_meet
              case rel => exact ⟨_, rfl, new_pair hN4⟩
            case rest =>
              obtain ⟨g8, rfl, h11⟩ := hcut
              clear hp2
              obtain ⟨⟨kz0, kc0, kf0⟩, ⟨kz1, kc1, kf1⟩, ⟨kz2, kc2, kf2⟩, ⟨kz3, kc3, kf3⟩, ⟨kz4, kc4, kf4⟩, ⟨kz5, kc5, kf5⟩, ⟨kz6, kc6, kf6⟩, ⟨kz7, kc7, kf7⟩, ⟨kz8, kc8, kf8⟩, ⟨kz9, kc9, kf9⟩, _⟩ := h11.2
              by_cases gr : r2 * x.d < x.c * s2
              · rw [decide_eq_true gr] at LE2
                go_wp2_with fail
                refine (LE2.out _).mono ?_
                rintro e w5 ⟨rfl, hbw5⟩
                clear kz0 kc0 kf0 kz1 kc1 kf1 kz2 kc2 kf2 kz3 kc3 kf3 kz4 kc4 kf4 kz5 kc5 kf5 kz6 kc6 kf6 kz7 kc7 kf7 kz8 kc8 kf8 kz9 kc9 kf9
                have h12 := h11.next hbw5
                clear hbw5
                obtain ⟨⟨kz0, kc0, kf0⟩, ⟨kz1, kc1, kf1⟩, ⟨kz2, kc2, kf2⟩, ⟨kz3, kc3, kf3⟩, ⟨kz4, kc4, kf4⟩, ⟨kz5, kc5, kf5⟩, ⟨kz6, kc6, kf6⟩, ⟨kz7, kc7, kf7⟩, ⟨kz8, kc8, kf8⟩, ⟨kz9, kc9, kf9⟩, _⟩ := h12.2
                go_wp2_with fail
                go_roundw
                case rel =>
                  refine ⟨i + 1, by simp, by omega, gi, Lib.hid ?_⟩
                  have h13 := set_pair (u0 := .int .i64 r2) (u1 := .int .i64 s2) (B := g') (M := [(g, 0, .int .i64 x.a), (g, 1, .int .i64 x.b), (w.heap.size, 0, .int .i64 0), (w.heap.size, 1, .int .i64 0), (w.heap.size + 1, 0, .int .i64 0), (w.heap.size + 1, 1, .int .i64 0)]) (a0 := .int .i64 x.c) (a1 := .int .i64 x.d) ⟨h12.1, ⟨kz4, kc4, kf4⟩, ⟨kz5, kc5, kf5⟩, ⟨kz2, kc2, kf2⟩, ⟨kz3, kc3, kf3⟩, h12.2.2.2.2.2.2.2⟩ (by omega) (by simp <;> omega)
                  rw [MO.out.1, MO.out.2.1, MO.out.2.2.1, MO.out.2.2.2, if_neg (Int.not_lt.2 gl), if_neg (Int.not_lt.2 gl), if_pos gr, if_pos gr]
                  exact ⟨h13.1, h13.2.2.2.1, h13.2.2.2.2.1, h13.2.1, h13.2.2.1, h13.2.2.2.2.2⟩
                case measure => exact index_less gi
              · rw [decide_eq_false gr] at LE2
                go_wp2_with fail
                refine (LE2.out _).mono ?_
                rintro e w5 ⟨rfl, hbw5⟩
                clear kz0 kc0 kf0 kz1 kc1 kf1 kz2 kc2 kf2 kz3 kc3 kf3 kz4 kc4 kf4 kz5 kc5 kf5 kz6 kc6 kf6 kz7 kc7 kf7 kz8 kc8 kf8 kz9 kc9 kf9
                have h12 := h11.next hbw5
                clear hbw5
                go_wp2_with fail
                go_roundw
                case rel =>
                  refine ⟨i + 1, by simp, by omega, gi, Lib.hid ?_⟩
                  rw [MO.out.1, MO.out.2.1, MO.out.2.2.1, MO.out.2.2.2, if_neg (Int.not_lt.2 gl), if_neg (Int.not_lt.2 gl), if_neg (Int.not_lt.2 gr), if_neg (Int.not_lt.2 gr)]
                  exact ⟨h12.1, h12.2.2.2⟩
                case measure => exact index_less gi
      · have i1 : ¬ (i : Int) < (len : Int) := fun h => gi (Int.ofNat_lt.1 h)
        have ei : i = len := by omega
        subst ei
        have hgg := HG.out.1
        have hg1 := HG.out.2.1
        have hg2 := HG.out.2.2
        have hHeld := hB.out
        obtain ⟨⟨kz0, kc0, kf0⟩, ⟨kz1, kc1, kf1⟩, ⟨kz2, kc2, kf2⟩, ⟨kz3, kc3, kf3⟩, ⟨kz4, kc4, kf4⟩, ⟨kz5, kc5, kf5⟩, ⟨kz6, kc6, kf6⟩, ⟨kz7, kc7, kf7⟩, _⟩ := hHeld.2
        generalize atD b0 l i = x at *
        go_wp2_with fail
        go_region
        all_goals
          go_wp2_with fail
          obtain ⟨d0, d1, d2, d3⟩ := set22 (W := wr) (B := w.heap.size) (C := w.heap.size + 1) (u0 := .int .i64 x.a) (u1 := .int .i64 x.b) (v0 := .int .i64 x.c) (v1 := .int .i64 x.d) (by omega) kc4 kc5 kc6 kc7
          refine bodyPost_ret (v := .tuple #[slV x.a x.b, slV x.c x.d]) (by simp [results, Tryz.results29, go_sem, d0, d1, d2, d3]) rfl ?_
          exact ⟨rfl, Below.drew ((((hHeld.1.setCell (p := ⟨w.heap.size, 0, none⟩) (by simp) _).setCell (p := ⟨w.heap.size, 1, none⟩) (by simp) _).setCell (p := ⟨w.heap.size + 1, 0, none⟩) (by simp) _).setCell (p := ⟨w.heap.size + 1, 1, none⟩) (by simp) _)⟩
end Go.Proofs.YtjioljgojfcckaaGreat.P9
