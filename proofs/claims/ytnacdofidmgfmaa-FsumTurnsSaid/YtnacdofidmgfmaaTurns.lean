/-
  The walk of the law FsumTurns. Conditions: the numbers' low words are of 64 bits, without a sign.
-/
import Derived.Test.YtnacdofidmgfmaaFsJ
namespace Go.Proofs.Ytnacdofidmgfmaa
open Go.RowKit

set_option maxRecDepth 100000 in
set_option maxHeartbeats 4000000 in
theorem turns_any (n ah al bh bl m : Int) (h1 : U64 al) (h2 : U64 bl) (w : World) : Calls Try.prog 6 #[rowV n ah al bh bl m] w (Ret w (.bool true)) := by
  have WK := Lib.hid (fun W => wakes6_any W)
  obtain ⟨N, A, B, M, hN, NE⟩ := near_told n ah al bh bl m h1 h2
  replace NE := Lib.hid NE
  obtain ⟨tA, tB⟩ := hN.terms
  have n0 := hN.n
  have hm := hN.m
  have A1 := fun W => asks_any N A B M n0 tA tB hm.1 hm.2 W
  by_cases g : N = 0
  · subst g
    have tN : ((((0 : Nat) : Int)) == 0) = true := by simp
    simp only [floorS, zero_words.1, zero_words.2] at A1
    replace A1 := Lib.hid A1
    clear hm tA tB n0 hN h1 h2
    generalize rhi A = a0 at *
    generalize rlo A = a1 at *
    generalize rhi B = b0 at *
    generalize rlo B = b1 at *
    go_enter Try.func6, Try.ntmps6
    go_wp2_with fail
    refine (WK.out _).mono ?_
    rintro e w1 ⟨rfl, hb⟩
    have hHeld : Keeps w [(w.heap.size, 0, .int .i64 n), (w.heap.size, 1, .int .i64 ah), (w.heap.size, 2, .int .u64 al), (w.heap.size, 3, .int .i64 bh), (w.heap.size, 4, .int .u64 bl), (w.heap.size, 5, .int .i64 m)] _ := Keeps.next (by refine ⟨by go_grown, ?_⟩; simp [Cells, go_sem]) hb
    clear hb
    obtain ⟨⟨kz0, kc0, kf0⟩, ⟨kz1, kc1, kf1⟩, ⟨kz2, kc2, kf2⟩, ⟨kz3, kc3, kf3⟩, ⟨kz4, kc4, kf4⟩, ⟨kz5, kc5, kf5⟩, _⟩ := hHeld.2
    go_wp2_with fail
    refine (NE.out _).mono ?_
    rintro e w2 ⟨rfl, hb⟩
    replace hHeld := hHeld.next hb
    clear hb
    (try clear hHeld0); (try clear hHeld1); (try clear hHeld2); (try clear hHeld3); (try clear hHeld4); (try clear hHeld5); (try clear hHeld6); (try clear hHeld7); (try clear hHeld8); (try clear hHeld9); (try clear hHeld10); (try clear hHeld11); (try clear hHeld12); (try clear hHeld13); (try clear hT0); (try clear kz0 kc0 kf0); (try clear kz1 kc1 kf1); (try clear kz2 kc2 kf2); (try clear kz3 kc3 kf3); (try clear kz4 kc4 kf4); (try clear kz5 kc5 kf5); (try clear kz6 kc6 kf6); (try clear kz7 kc7 kf7); (try clear kz8 kc8 kf8); (try clear kz9 kc9 kf9); (try clear kz10 kc10 kf10); (try clear kz11 kc11 kf11); (try clear kz12 kc12 kf12); (try clear kz13 kc13 kf13); (try clear t0z0 t0c0 t0f0); (try clear t0z1 t0c1 t0f1)
    obtain ⟨⟨kz0, kc0, kf0⟩, ⟨kz1, kc1, kf1⟩, ⟨kz2, kc2, kf2⟩, ⟨kz3, kc3, kf3⟩, ⟨kz4, kc4, kf4⟩, ⟨kz5, kc5, kf5⟩, _⟩ := hHeld.2
    go_wp2_with fail
    refine (A1.out _).mono ?_
    rintro e w3 ⟨rfl, hb⟩
    have hS := (hHeld.put6 (Nat.le_refl _) _ _ _ _ _ _).next hb
    clear hb hHeld
    (try clear hHeld0); (try clear hHeld1); (try clear hHeld2); (try clear hHeld3); (try clear hHeld4); (try clear hHeld5); (try clear hHeld6); (try clear hHeld7); (try clear hHeld8); (try clear hHeld9); (try clear hHeld10); (try clear hHeld11); (try clear hHeld12); (try clear hHeld13); (try clear hT0); (try clear kz0 kc0 kf0); (try clear kz1 kc1 kf1); (try clear kz2 kc2 kf2); (try clear kz3 kc3 kf3); (try clear kz4 kc4 kf4); (try clear kz5 kc5 kf5); (try clear kz6 kc6 kf6); (try clear kz7 kc7 kf7); (try clear kz8 kc8 kf8); (try clear kz9 kc9 kf9); (try clear kz10 kc10 kf10); (try clear kz11 kc11 kf11); (try clear kz12 kc12 kf12); (try clear kz13 kc13 kf13); (try clear t0z0 t0c0 t0f0); (try clear t0z1 t0c1 t0f1)
    obtain ⟨⟨kz0, kc0, kf0⟩, ⟨kz1, kc1, kf1⟩, ⟨kz2, kc2, kf2⟩, ⟨kz3, kc3, kf3⟩, ⟨kz4, kc4, kf4⟩, ⟨kz5, kc5, kf5⟩, _⟩ := hS.2
    go_wp2_with fail
    go_ret
    exact ⟨rfl, by have h1 := hS.1; go_grown⟩
  · have tN : ((N : Int) == 0) = false := by simpa using g
    have e1 : IntKind.i64.wrap ((N : Int) - 1) = (N : Int) - 1 := by rw [IntKind.wrap_i64]; omega
    obtain ⟨g1, g2, g3⟩ := hN.along (k := (N : Int) - 1) (by omega)
    have ma : termB (-A) = true ∧ Fits (A * -1) ∧ Fits (0 + A * -1) := by
      have := hN.a
      refine ⟨(termB_iff _).2 (by omega), ?_, ?_⟩ <;> unfold Fits <;> omega
    have P1 := fun W => plus6_any 0 A (-1) (by unfold Fits; omega) (term_fits tA) (by unfold I64; omega) ma.2.1 ma.2.2 W
    rw [show 0 + A * -1 = -A by omega, zero_words.1, zero_words.2] at P1
    have P2 := fun W => plus6_any B A ((N : Int) - 1) (term_fits tB) (term_fits tA) (by unfold I64; omega) g2 g3 W
    have A2 := fun W => asks_any N (-A) (B + A * ((N : Int) - 1)) M n0 ma.1 g1 hm.1 hm.2 W
    rw [floor_turn] at A2
    replace A1 := Lib.hid A1
    replace A2 := Lib.hid A2
    replace P1 := Lib.hid P1
    replace P2 := Lib.hid P2
    clear g1 g2 g3 hm tA tB n0 hN h1 h2 ma g
    generalize floorS N A B M = s at *
    generalize B + A * ((N : Int) - 1) = C at *
    generalize -A = D at *
    generalize rhi s = s0 at *
    generalize rlo s = s1 at *
    generalize rhi C = C0 at *
    generalize rlo C = C1 at *
    generalize rhi D = D0 at *
    generalize rlo D = D1 at *
    generalize rhi A = a0 at *
    generalize rlo A = a1 at *
    generalize rhi B = b0 at *
    generalize rlo B = b1 at *
    go_enter Try.func6, Try.ntmps6
    go_wp2_with fail
    refine (WK.out _).mono ?_
    rintro e w1 ⟨rfl, hb⟩
    have hHeld : Keeps w [(w.heap.size, 0, .int .i64 n), (w.heap.size, 1, .int .i64 ah), (w.heap.size, 2, .int .u64 al), (w.heap.size, 3, .int .i64 bh), (w.heap.size, 4, .int .u64 bl), (w.heap.size, 5, .int .i64 m)] _ := Keeps.next (by refine ⟨by go_grown, ?_⟩; simp [Cells, go_sem]) hb
    clear hb
    obtain ⟨⟨kz0, kc0, kf0⟩, ⟨kz1, kc1, kf1⟩, ⟨kz2, kc2, kf2⟩, ⟨kz3, kc3, kf3⟩, ⟨kz4, kc4, kf4⟩, ⟨kz5, kc5, kf5⟩, _⟩ := hHeld.2
    go_wp2_with fail
    refine (NE.out _).mono ?_
    rintro e w2 ⟨rfl, hb⟩
    replace hHeld := hHeld.next hb
    clear hb
    (try clear hHeld0); (try clear hHeld1); (try clear hHeld2); (try clear hHeld3); (try clear hHeld4); (try clear hHeld5); (try clear hHeld6); (try clear hHeld7); (try clear hHeld8); (try clear hHeld9); (try clear hHeld10); (try clear hHeld11); (try clear hHeld12); (try clear hHeld13); (try clear hT0); (try clear kz0 kc0 kf0); (try clear kz1 kc1 kf1); (try clear kz2 kc2 kf2); (try clear kz3 kc3 kf3); (try clear kz4 kc4 kf4); (try clear kz5 kc5 kf5); (try clear kz6 kc6 kf6); (try clear kz7 kc7 kf7); (try clear kz8 kc8 kf8); (try clear kz9 kc9 kf9); (try clear kz10 kc10 kf10); (try clear kz11 kc11 kf11); (try clear kz12 kc12 kf12); (try clear kz13 kc13 kf13); (try clear t0z0 t0c0 t0f0); (try clear t0z1 t0c1 t0f1)
    obtain ⟨⟨kz0, kc0, kf0⟩, ⟨kz1, kc1, kf1⟩, ⟨kz2, kc2, kf2⟩, ⟨kz3, kc3, kf3⟩, ⟨kz4, kc4, kf4⟩, ⟨kz5, kc5, kf5⟩, _⟩ := hHeld.2
    go_wp2_with fail
    refine (A1.out _).mono ?_
    rintro e w3 ⟨rfl, hb⟩
    have hS := (hHeld.put6 (Nat.le_refl _) _ _ _ _ _ _).next hb
    clear hb hHeld
    (try clear hHeld0); (try clear hHeld1); (try clear hHeld2); (try clear hHeld3); (try clear hHeld4); (try clear hHeld5); (try clear hHeld6); (try clear hHeld7); (try clear hHeld8); (try clear hHeld9); (try clear hHeld10); (try clear hHeld11); (try clear hHeld12); (try clear hHeld13); (try clear hT0); (try clear kz0 kc0 kf0); (try clear kz1 kc1 kf1); (try clear kz2 kc2 kf2); (try clear kz3 kc3 kf3); (try clear kz4 kc4 kf4); (try clear kz5 kc5 kf5); (try clear kz6 kc6 kf6); (try clear kz7 kc7 kf7); (try clear kz8 kc8 kf8); (try clear kz9 kc9 kf9); (try clear kz10 kc10 kf10); (try clear kz11 kc11 kf11); (try clear kz12 kc12 kf12); (try clear kz13 kc13 kf13); (try clear t0z0 t0c0 t0f0); (try clear t0z1 t0c1 t0f1)
    obtain ⟨⟨kz0, kc0, kf0⟩, ⟨kz1, kc1, kf1⟩, ⟨kz2, kc2, kf2⟩, ⟨kz3, kc3, kf3⟩, ⟨kz4, kc4, kf4⟩, ⟨kz5, kc5, kf5⟩, _⟩ := hS.2
    go_upto_region 7 with fail
    have hA := (newK2 (hS.alloc (.cells #[.int .i64 s0, .int .u64 s1] 24))).app (hS.alloc (.cells #[.int .i64 s0, .int .u64 s1] 24))
    go_cut [5, 6] (fun s5 s6 wx => ∃ g : Nat, s5 = .pointer (some ⟨g, 0, none⟩) ∧ s6 = .bool true ∧ Keeps w [(w3.heap.size, 0, .int .i64 s0), (w3.heap.size, 1, .int .u64 s1), (g, 0, .int .i64 s0), (g, 1, .int .u64 s1)] wx)
    case first =>
      clear hS
      (try clear hHeld0); (try clear hHeld1); (try clear hHeld2); (try clear hHeld3); (try clear hHeld4); (try clear hHeld5); (try clear hHeld6); (try clear hHeld7); (try clear hHeld8); (try clear hHeld9); (try clear hHeld10); (try clear hHeld11); (try clear hHeld12); (try clear hHeld13); (try clear hT0); (try clear kz0 kc0 kf0); (try clear kz1 kc1 kf1); (try clear kz2 kc2 kf2); (try clear kz3 kc3 kf3); (try clear kz4 kc4 kf4); (try clear kz5 kc5 kf5); (try clear kz6 kc6 kf6); (try clear kz7 kc7 kf7); (try clear kz8 kc8 kf8); (try clear kz9 kc9 kf9); (try clear kz10 kc10 kf10); (try clear kz11 kc11 kf11); (try clear kz12 kc12 kf12); (try clear kz13 kc13 kf13); (try clear t0z0 t0c0 t0f0); (try clear t0z1 t0c1 t0f1)
      refine region_keeps (w0 := w) (L := [(w3.heap.size, 0, .int .i64 s0), (w3.heap.size, 1, .int .u64 s1), (w.heap.size, 0, .int .i64 N), (w.heap.size, 1, .int .i64 a0), (w.heap.size, 2, .int .u64 a1), (w.heap.size, 3, .int .i64 b0), (w.heap.size, 4, .int .u64 b1), (w.heap.size, 5, .int .i64 M)]) (by kernel_rfl) hA (fun hHeld0 => ?_)
      refine wpAnyH_take (i := 0) (oi := ⟨some 26, _, _, _, _, _⟩) (v := ?_) rfl (by kernel_rfl) (by kernel_rfl) (by kernel_rfl) (fun _ _ _ h => h) (Or.inl ⟨by rfl, ?_⟩) (by assumption) ?_
      rotate_left
      · intro wq hSw; go_simp; (try with_reducible rfl)
      try simp only [Act.put, List.setIfInBounds_toArray, List.set_cons_zero, List.set_cons_succ]
      refine wpAnyH_take (i := 1) (oi := ⟨some 27, _, _, _, _, _⟩) (v := ?_) rfl (by kernel_rfl) (by kernel_rfl) (by kernel_rfl) (fun _ _ _ h => h) (Or.inl ⟨by rfl, ?_⟩) (by assumption) ?_
      rotate_left
      · intro wq hSw; obtain ⟨⟨qz0, qc0, qf0⟩, ⟨qz1, qc1, qf1⟩, ⟨qz2, qc2, qf2⟩, ⟨qz3, qc3, qf3⟩, ⟨qz4, qc4, qf4⟩, ⟨qz5, qc5, qf5⟩, ⟨qz6, qc6, qf6⟩, ⟨qz7, qc7, qf7⟩, _⟩ := hSw.2; go_simp; (try with_reducible rfl)
      try simp only [Act.put, List.setIfInBounds_toArray, List.set_cons_zero, List.set_cons_succ]
      refine wpAnyH_take (i := 2) (oi := ⟨some 28, _, _, _, _, _⟩) (v := ?_) rfl (by kernel_rfl) (by kernel_rfl) (by kernel_rfl) (fun _ _ _ h => h) (Or.inl ⟨by rfl, ?_⟩) (by assumption) ?_
      rotate_left
      · intro wq hSw; go_simp; (try with_reducible rfl)
      try simp only [Act.put, List.setIfInBounds_toArray, List.set_cons_zero, List.set_cons_succ]
      refine wpAnyH_take (i := 3) (oi := ⟨some 29, _, _, _, _, _⟩) (v := ?_) rfl (by kernel_rfl) (by kernel_rfl) (by kernel_rfl) (fun _ _ _ h => h) (Or.inl ⟨by rfl, ?_⟩) (by assumption) ?_
      rotate_left
      · intro wq hSw; go_simp; (try with_reducible rfl)
      try simp only [Act.put, List.setIfInBounds_toArray, List.set_cons_zero, List.set_cons_succ]
      refine wpAnyH_take (i := 4) (oi := ⟨some 30, _, _, _, _, _⟩) (v := ?_) rfl (by kernel_rfl) (by kernel_rfl) (by kernel_rfl) (fun _ _ _ h => h) (Or.inl ⟨by rfl, ?_⟩) (by assumption) ?_
      rotate_left
      · intro wq hSw; obtain ⟨⟨qz0, qc0, qf0⟩, ⟨qz1, qc1, qf1⟩, ⟨qz2, qc2, qf2⟩, ⟨qz3, qc3, qf3⟩, ⟨qz4, qc4, qf4⟩, ⟨qz5, qc5, qf5⟩, ⟨qz6, qc6, qf6⟩, ⟨qz7, qc7, qf7⟩, _⟩ := hSw.2; go_simp; (try with_reducible rfl)
      try simp only [Act.put, List.setIfInBounds_toArray, List.set_cons_zero, List.set_cons_succ]
      refine wpAnyH_take (i := 6) (oi := ⟨some 32, _, _, _, _, _⟩) (v := ?_) rfl (by kernel_rfl) (by kernel_rfl) (by kernel_rfl) (fun _ _ _ h => h) (Or.inl ⟨by rfl, ?_⟩) (by assumption) ?_
      rotate_left
      · intro wq hSw; go_simp; (try with_reducible rfl)
      try simp only [Act.put, List.setIfInBounds_toArray, List.set_cons_zero, List.set_cons_succ]
      refine wpAnyH_take (i := 7) (oi := ⟨some 33, _, _, _, _, _⟩) (v := ?_) rfl (by kernel_rfl) (by kernel_rfl) (by kernel_rfl) (fun _ _ _ h => h) (Or.inl ⟨by rfl, ?_⟩) (by assumption) ?_
      rotate_left
      · intro wq hSw; obtain ⟨⟨qz0, qc0, qf0⟩, ⟨qz1, qc1, qf1⟩, ⟨qz2, qc2, qf2⟩, ⟨qz3, qc3, qf3⟩, ⟨qz4, qc4, qf4⟩, ⟨qz5, qc5, qf5⟩, ⟨qz6, qc6, qf6⟩, ⟨qz7, qc7, qf7⟩, _⟩ := hSw.2; go_simp; (try with_reducible rfl)
      try simp only [Act.put, List.setIfInBounds_toArray, List.set_cons_zero, List.set_cons_succ]
      refine wpAnyH_take (i := 8) (oi := ⟨some 34, _, _, _, _, _⟩) (v := ?_) rfl (by kernel_rfl) (by kernel_rfl) (by kernel_rfl) (fun _ _ _ h => h) (Or.inl ⟨by rfl, ?_⟩) (by assumption) ?_
      rotate_left
      · intro wq hSw; go_simp; (try with_reducible rfl)
      try simp only [Act.put, List.setIfInBounds_toArray, List.set_cons_zero, List.set_cons_succ]
      refine wpAnyH_take (i := 9) (oi := ⟨some 35, _, _, _, _, _⟩) (v := ?_) rfl (by kernel_rfl) (by kernel_rfl) (by kernel_rfl) (fun _ _ _ h => h) (Or.inl ⟨by rfl, ?_⟩) (by assumption) ?_
      rotate_left
      · intro wq hSw; obtain ⟨⟨qz0, qc0, qf0⟩, ⟨qz1, qc1, qf1⟩, ⟨qz2, qc2, qf2⟩, ⟨qz3, qc3, qf3⟩, ⟨qz4, qc4, qf4⟩, ⟨qz5, qc5, qf5⟩, ⟨qz6, qc6, qf6⟩, ⟨qz7, qc7, qf7⟩, _⟩ := hSw.2; go_simp; (try with_reducible rfl)
      try simp only [Act.put, List.setIfInBounds_toArray, List.set_cons_zero, List.set_cons_succ]
      refine wpAnyH_take (i := 10) (oi := ⟨some 36, _, _, _, _, _⟩) (v := ?_) rfl (by kernel_rfl) (by kernel_rfl) (by kernel_rfl) (fun _ _ _ h => h) (Or.inl ⟨by rfl, ?_⟩) (by assumption) ?_
      rotate_left
      · intro wq hSw; go_simp; (try with_reducible rfl)
      try simp only [Act.put, List.setIfInBounds_toArray, List.set_cons_zero, List.set_cons_succ]
      refine wpAnyH_take (i := 11) (oi := ⟨some 37, _, _, _, _, _⟩) (v := ?_) rfl (by kernel_rfl) (by kernel_rfl) (by kernel_rfl) (fun _ _ _ h => h) (Or.inl ⟨by rfl, ?_⟩) (by assumption) ?_
      rotate_left
      · intro wq hSw; obtain ⟨⟨qz0, qc0, qf0⟩, ⟨qz1, qc1, qf1⟩, ⟨qz2, qc2, qf2⟩, ⟨qz3, qc3, qf3⟩, ⟨qz4, qc4, qf4⟩, ⟨qz5, qc5, qf5⟩, ⟨qz6, qc6, qf6⟩, ⟨qz7, qc7, qf7⟩, _⟩ := hSw.2; go_simp; (try with_reducible rfl)
      try simp only [Act.put, List.setIfInBounds_toArray, List.set_cons_zero, List.set_cons_succ]
      refine wpAnyH_take (i := 12) (oi := ⟨some 38, _, _, _, _, _⟩) (v := ?_) rfl (by kernel_rfl) (by kernel_rfl) (by kernel_rfl) (fun _ _ _ h => h) (Or.inl ⟨by rfl, ?_⟩) (by assumption) ?_
      rotate_left
      · intro wq hSw; go_simp; (try with_reducible rfl)
      try simp only [Act.put, List.setIfInBounds_toArray, List.set_cons_zero, List.set_cons_succ]
      refine wpAnyH_take (i := 14) (oi := ⟨some 40, _, _, _, _, _⟩) (v := ?_) rfl (by kernel_rfl) (by kernel_rfl) (by kernel_rfl) (fun _ _ _ h => h) (Or.inl ⟨by rfl, ?_⟩) (by assumption) ?_
      rotate_left
      · intro wq hSw; go_simp; (try with_reducible rfl)
      try simp only [Act.put, List.setIfInBounds_toArray, List.set_cons_zero, List.set_cons_succ]
      refine wpAnyH_take (i := 15) (oi := ⟨some 41, _, _, _, _, _⟩) (v := ?_) rfl (by kernel_rfl) (by kernel_rfl) (by kernel_rfl) (fun _ _ _ h => h) (Or.inl ⟨by rfl, ?_⟩) (by assumption) ?_
      rotate_left
      · intro wq hSw; obtain ⟨⟨qz0, qc0, qf0⟩, ⟨qz1, qc1, qf1⟩, ⟨qz2, qc2, qf2⟩, ⟨qz3, qc3, qf3⟩, ⟨qz4, qc4, qf4⟩, ⟨qz5, qc5, qf5⟩, ⟨qz6, qc6, qf6⟩, ⟨qz7, qc7, qf7⟩, _⟩ := hSw.2; go_simp; (try with_reducible rfl)
      try simp only [Act.put, List.setIfInBounds_toArray, List.set_cons_zero, List.set_cons_succ]
      refine wpAnyH_ready (rs := [5, 21]) (by kernel_rfl) (by simp) ?_
      refine AllReadyH.cons (o := ⟨some 31, _, _, _, _, _⟩) rfl (fun K hK => ?_) ?_
      go_simp
      (first | (with_reducible refine Calls.mono (P1.out _) ?_) | (with_reducible refine Calls.mono (P2.out _) ?_) | (with_reducible refine Calls.mono (A2.out _) ?_)); rintro e w5 ⟨rfl, hb⟩
      refine hK.out _ _ (hHeld0.next hb) (fun hHeld1 => ?_)
      clear hK K
      try clear hb
      try simp only [Act.put, List.setIfInBounds_toArray, List.set_cons_zero, List.set_cons_succ]
      refine wpAnyH_ready (rs := [13, 21]) (by kernel_rfl) (by simp) ?_
      refine AllReadyH.cons (o := ⟨some 39, _, _, _, _, _⟩) rfl (fun K hK => ?_) ?_
      go_simp
      (first | (with_reducible refine Calls.mono (P1.out _) ?_) | (with_reducible refine Calls.mono (P2.out _) ?_) | (with_reducible refine Calls.mono (A2.out _) ?_)); rintro e w5 ⟨rfl, hb⟩
      refine hK.out _ _ (hHeld1.next hb) (fun hHeld2 => ?_)
      clear hK K
      try clear hb
      try simp only [Act.put, List.setIfInBounds_toArray, List.set_cons_zero, List.set_cons_succ]
      refine wpAnyH_take (i := 16) (oi := ⟨some 42, _, _, _, _, _⟩) (v := ?_) rfl (by kernel_rfl) (by kernel_rfl) (by kernel_rfl) (fun _ _ _ h => h) (Or.inl ⟨by rfl, ?_⟩) (by assumption) ?_
      rotate_left
      · intro wq hSw; go_simp; (try with_reducible rfl)
      try simp only [Act.put, List.setIfInBounds_toArray, List.set_cons_zero, List.set_cons_succ]
      refine wpAnyH_ready (rs := [17, 21]) (by kernel_rfl) (by simp) ?_
      refine AllReadyH.cons (o := ⟨some 43, _, _, _, _, _⟩) rfl (fun K hK => ?_) ?_
      go_simp
      (first | (with_reducible refine Calls.mono (P1.out _) ?_) | (with_reducible refine Calls.mono (P2.out _) ?_) | (with_reducible refine Calls.mono (A2.out _) ?_)); rintro e w5 ⟨rfl, hb⟩
      refine hK.out _ _ (hHeld2.next hb) (fun hHeld3 => ?_)
      clear hK K
      try clear hb
      try simp only [Act.put, List.setIfInBounds_toArray, List.set_cons_zero, List.set_cons_succ]
      refine wpAnyH_take (i := 18) (oi := ⟨some 25, _, _, _, _, _⟩) (v := ?_) rfl (by kernel_rfl) (by kernel_rfl) (by kernel_rfl) (fun _ _ _ h => h) (Or.inl ⟨by rfl, ?_⟩) (by assumption) ?_
      rotate_left
      · intro wq hSw; go_simp; (try with_reducible rfl)
      try simp only [Act.put, List.setIfInBounds_toArray, List.set_cons_zero, List.set_cons_succ]
      refine wpAnyH_take (i := 19) (oi := ⟨some 44, _, _, _, _, _⟩) (v := ?_) rfl (by kernel_rfl) (by kernel_rfl) (by kernel_rfl) (fun _ _ _ h => h) (Or.inl ⟨by rfl, ?_⟩) (by assumption) ?_
      rotate_left
      · intro wq hSw; go_simp; (try with_reducible rfl)
      try simp only [Act.put, List.setIfInBounds_toArray, List.set_cons_zero, List.set_cons_succ]
      refine wpAnyH_take (i := 20) (oi := ⟨some 45, _, _, _, _, _⟩) (v := ?_) rfl (by kernel_rfl) (by kernel_rfl) (by kernel_rfl) (fun _ _ _ h => h) (Or.inl ⟨by rfl, ?_⟩) (by assumption) ?_
      rotate_left
      · intro wq hSw; go_simp; (try with_reducible rfl)
      try simp only [Act.put, List.setIfInBounds_toArray, List.set_cons_zero, List.set_cons_succ]
      refine wpAnyH_ready (rs := [21]) (by kernel_rfl) (by simp) ?_
      refine AllReadyH.cons (o := ⟨some 5, _, _, _, _, _⟩) rfl (fun K hK => ?_) AllReadyH.nil
      go_simp
      refine hK.out _ _ (by first | exact hHeld3.alloc _ | exact (hHeld3.alloc _).drew) (fun hHeld4 => ?_)
      first | have hN4 := newK2 hHeld4 | have hN4 := newK2d hHeld4
      clear hK K
      try clear hb
      try simp only [Act.put, List.setIfInBounds_toArray, List.set_cons_zero, List.set_cons_succ]
      refine wpAnyH_ready (rs := [22]) (by kernel_rfl) (by simp) ?_
      refine AllReadyH.cons (o := ⟨none, _, _, _, _, _⟩) rfl (fun K hK => ?_) AllReadyH.nil
      have hz0 := hHeld3.1.size; obtain ⟨⟨az0, ac0, af0⟩, ⟨az1, ac1, af1⟩, ⟨az2, ac2, af2⟩, ⟨az3, ac3, af3⟩, ⟨az4, ac4, af4⟩, ⟨az5, ac5, af5⟩, ⟨az6, ac6, af6⟩, ⟨az7, ac7, af7⟩, _⟩ := hHeld3.2; (try simp at hz0); (try simp at az0); (try simp at az1); (try simp at az2); (try simp at az3); (try simp at az4); (try simp at az5); (try simp at az6); (try simp at az7)
      obtain ⟨⟨t0z0, t0c0, t0f0⟩, ⟨t0z1, t0c1, t0f1⟩, _⟩ := hN4.2; (try simp at t0z0); (try simp at t0c0); (try simp at t0f0); (try simp at t0z1); (try simp at t0c1); (try simp at t0f1)
      go_simp
      refine hK.out _ _ (by first | exact hHeld3.alloc _ | (repeat (first | (with_reducible exact hHeld4) | (with_reducible exact (Keeps.undrewR hHeld4)) | (refine Keeps.set ?_ (by simp <;> omega) (by simp <;> omega) _) | (with_reducible refine Keeps.drew ?_)))) (fun hHeld5 => ?_)
      clear hK K
      try clear hb
      try simp only [Act.put, List.setIfInBounds_toArray, List.set_cons_zero, List.set_cons_succ]
      refine wpAnyH_take (i := 23) (oi := ⟨some 6, _, _, _, _, _⟩) (v := ?_) rfl (by kernel_rfl) (by kernel_rfl) (by kernel_rfl) (fun _ _ _ h => h) (Or.inl ⟨by rfl, ?_⟩) (by assumption) ?_
      rotate_left
      · intro wq hSw; go_simp; (try with_reducible rfl)
      try simp only [Act.put, List.setIfInBounds_toArray, List.set_cons_zero, List.set_cons_succ]
      refine wpAnyH_done (by kernel_rfl) ?_ _
      have hHeld := hHeld5
      obtain ⟨⟨kz0, kc0, kf0⟩, ⟨kz1, kc1, kf1⟩, ⟨kz2, kc2, kf2⟩, ⟨kz3, kc3, kf3⟩, ⟨kz4, kc4, kf4⟩, ⟨kz5, kc5, kf5⟩, ⟨kz6, kc6, kf6⟩, ⟨kz7, kc7, kf7⟩, _⟩ := hHeld.2
      (go_wp2_with fail; go_meet; (case rel => exact ⟨_, rfl, rfl, hHeld.1, hHeld.2.1, hHeld.2.2.1, ⟨by first | (simp; done) | (simp [*]; done) | (simp; omega), by simp [go_sem, *], by simp [*]⟩, ⟨by first | (simp; done) | (simp [*]; done) | (simp; omega), by simp [go_sem, *], by simp [*]⟩, trivial⟩))
      refine AllReadyH.cons (o := ⟨some 5, _, _, _, _, _⟩) rfl (fun K hK => ?_) ?_
      go_simp
      refine hK.out _ _ (by first | exact hHeld2.alloc _ | exact (hHeld2.alloc _).drew) (fun hHeld6 => ?_)
      first | have hN6 := newK2 hHeld6 | have hN6 := newK2d hHeld6
      clear hK K
      try clear hb
      try simp only [Act.put, List.setIfInBounds_toArray, List.set_cons_zero, List.set_cons_succ]
      refine wpAnyH_ready (rs := [17]) (by kernel_rfl) (by simp) ?_
      refine AllReadyH.cons (o := ⟨some 43, _, _, _, _, _⟩) rfl (fun K hK => ?_) AllReadyH.nil
      go_simp
      (first | (with_reducible refine Calls.mono (P1.out _) ?_) | (with_reducible refine Calls.mono (P2.out _) ?_) | (with_reducible refine Calls.mono (A2.out _) ?_)); rintro e w5 ⟨rfl, hb⟩
      refine hK.out _ _ (hHeld6.next hb) (fun hHeld7 => ?_)
      replace hN6 := hN6.next hb
      clear hK K
      try clear hb
      try simp only [Act.put, List.setIfInBounds_toArray, List.set_cons_zero, List.set_cons_succ]
      refine wpAnyH_take (i := 18) (oi := ⟨some 25, _, _, _, _, _⟩) (v := ?_) rfl (by kernel_rfl) (by kernel_rfl) (by kernel_rfl) (fun _ _ _ h => h) (Or.inl ⟨by rfl, ?_⟩) (by assumption) ?_
      rotate_left
      · intro wq hSw; go_simp; (try with_reducible rfl)
      try simp only [Act.put, List.setIfInBounds_toArray, List.set_cons_zero, List.set_cons_succ]
      refine wpAnyH_take (i := 19) (oi := ⟨some 44, _, _, _, _, _⟩) (v := ?_) rfl (by kernel_rfl) (by kernel_rfl) (by kernel_rfl) (fun _ _ _ h => h) (Or.inl ⟨by rfl, ?_⟩) (by assumption) ?_
      rotate_left
      · intro wq hSw; go_simp; (try with_reducible rfl)
      try simp only [Act.put, List.setIfInBounds_toArray, List.set_cons_zero, List.set_cons_succ]
      refine wpAnyH_take (i := 20) (oi := ⟨some 45, _, _, _, _, _⟩) (v := ?_) rfl (by kernel_rfl) (by kernel_rfl) (by kernel_rfl) (fun _ _ _ h => h) (Or.inl ⟨by rfl, ?_⟩) (by assumption) ?_
      rotate_left
      · intro wq hSw; go_simp; (try with_reducible rfl)
      try simp only [Act.put, List.setIfInBounds_toArray, List.set_cons_zero, List.set_cons_succ]
      refine wpAnyH_ready (rs := [22]) (by kernel_rfl) (by simp) ?_
      refine AllReadyH.cons (o := ⟨none, _, _, _, _, _⟩) rfl (fun K hK => ?_) AllReadyH.nil
      have hz0 := hHeld2.1.size; obtain ⟨⟨az0, ac0, af0⟩, ⟨az1, ac1, af1⟩, ⟨az2, ac2, af2⟩, ⟨az3, ac3, af3⟩, ⟨az4, ac4, af4⟩, ⟨az5, ac5, af5⟩, ⟨az6, ac6, af6⟩, ⟨az7, ac7, af7⟩, _⟩ := hHeld2.2; (try simp at hz0); (try simp at az0); (try simp at az1); (try simp at az2); (try simp at az3); (try simp at az4); (try simp at az5); (try simp at az6); (try simp at az7)
      obtain ⟨⟨t0z0, t0c0, t0f0⟩, ⟨t0z1, t0c1, t0f1⟩, _⟩ := hN6.2; (try simp at t0z0); (try simp at t0c0); (try simp at t0f0); (try simp at t0z1); (try simp at t0c1); (try simp at t0f1)
      go_simp
      refine hK.out _ _ (by first | exact hHeld2.alloc _ | (repeat (first | (with_reducible exact hHeld7) | (with_reducible exact (Keeps.undrewR hHeld7)) | (refine Keeps.set ?_ (by simp <;> omega) (by simp <;> omega) _) | (with_reducible refine Keeps.drew ?_)))) (fun hHeld8 => ?_)
      clear hK K
      try clear hb
      try simp only [Act.put, List.setIfInBounds_toArray, List.set_cons_zero, List.set_cons_succ]
      refine wpAnyH_take (i := 23) (oi := ⟨some 6, _, _, _, _, _⟩) (v := ?_) rfl (by kernel_rfl) (by kernel_rfl) (by kernel_rfl) (fun _ _ _ h => h) (Or.inl ⟨by rfl, ?_⟩) (by assumption) ?_
      rotate_left
      · intro wq hSw; go_simp; (try with_reducible rfl)
      try simp only [Act.put, List.setIfInBounds_toArray, List.set_cons_zero, List.set_cons_succ]
      refine wpAnyH_done (by kernel_rfl) ?_ _
      have hHeld := hHeld8
      obtain ⟨⟨kz0, kc0, kf0⟩, ⟨kz1, kc1, kf1⟩, ⟨kz2, kc2, kf2⟩, ⟨kz3, kc3, kf3⟩, ⟨kz4, kc4, kf4⟩, ⟨kz5, kc5, kf5⟩, ⟨kz6, kc6, kf6⟩, ⟨kz7, kc7, kf7⟩, _⟩ := hHeld.2
      (go_wp2_with fail; go_meet; (case rel => exact ⟨_, rfl, rfl, hHeld.1, hHeld.2.1, hHeld.2.2.1, ⟨by first | (simp; done) | (simp [*]; done) | (simp; omega), by simp [go_sem, *], by simp [*]⟩, ⟨by first | (simp; done) | (simp [*]; done) | (simp; omega), by simp [go_sem, *], by simp [*]⟩, trivial⟩))
      exact AllReadyH.nil
      refine AllReadyH.cons (o := ⟨some 5, _, _, _, _, _⟩) rfl (fun K hK => ?_) ?_
      go_simp
      refine hK.out _ _ (by first | exact hHeld1.alloc _ | exact (hHeld1.alloc _).drew) (fun hHeld9 => ?_)
      first | have hN9 := newK2 hHeld9 | have hN9 := newK2d hHeld9
      clear hK K
      try clear hb
      try simp only [Act.put, List.setIfInBounds_toArray, List.set_cons_zero, List.set_cons_succ]
      refine wpAnyH_ready (rs := [13]) (by kernel_rfl) (by simp) ?_
      refine AllReadyH.cons (o := ⟨some 39, _, _, _, _, _⟩) rfl (fun K hK => ?_) AllReadyH.nil
      go_simp
      (first | (with_reducible refine Calls.mono (P1.out _) ?_) | (with_reducible refine Calls.mono (P2.out _) ?_) | (with_reducible refine Calls.mono (A2.out _) ?_)); rintro e w5 ⟨rfl, hb⟩
      refine hK.out _ _ (hHeld9.next hb) (fun hHeld10 => ?_)
      replace hN9 := hN9.next hb
      clear hK K
      try clear hb
      try simp only [Act.put, List.setIfInBounds_toArray, List.set_cons_zero, List.set_cons_succ]
      refine wpAnyH_take (i := 16) (oi := ⟨some 42, _, _, _, _, _⟩) (v := ?_) rfl (by kernel_rfl) (by kernel_rfl) (by kernel_rfl) (fun _ _ _ h => h) (Or.inl ⟨by rfl, ?_⟩) (by assumption) ?_
      rotate_left
      · intro wq hSw; go_simp; (try with_reducible rfl)
      try simp only [Act.put, List.setIfInBounds_toArray, List.set_cons_zero, List.set_cons_succ]
      refine wpAnyH_ready (rs := [17]) (by kernel_rfl) (by simp) ?_
      refine AllReadyH.cons (o := ⟨some 43, _, _, _, _, _⟩) rfl (fun K hK => ?_) AllReadyH.nil
      go_simp
      (first | (with_reducible refine Calls.mono (P1.out _) ?_) | (with_reducible refine Calls.mono (P2.out _) ?_) | (with_reducible refine Calls.mono (A2.out _) ?_)); rintro e w5 ⟨rfl, hb⟩
      refine hK.out _ _ (hHeld10.next hb) (fun hHeld11 => ?_)
      replace hN9 := hN9.next hb
      clear hK K
      try clear hb
      try simp only [Act.put, List.setIfInBounds_toArray, List.set_cons_zero, List.set_cons_succ]
      refine wpAnyH_take (i := 18) (oi := ⟨some 25, _, _, _, _, _⟩) (v := ?_) rfl (by kernel_rfl) (by kernel_rfl) (by kernel_rfl) (fun _ _ _ h => h) (Or.inl ⟨by rfl, ?_⟩) (by assumption) ?_
      rotate_left
      · intro wq hSw; go_simp; (try with_reducible rfl)
      try simp only [Act.put, List.setIfInBounds_toArray, List.set_cons_zero, List.set_cons_succ]
      refine wpAnyH_take (i := 19) (oi := ⟨some 44, _, _, _, _, _⟩) (v := ?_) rfl (by kernel_rfl) (by kernel_rfl) (by kernel_rfl) (fun _ _ _ h => h) (Or.inl ⟨by rfl, ?_⟩) (by assumption) ?_
      rotate_left
      · intro wq hSw; go_simp; (try with_reducible rfl)
      try simp only [Act.put, List.setIfInBounds_toArray, List.set_cons_zero, List.set_cons_succ]
      refine wpAnyH_take (i := 20) (oi := ⟨some 45, _, _, _, _, _⟩) (v := ?_) rfl (by kernel_rfl) (by kernel_rfl) (by kernel_rfl) (fun _ _ _ h => h) (Or.inl ⟨by rfl, ?_⟩) (by assumption) ?_
      rotate_left
      · intro wq hSw; go_simp; (try with_reducible rfl)
      try simp only [Act.put, List.setIfInBounds_toArray, List.set_cons_zero, List.set_cons_succ]
      refine wpAnyH_ready (rs := [22]) (by kernel_rfl) (by simp) ?_
      refine AllReadyH.cons (o := ⟨none, _, _, _, _, _⟩) rfl (fun K hK => ?_) AllReadyH.nil
      have hz0 := hHeld1.1.size; obtain ⟨⟨az0, ac0, af0⟩, ⟨az1, ac1, af1⟩, ⟨az2, ac2, af2⟩, ⟨az3, ac3, af3⟩, ⟨az4, ac4, af4⟩, ⟨az5, ac5, af5⟩, ⟨az6, ac6, af6⟩, ⟨az7, ac7, af7⟩, _⟩ := hHeld1.2; (try simp at hz0); (try simp at az0); (try simp at az1); (try simp at az2); (try simp at az3); (try simp at az4); (try simp at az5); (try simp at az6); (try simp at az7)
      obtain ⟨⟨t0z0, t0c0, t0f0⟩, ⟨t0z1, t0c1, t0f1⟩, _⟩ := hN9.2; (try simp at t0z0); (try simp at t0c0); (try simp at t0f0); (try simp at t0z1); (try simp at t0c1); (try simp at t0f1)
      go_simp
      refine hK.out _ _ (by first | exact hHeld1.alloc _ | (repeat (first | (with_reducible exact hHeld11) | (with_reducible exact (Keeps.undrewR hHeld11)) | (refine Keeps.set ?_ (by simp <;> omega) (by simp <;> omega) _) | (with_reducible refine Keeps.drew ?_)))) (fun hHeld12 => ?_)
      clear hK K
      try clear hb
      try simp only [Act.put, List.setIfInBounds_toArray, List.set_cons_zero, List.set_cons_succ]
      refine wpAnyH_take (i := 23) (oi := ⟨some 6, _, _, _, _, _⟩) (v := ?_) rfl (by kernel_rfl) (by kernel_rfl) (by kernel_rfl) (fun _ _ _ h => h) (Or.inl ⟨by rfl, ?_⟩) (by assumption) ?_
      rotate_left
      · intro wq hSw; go_simp; (try with_reducible rfl)
      try simp only [Act.put, List.setIfInBounds_toArray, List.set_cons_zero, List.set_cons_succ]
      refine wpAnyH_done (by kernel_rfl) ?_ _
      have hHeld := hHeld12
      obtain ⟨⟨kz0, kc0, kf0⟩, ⟨kz1, kc1, kf1⟩, ⟨kz2, kc2, kf2⟩, ⟨kz3, kc3, kf3⟩, ⟨kz4, kc4, kf4⟩, ⟨kz5, kc5, kf5⟩, ⟨kz6, kc6, kf6⟩, ⟨kz7, kc7, kf7⟩, _⟩ := hHeld.2
      (go_wp2_with fail; go_meet; (case rel => exact ⟨_, rfl, rfl, hHeld.1, hHeld.2.1, hHeld.2.2.1, ⟨by first | (simp; done) | (simp [*]; done) | (simp; omega), by simp [go_sem, *], by simp [*]⟩, ⟨by first | (simp; done) | (simp [*]; done) | (simp; omega), by simp [go_sem, *], by simp [*]⟩, trivial⟩))
      exact AllReadyH.nil
      refine AllReadyH.cons (o := ⟨some 5, _, _, _, _, _⟩) rfl (fun K hK => ?_) ?_
      go_simp
      refine hK.out _ _ (by first | exact hHeld0.alloc _ | exact (hHeld0.alloc _).drew) (fun hHeld13 => ?_)
      first | have hN13 := newK2 hHeld13 | have hN13 := newK2d hHeld13
      clear hK K
      try clear hb
      try simp only [Act.put, List.setIfInBounds_toArray, List.set_cons_zero, List.set_cons_succ]
      refine wpAnyH_ready (rs := [5]) (by kernel_rfl) (by simp) ?_
      refine AllReadyH.cons (o := ⟨some 31, _, _, _, _, _⟩) rfl (fun K hK => ?_) AllReadyH.nil
      go_simp
      (first | (with_reducible refine Calls.mono (P1.out _) ?_) | (with_reducible refine Calls.mono (P2.out _) ?_) | (with_reducible refine Calls.mono (A2.out _) ?_)); rintro e w5 ⟨rfl, hb⟩
      refine hK.out _ _ (hHeld13.next hb) (fun hHeld14 => ?_)
      replace hN13 := hN13.next hb
      clear hK K
      try clear hb
      try simp only [Act.put, List.setIfInBounds_toArray, List.set_cons_zero, List.set_cons_succ]
      refine wpAnyH_ready (rs := [13]) (by kernel_rfl) (by simp) ?_
      refine AllReadyH.cons (o := ⟨some 39, _, _, _, _, _⟩) rfl (fun K hK => ?_) AllReadyH.nil
      go_simp
      (first | (with_reducible refine Calls.mono (P1.out _) ?_) | (with_reducible refine Calls.mono (P2.out _) ?_) | (with_reducible refine Calls.mono (A2.out _) ?_)); rintro e w5 ⟨rfl, hb⟩
      refine hK.out _ _ (hHeld14.next hb) (fun hHeld15 => ?_)
      replace hN13 := hN13.next hb
      clear hK K
      try clear hb
      try simp only [Act.put, List.setIfInBounds_toArray, List.set_cons_zero, List.set_cons_succ]
      refine wpAnyH_take (i := 16) (oi := ⟨some 42, _, _, _, _, _⟩) (v := ?_) rfl (by kernel_rfl) (by kernel_rfl) (by kernel_rfl) (fun _ _ _ h => h) (Or.inl ⟨by rfl, ?_⟩) (by assumption) ?_
      rotate_left
      · intro wq hSw; go_simp; (try with_reducible rfl)
      try simp only [Act.put, List.setIfInBounds_toArray, List.set_cons_zero, List.set_cons_succ]
      refine wpAnyH_ready (rs := [17]) (by kernel_rfl) (by simp) ?_
      refine AllReadyH.cons (o := ⟨some 43, _, _, _, _, _⟩) rfl (fun K hK => ?_) AllReadyH.nil
      go_simp
      (first | (with_reducible refine Calls.mono (P1.out _) ?_) | (with_reducible refine Calls.mono (P2.out _) ?_) | (with_reducible refine Calls.mono (A2.out _) ?_)); rintro e w5 ⟨rfl, hb⟩
      refine hK.out _ _ (hHeld15.next hb) (fun hHeld16 => ?_)
      replace hN13 := hN13.next hb
      clear hK K
      try clear hb
      try simp only [Act.put, List.setIfInBounds_toArray, List.set_cons_zero, List.set_cons_succ]
      refine wpAnyH_take (i := 18) (oi := ⟨some 25, _, _, _, _, _⟩) (v := ?_) rfl (by kernel_rfl) (by kernel_rfl) (by kernel_rfl) (fun _ _ _ h => h) (Or.inl ⟨by rfl, ?_⟩) (by assumption) ?_
      rotate_left
      · intro wq hSw; go_simp; (try with_reducible rfl)
      try simp only [Act.put, List.setIfInBounds_toArray, List.set_cons_zero, List.set_cons_succ]
      refine wpAnyH_take (i := 19) (oi := ⟨some 44, _, _, _, _, _⟩) (v := ?_) rfl (by kernel_rfl) (by kernel_rfl) (by kernel_rfl) (fun _ _ _ h => h) (Or.inl ⟨by rfl, ?_⟩) (by assumption) ?_
      rotate_left
      · intro wq hSw; go_simp; (try with_reducible rfl)
      try simp only [Act.put, List.setIfInBounds_toArray, List.set_cons_zero, List.set_cons_succ]
      refine wpAnyH_take (i := 20) (oi := ⟨some 45, _, _, _, _, _⟩) (v := ?_) rfl (by kernel_rfl) (by kernel_rfl) (by kernel_rfl) (fun _ _ _ h => h) (Or.inl ⟨by rfl, ?_⟩) (by assumption) ?_
      rotate_left
      · intro wq hSw; go_simp; (try with_reducible rfl)
      try simp only [Act.put, List.setIfInBounds_toArray, List.set_cons_zero, List.set_cons_succ]
      refine wpAnyH_ready (rs := [22]) (by kernel_rfl) (by simp) ?_
      refine AllReadyH.cons (o := ⟨none, _, _, _, _, _⟩) rfl (fun K hK => ?_) AllReadyH.nil
      have hz0 := hHeld0.1.size; obtain ⟨⟨az0, ac0, af0⟩, ⟨az1, ac1, af1⟩, ⟨az2, ac2, af2⟩, ⟨az3, ac3, af3⟩, ⟨az4, ac4, af4⟩, ⟨az5, ac5, af5⟩, ⟨az6, ac6, af6⟩, ⟨az7, ac7, af7⟩, _⟩ := hHeld0.2; (try simp at hz0); (try simp at az0); (try simp at az1); (try simp at az2); (try simp at az3); (try simp at az4); (try simp at az5); (try simp at az6); (try simp at az7)
      obtain ⟨⟨t0z0, t0c0, t0f0⟩, ⟨t0z1, t0c1, t0f1⟩, _⟩ := hN13.2; (try simp at t0z0); (try simp at t0c0); (try simp at t0f0); (try simp at t0z1); (try simp at t0c1); (try simp at t0f1)
      go_simp
      refine hK.out _ _ (by first | exact hHeld0.alloc _ | (repeat (first | (with_reducible exact hHeld16) | (with_reducible exact (Keeps.undrewR hHeld16)) | (refine Keeps.set ?_ (by simp <;> omega) (by simp <;> omega) _) | (with_reducible refine Keeps.drew ?_)))) (fun hHeld17 => ?_)
      clear hK K
      try clear hb
      try simp only [Act.put, List.setIfInBounds_toArray, List.set_cons_zero, List.set_cons_succ]
      refine wpAnyH_take (i := 23) (oi := ⟨some 6, _, _, _, _, _⟩) (v := ?_) rfl (by kernel_rfl) (by kernel_rfl) (by kernel_rfl) (fun _ _ _ h => h) (Or.inl ⟨by rfl, ?_⟩) (by assumption) ?_
      rotate_left
      · intro wq hSw; go_simp; (try with_reducible rfl)
      try simp only [Act.put, List.setIfInBounds_toArray, List.set_cons_zero, List.set_cons_succ]
      refine wpAnyH_done (by kernel_rfl) ?_ _
      have hHeld := hHeld17
      obtain ⟨⟨kz0, kc0, kf0⟩, ⟨kz1, kc1, kf1⟩, ⟨kz2, kc2, kf2⟩, ⟨kz3, kc3, kf3⟩, ⟨kz4, kc4, kf4⟩, ⟨kz5, kc5, kf5⟩, ⟨kz6, kc6, kf6⟩, ⟨kz7, kc7, kf7⟩, _⟩ := hHeld.2
      (go_wp2_with fail; go_meet; (case rel => exact ⟨_, rfl, rfl, hHeld.1, hHeld.2.1, hHeld.2.2.1, ⟨by first | (simp; done) | (simp [*]; done) | (simp; omega), by simp [go_sem, *], by simp [*]⟩, ⟨by first | (simp; done) | (simp [*]; done) | (simp; omega), by simp [go_sem, *], by simp [*]⟩, trivial⟩))
      exact AllReadyH.nil
    case rest =>
      obtain ⟨g, rfl, rfl, hHeld⟩ := hcut
      clear hA hS
      (try clear hHeld0); (try clear hHeld1); (try clear hHeld2); (try clear hHeld3); (try clear hHeld4); (try clear hHeld5); (try clear hHeld6); (try clear hHeld7); (try clear hHeld8); (try clear hHeld9); (try clear hHeld10); (try clear hHeld11); (try clear hHeld12); (try clear hHeld13); (try clear hT0); (try clear kz0 kc0 kf0); (try clear kz1 kc1 kf1); (try clear kz2 kc2 kf2); (try clear kz3 kc3 kf3); (try clear kz4 kc4 kf4); (try clear kz5 kc5 kf5); (try clear kz6 kc6 kf6); (try clear kz7 kc7 kf7); (try clear kz8 kc8 kf8); (try clear kz9 kc9 kf9); (try clear kz10 kc10 kf10); (try clear kz11 kc11 kf11); (try clear kz12 kc12 kf12); (try clear kz13 kc13 kf13); (try clear t0z0 t0c0 t0f0); (try clear t0z1 t0c1 t0f1)
      obtain ⟨⟨kz0, kc0, kf0⟩, ⟨kz1, kc1, kf1⟩, ⟨kz2, kc2, kf2⟩, ⟨kz3, kc3, kf3⟩, _⟩ := hHeld.2
      go_wp2_with fail
      go_ret
      exact ⟨rfl, hHeld.1⟩
end Go.Proofs.Ytnacdofidmgfmaa
