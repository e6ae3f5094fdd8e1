/-
  The walk of the law FsumValues. Conditions: those written at each fact.
-/
import Derived.Test.YtnacdofidmgfmaaFsJ
import Derived.Test.YtnacdofidmgfmaaLnI
import Derived.Test.YtnacdofidmgfmaaLnW
namespace Go.Proofs.Ytnacdofidmgfmaa
open Go.RowKit

theorem setCell_size (W : World) (p : Addr) (u : Value) : (W.setCell p u).heap.size = W.heap.size := by simp [World.setCell]
set_option maxRecDepth 100000 in
set_option maxHeartbeats 4000000 in
theorem values6_walk (a sN sD xf xs xk al N0 D0 lR ln ld F S : Int) (K : Nat) (w : World)
    (ha : a.tmod 2305844108725321728 = al) (hN : sN.tmod 4611688217450643456 = N0) (hD : IntKind.i64.wrap (max sD 0 % 281474976710656 + 1) = D0)
    (hR2 : (max xf 0).tmod ld = lR) (hd0 : ¬ ld = 0) (hK : max xk 0 % 257 = (K : Int)) (hF : max xf 0 % 140737488355328 = F) (hS : max xs 0 % 549755813888 = S)
    (OF : ∀ W, Calls Try.prog 22 #[.int .i64 al, slV N0 D0] W (Ret W (.tuple #[lnV al 0 ln ld, .int .i64 0])))
    (T : Nat → Int)
    (LI : ∀ W, Calls Try.prog 16 #[lnV al lR ln ld, .int .i64 F, .int .i64 S, .int .i64 K] W (Ret W (.tuple #[wideV (rhi (T K)) (rlo (T K)), .int .i64 0])))
    (q v c : Nat → Int) (T0 : T 0 = 0)
    (HL : ∀ k, k < K → ∀ W, Calls Try.prog 16 #[lnV al lR ln ld, .int .i64 (F + k * S), .int .i64 0, .int .i64 1] W (Ret W (.tuple #[wideV (rhi (q k)) (rlo (q k)), .int .i64 0])))
    (HA : ∀ k, k < K → ∀ W, Calls Try.prog 23 #[lnV al lR ln ld, .int .i64 (F + k * S)] W (Ret W (.tuple #[.int .i64 (v k), .int .i64 (c k)])))
    (HV : ∀ k, k < K → c k = 0 → v k = q k ∧ I64 (q k))
    (HP : ∀ k, k < K → ∀ W, Calls Try.prog 20 #[wideV (rhi (T k)) (rlo (T k)), wideV (rhi (q k)) (rlo (q k)), .int .i64 1] W (Ret W (wideV (rhi (T (k + 1))) (rlo (T (k + 1))))))
    (HW : ∀ k : Nat, k < K → 0 ≤ (k : Int) * S ∧ (k : Int) * S ≤ 281474976710656 ∧ 0 ≤ F + (k : Int) * S ∧ F + (k : Int) * S ≤ 281474976710656) :
    Calls Try.prog 10 #[.int .i64 a, slV sN sD, .agg #[.int .i64 xf, .int .i64 xs, .int .i64 xk]] w (Ret w (.bool true)) := by
  have WK := Lib.hid (fun W => wakes6_any W)
  replace OF := Lib.hid OF
  replace LI := Lib.hid LI
  replace HL := Lib.hid HL
  replace HA := Lib.hid HA
  replace HV := Lib.hid HV
  replace HP := Lib.hid HP
  replace HW := Lib.hid HW
  replace T0 := Lib.hid T0
  go_enter Try.func10, Try.ntmps10
  go_wp2_with fail
  refine (WK.out _).mono ?_
  rintro e w1 ⟨rfl, hb⟩
  have hHeld : Keeps w [(w.heap.size, 0, .int .i64 sN), (w.heap.size, 1, .int .i64 sD), (w.heap.size + 1, 0, .int .i64 xf), (w.heap.size + 1, 1, .int .i64 xs), (w.heap.size + 1, 2, .int .i64 xk)] _ := Keeps.next (by refine ⟨by go_grown, ?_⟩; simp [Cells, go_sem]) hb
  clear hb
  obtain ⟨⟨kz0, kc0, kf0⟩, ⟨kz1, kc1, kf1⟩, ⟨kz2, kc2, kf2⟩, ⟨kz3, kc3, kf3⟩, ⟨kz4, kc4, kf4⟩, _⟩ := hHeld.2
  go_wp2_with fail
  refine (OF.out _).mono ?_
  rintro e w2 ⟨rfl, hb⟩
  have h1 : Keeps w [(w.heap.size, 0, .int .i64 N0), (w.heap.size, 1, .int .i64 sD), (w.heap.size + 1, 0, .int .i64 xf), (w.heap.size + 1, 1, .int .i64 xs), (w.heap.size + 1, 2, .int .i64 xk)] _ := hHeld.put (o := 0) (a := .int .i64 sN) (u := .int .i64 N0) (Nat.le_refl _) (by simp) (by simp)
  have h2 : Keeps w [(w.heap.size, 0, .int .i64 N0), (w.heap.size, 1, .int .i64 D0), (w.heap.size + 1, 0, .int .i64 xf), (w.heap.size + 1, 1, .int .i64 xs), (w.heap.size + 1, 2, .int .i64 xk)] _ := h1.put (o := 1) (a := .int .i64 sD) (u := .int .i64 D0) (Nat.le_refl _) (by simp) (by simp)
  have hX : Keeps w [(w.heap.size + 1, 0, .int .i64 xf), (w.heap.size + 1, 1, .int .i64 xs), (w.heap.size + 1, 2, .int .i64 xk)] w2 := (h2.next hb).sub (by simp)
  clear hb h1 h2 hHeld
  (try clear hHeld0); (try clear hHeld1); (try clear hHeld2); (try clear hHeld3); (try clear hHeld4); (try clear hHeld5); (try clear hHeld6); (try clear hHeld7); (try clear hHeld8); (try clear hHeld9); (try clear hHeld10); (try clear hHeld11); (try clear hHeld12); (try clear hHeld13); (try clear hT0); (try clear kz0 kc0 kf0); (try clear kz1 kc1 kf1); (try clear kz2 kc2 kf2); (try clear kz3 kc3 kf3); (try clear kz4 kc4 kf4); (try clear kz5 kc5 kf5); (try clear kz6 kc6 kf6); (try clear kz7 kc7 kf7); (try clear kz8 kc8 kf8); (try clear kz9 kc9 kf9); (try clear kz10 kc10 kf10); (try clear kz11 kc11 kf11); (try clear kz12 kc12 kf12); (try clear kz13 kc13 kf13); (try clear t0z0 t0c0 t0f0); (try clear t0z1 t0c1 t0f1)
  obtain ⟨⟨kz0, kc0, kf0⟩, ⟨kz1, kc1, kf1⟩, ⟨kz2, kc2, kf2⟩, _⟩ := hX.2
  go_wp2_with fail
  refine (LI.out _).mono ?_
  rintro e w3 ⟨rfl, hb⟩
  have h1 : Keeps w [(w.heap.size + 1, 0, .int .i64 xf), (w.heap.size + 1, 1, .int .i64 xs), (w.heap.size + 1, 2, .int .i64 K)] _ := hX.put (B := w.heap.size + 1) (o := 2) (a := .int .i64 xk) (u := .int .i64 K) (by omega) (by simp) (by simp)
  have h2 : Keeps w [(w.heap.size + 1, 0, .int .i64 F), (w.heap.size + 1, 1, .int .i64 xs), (w.heap.size + 1, 2, .int .i64 K)] _ := h1.put (B := w.heap.size + 1) (o := 0) (a := .int .i64 xf) (u := .int .i64 F) (by omega) (by simp) (by simp)
  have h3 : Keeps w [(w.heap.size + 1, 0, .int .i64 F), (w.heap.size + 1, 1, .int .i64 S), (w.heap.size + 1, 2, .int .i64 K)] _ := h2.put (B := w.heap.size + 1) (o := 1) (a := .int .i64 xs) (u := .int .i64 S) (by omega) (by simp) (by simp)
  have hM := newK4 (h3.alloc (.cells #[.int .i64 al, .int .i64 lR, .int .i64 ln, .int .i64 ld] 38))
  simp only [setCell_size] at hM
  have hS := (hM.app (h3.alloc _)).next hb
  clear hb h1 h2 h3 hM hX
  (try clear hHeld0); (try clear hHeld1); (try clear hHeld2); (try clear hHeld3); (try clear hHeld4); (try clear hHeld5); (try clear hHeld6); (try clear hHeld7); (try clear hHeld8); (try clear hHeld9); (try clear hHeld10); (try clear hHeld11); (try clear hHeld12); (try clear hHeld13); (try clear hT0); (try clear kz0 kc0 kf0); (try clear kz1 kc1 kf1); (try clear kz2 kc2 kf2); (try clear kz3 kc3 kf3); (try clear kz4 kc4 kf4); (try clear kz5 kc5 kf5); (try clear kz6 kc6 kf6); (try clear kz7 kc7 kf7); (try clear kz8 kc8 kf8); (try clear kz9 kc9 kf9); (try clear kz10 kc10 kf10); (try clear kz11 kc11 kf11); (try clear kz12 kc12 kf12); (try clear kz13 kc13 kf13); (try clear t0z0 t0c0 t0f0); (try clear t0z1 t0c1 t0f1)
  obtain ⟨⟨kz0, kc0, kf0⟩, ⟨kz1, kc1, kf1⟩, ⟨kz2, kc2, kf2⟩, ⟨kz3, kc3, kf3⟩, ⟨kz4, kc4, kf4⟩, ⟨kz5, kc5, kf5⟩, ⟨kz6, kc6, kf6⟩, _⟩ := hS.2
  have z8 : w.heap.size < w3.heap.size := by omega
  have z9 : ¬ w.heap.size = w3.heap.size := by omega
  go_wp2_with fail
  have hU := newK2 ((hS.alloc (.cells #[.int .i64 (rhi (T K)), .int .u64 (rlo (T K))] 24)).alloc (.cells #[.int .i64 0, .int .u64 0] 24))
  have hV := (newK2 (hS.alloc (.cells #[.int .i64 (rhi (T K)), .int .u64 (rlo (T K))] 24))).alloc (.cells #[.int .i64 0, .int .u64 0] 24)
  have hT := (hU.app hV).app ((hS.alloc (.cells #[.int .i64 (rhi (T K)), .int .u64 (rlo (T K))] 24)).alloc (.cells #[.int .i64 0, .int .u64 0] 24))
  rw [show (w3.alloc (.cells #[.int .i64 (rhi (T K)), .int .u64 (rlo (T K))] 24)).heap.size = w3.heap.size + 1 by simp] at hT
  obtain ⟨sb, hsb⟩ : ∃ sb, sb = w3.heap.size + 1 := ⟨_, rfl⟩
  have n1 : w3.heap.size ≠ sb := by omega
  have n2 : w2.heap.size ≠ sb := by omega
  have n3 : w.heap.size + 1 ≠ sb := by omega
  have sl := Lib.hid (show w.heap.size ≤ sb by omega)
  rw [← hsb] at hT
  rw [← hsb]
  clear hsb hU hV hS
  (try clear hHeld0); (try clear hHeld1); (try clear hHeld2); (try clear hHeld3); (try clear hHeld4); (try clear hHeld5); (try clear hHeld6); (try clear hHeld7); (try clear hHeld8); (try clear hHeld9); (try clear hHeld10); (try clear hHeld11); (try clear hHeld12); (try clear hHeld13); (try clear hT0); (try clear kz0 kc0 kf0); (try clear kz1 kc1 kf1); (try clear kz2 kc2 kf2); (try clear kz3 kc3 kf3); (try clear kz4 kc4 kf4); (try clear kz5 kc5 kf5); (try clear kz6 kc6 kf6); (try clear kz7 kc7 kf7); (try clear kz8 kc8 kf8); (try clear kz9 kc9 kf9); (try clear kz10 kc10 kf10); (try clear kz11 kc11 kf11); (try clear kz12 kc12 kf12); (try clear kz13 kc13 kf13); (try clear t0z0 t0c0 t0f0); (try clear t0z1 t0c1 t0f1)
  go_loopw [74] (fun i wr => ∃ k : Nat, i = .int .i64 k ∧ k ≤ K ∧ Keeps w [(sb, 0, .int .i64 (rhi (T k))), (sb, 1, .int .u64 (rlo (T k))), (w3.heap.size, 0, .int .i64 (rhi (T K))), (w3.heap.size, 1, .int .u64 (rlo (T K))), (w2.heap.size, 0, .int .i64 al), (w2.heap.size, 1, .int .i64 lR), (w2.heap.size, 2, .int .i64 ln), (w2.heap.size, 3, .int .i64 ld), (w.heap.size + 1, 0, .int .i64 F), (w.heap.size + 1, 1, .int .i64 S), (w.heap.size + 1, 2, .int .i64 K)] wr) (fun i _ => K - (intOf i).toNat)
  case atStart => exact ⟨0, rfl, by omega, by rw [T0.out, zero_words.1, zero_words.2]; exact hT⟩
  case round =>
    obtain ⟨k, rfl, hkK, hHeld⟩ := hrel
    clear hT
    by_cases gk : k < K
    · have LA := Lib.hid (HL.out k gk)
      have LB := HA.out k gk
      have LP := Lib.hid (HP.out k gk)
      have LV := HV.out k gk
      obtain ⟨y0, y1, y2, y3⟩ := HW.out k gk
      have W1 : IntKind.i64.wrap ((k : Int) * S) = (k : Int) * S := by rw [IntKind.wrap_i64]; omega
      have W2 : IntKind.i64.wrap (F + (k : Int) * S) = F + (k : Int) * S := by rw [IntKind.wrap_i64]; omega
      have W3 : wrap64 (F + (k : Int) * S) = F + (k : Int) * S := by unfold wrap64; omega
      clear y0 y1 y2 y3
      obtain ⟨at', hat⟩ : ∃ z, z = F + (k : Int) * S := ⟨_, rfl⟩
      rw [← hat] at LA LB
      replace W2 : IntKind.i64.wrap (F + (k : Int) * S) = at' := by rw [W2, hat]
      replace W3 : wrap64 (F + (k : Int) * S) = at' := by rw [W3, hat]
      clear hat
      obtain ⟨p0, hp0⟩ : ∃ z, rhi (T (k + 1)) = z := ⟨_, rfl⟩
      obtain ⟨p1, hp1⟩ : ∃ z, rlo (T (k + 1)) = z := ⟨_, rfl⟩
      rw [hp0, hp1] at LP
      replace hp0 := Lib.hid hp0
      replace hp1 := Lib.hid hp1
      by_cases gc : c k = 0
      · obtain ⟨hv, iv⟩ := LV gc
        rw [gc, hv] at LB
        have LO := Lib.hid (fun W => low_any (q k) iv W)
        replace LB := Lib.hid LB
        clear iv hv gc LV
        generalize q k = qk at *
        generalize rhi qk = q0 at *
        generalize rlo qk = q1 at *
        generalize rhi (T k) = t0 at *
        generalize rlo (T k) = t1 at *
        obtain ⟨⟨kz0, kc0, kf0⟩, ⟨kz1, kc1, kf1⟩, ⟨kz2, kc2, kf2⟩, ⟨kz3, kc3, kf3⟩, ⟨kz4, kc4, kf4⟩, ⟨kz5, kc5, kf5⟩, ⟨kz6, kc6, kf6⟩, ⟨kz7, kc7, kf7⟩, ⟨kz8, kc8, kf8⟩, ⟨kz9, kc9, kf9⟩, ⟨kz10, kc10, kf10⟩, _⟩ := hHeld.2
        go_wp2_with fail
        refine (LA.out _).mono ?_
        rintro e wa ⟨rfl, hb⟩
        replace hHeld := hHeld.next hb
        clear hb
        (try clear hHeld0); (try clear hHeld1); (try clear hHeld2); (try clear hHeld3); (try clear hHeld4); (try clear hHeld5); (try clear hHeld6); (try clear hHeld7); (try clear hHeld8); (try clear hHeld9); (try clear hHeld10); (try clear hHeld11); (try clear hHeld12); (try clear hHeld13); (try clear hT0); (try clear kz0 kc0 kf0); (try clear kz1 kc1 kf1); (try clear kz2 kc2 kf2); (try clear kz3 kc3 kf3); (try clear kz4 kc4 kf4); (try clear kz5 kc5 kf5); (try clear kz6 kc6 kf6); (try clear kz7 kc7 kf7); (try clear kz8 kc8 kf8); (try clear kz9 kc9 kf9); (try clear kz10 kc10 kf10); (try clear kz11 kc11 kf11); (try clear kz12 kc12 kf12); (try clear kz13 kc13 kf13); (try clear t0z0 t0c0 t0f0); (try clear t0z1 t0c1 t0f1)
        obtain ⟨⟨kz0, kc0, kf0⟩, ⟨kz1, kc1, kf1⟩, ⟨kz2, kc2, kf2⟩, ⟨kz3, kc3, kf3⟩, ⟨kz4, kc4, kf4⟩, ⟨kz5, kc5, kf5⟩, ⟨kz6, kc6, kf6⟩, ⟨kz7, kc7, kf7⟩, ⟨kz8, kc8, kf8⟩, ⟨kz9, kc9, kf9⟩, ⟨kz10, kc10, kf10⟩, _⟩ := hHeld.2
        go_wp2_with fail
        refine (LB.out _).mono ?_
        rintro e wb ⟨rfl, hb⟩
        replace hHeld := ((newK2 (hHeld.alloc _)).app (hHeld.alloc _)).next hb
        clear hb
        (try clear hHeld0); (try clear hHeld1); (try clear hHeld2); (try clear hHeld3); (try clear hHeld4); (try clear hHeld5); (try clear hHeld6); (try clear hHeld7); (try clear hHeld8); (try clear hHeld9); (try clear hHeld10); (try clear hHeld11); (try clear hHeld12); (try clear hHeld13); (try clear hT0); (try clear kz0 kc0 kf0); (try clear kz1 kc1 kf1); (try clear kz2 kc2 kf2); (try clear kz3 kc3 kf3); (try clear kz4 kc4 kf4); (try clear kz5 kc5 kf5); (try clear kz6 kc6 kf6); (try clear kz7 kc7 kf7); (try clear kz8 kc8 kf8); (try clear kz9 kc9 kf9); (try clear kz10 kc10 kf10); (try clear kz11 kc11 kf11); (try clear kz12 kc12 kf12); (try clear kz13 kc13 kf13); (try clear t0z0 t0c0 t0f0); (try clear t0z1 t0c1 t0f1)
        obtain ⟨⟨kz0, kc0, kf0⟩, ⟨kz1, kc1, kf1⟩, ⟨kz2, kc2, kf2⟩, ⟨kz3, kc3, kf3⟩, ⟨kz4, kc4, kf4⟩, ⟨kz5, kc5, kf5⟩, ⟨kz6, kc6, kf6⟩, ⟨kz7, kc7, kf7⟩, ⟨kz8, kc8, kf8⟩, ⟨kz9, kc9, kf9⟩, ⟨kz10, kc10, kf10⟩, ⟨kz11, kc11, kf11⟩, ⟨kz12, kc12, kf12⟩, _⟩ := hHeld.2
        go_wp2_with fail
        refine region_keeps (w0 := w) (L := [(wa.heap.size, 0, .int .i64 q0), (wa.heap.size, 1, .int .u64 q1), (sb, 0, .int .i64 t0), (sb, 1, .int .u64 t1), (w3.heap.size, 0, .int .i64 (rhi (T K))), (w3.heap.size, 1, .int .u64 (rlo (T K))), (w2.heap.size, 0, .int .i64 al), (w2.heap.size, 1, .int .i64 lR), (w2.heap.size, 2, .int .i64 ln), (w2.heap.size, 3, .int .i64 ld), (w.heap.size + 1, 0, .int .i64 F), (w.heap.size + 1, 1, .int .i64 S), (w.heap.size + 1, 2, .int .i64 K)]) (by kernel_rfl) hHeld (fun hHeld0 => ?_)
        refine wpAnyH_take (i := 0) (oi := ⟨some 96, _, _, _, _, _⟩) (v := ?_) rfl (by kernel_rfl) (by kernel_rfl) (by kernel_rfl) (fun _ _ _ h => h) (Or.inl ⟨by rfl, ?_⟩) (by assumption) ?_
        rotate_left
        · intro wq hSw; go_simp; (try with_reducible rfl)
        try simp only [Act.put, List.setIfInBounds_toArray, List.set_cons_zero, List.set_cons_succ]
        refine wpAnyH_take (i := 1) (oi := ⟨some 97, _, _, _, _, _⟩) (v := ?_) rfl (by kernel_rfl) (by kernel_rfl) (by kernel_rfl) (fun _ _ _ h => h) (Or.inl ⟨by rfl, ?_⟩) (by assumption) ?_
        rotate_left
        · intro wq hSw; go_simp; (try with_reducible rfl)
        try simp only [Act.put, List.setIfInBounds_toArray, List.set_cons_zero, List.set_cons_succ]
        refine wpAnyH_take (i := 2) (oi := ⟨some 98, _, _, _, _, _⟩) (v := ?_) rfl (by kernel_rfl) (by kernel_rfl) (by kernel_rfl) (fun _ _ _ h => h) (Or.inl ⟨by rfl, ?_⟩) (by assumption) ?_
        rotate_left
        · intro wq hSw; go_simp; (try with_reducible rfl)
        try simp only [Act.put, List.setIfInBounds_toArray, List.set_cons_zero, List.set_cons_succ]
        refine wpAnyH_take (i := 3) (oi := ⟨some 99, _, _, _, _, _⟩) (v := ?_) rfl (by kernel_rfl) (by kernel_rfl) (by kernel_rfl) (fun _ _ _ h => h) (Or.inl ⟨by rfl, ?_⟩) (by assumption) ?_
        rotate_left
        · intro wq hSw; go_simp; (try with_reducible rfl)
        try simp only [Act.put, List.setIfInBounds_toArray, List.set_cons_zero, List.set_cons_succ]
        refine wpAnyH_take (i := 4) (oi := ⟨some 100, _, _, _, _, _⟩) (v := ?_) rfl (by kernel_rfl) (by kernel_rfl) (by kernel_rfl) (fun _ _ _ h => h) (Or.inl ⟨by rfl, ?_⟩) (by assumption) ?_
        rotate_left
        · intro wq hSw; go_simp; (try with_reducible rfl)
        try simp only [Act.put, List.setIfInBounds_toArray, List.set_cons_zero, List.set_cons_succ]
        refine wpAnyH_take (i := 5) (oi := ⟨some 101, _, _, _, _, _⟩) (v := ?_) rfl (by kernel_rfl) (by kernel_rfl) (by kernel_rfl) (fun _ _ _ h => h) (Or.inl ⟨by rfl, ?_⟩) (by assumption) ?_
        rotate_left
        · intro wq hSw; go_simp; (try with_reducible rfl)
        try simp only [Act.put, List.setIfInBounds_toArray, List.set_cons_zero, List.set_cons_succ]
        refine wpAnyH_take (i := 6) (oi := ⟨some 102, _, _, _, _, _⟩) (v := ?_) rfl (by kernel_rfl) (by kernel_rfl) (by kernel_rfl) (fun _ _ _ h => h) (Or.inl ⟨by rfl, ?_⟩) (by assumption) ?_
        rotate_left
        · intro wq hSw; obtain ⟨⟨qz0, qc0, qf0⟩, ⟨qz1, qc1, qf1⟩, ⟨qz2, qc2, qf2⟩, ⟨qz3, qc3, qf3⟩, ⟨qz4, qc4, qf4⟩, ⟨qz5, qc5, qf5⟩, ⟨qz6, qc6, qf6⟩, ⟨qz7, qc7, qf7⟩, ⟨qz8, qc8, qf8⟩, ⟨qz9, qc9, qf9⟩, ⟨qz10, qc10, qf10⟩, ⟨qz11, qc11, qf11⟩, ⟨qz12, qc12, qf12⟩, _⟩ := hSw.2; go_simp; (try with_reducible rfl)
        try simp only [Act.put, List.setIfInBounds_toArray, List.set_cons_zero, List.set_cons_succ]
        refine wpAnyH_take (i := 7) (oi := ⟨some 103, _, _, _, _, _⟩) (v := ?_) rfl (by kernel_rfl) (by kernel_rfl) (by kernel_rfl) (fun _ _ _ h => h) (Or.inl ⟨by rfl, ?_⟩) (by assumption) ?_
        rotate_left
        · intro wq hSw; go_simp; (try with_reducible rfl)
        try simp only [Act.put, List.setIfInBounds_toArray, List.set_cons_zero, List.set_cons_succ]
        refine wpAnyH_ready (rs := [8]) (by kernel_rfl) (by simp) ?_
        refine AllReadyH.cons (o := ⟨some 104, _, _, _, _, _⟩) rfl (fun K hK => ?_) AllReadyH.nil
        go_simp
        (with_reducible refine Calls.mono (LO.out _) ?_); rintro e wc ⟨rfl, hb⟩
        refine hK.out _ _ (hHeld0.next hb) (fun hHeld1 => ?_)
        clear hK K
        try clear hb
        try simp only [Act.put, List.setIfInBounds_toArray, List.set_cons_zero, List.set_cons_succ]
        refine wpAnyH_take (i := 9) (oi := ⟨some 105, _, _, _, _, _⟩) (v := ?_) rfl (by kernel_rfl) (by kernel_rfl) (by kernel_rfl) (fun _ _ _ h => h) (Or.inl ⟨by rfl, ?_⟩) (by assumption) ?_
        rotate_left
        · intro wq hSw; go_simp; (try with_reducible rfl)
        try simp only [Act.put, List.setIfInBounds_toArray, List.set_cons_zero, List.set_cons_succ]
        refine wpAnyH_take (i := 10) (oi := ⟨some 106, _, _, _, _, _⟩) (v := ?_) rfl (by kernel_rfl) (by kernel_rfl) (by kernel_rfl) (fun _ _ _ h => h) (Or.inl ⟨by rfl, ?_⟩) (by assumption) ?_
        rotate_left
        · intro wq hSw; go_simp; (try with_reducible rfl)
        try simp only [Act.put, List.setIfInBounds_toArray, List.set_cons_zero, List.set_cons_succ]
        refine wpAnyH_take (i := 11) (oi := ⟨some 107, _, _, _, _, _⟩) (v := ?_) rfl (by kernel_rfl) (by kernel_rfl) (by kernel_rfl) (fun _ _ _ h => h) (Or.inl ⟨by rfl, ?_⟩) (by assumption) ?_
        rotate_left
        · intro wq hSw; go_simp; (try with_reducible rfl)
        try simp only [Act.put, List.setIfInBounds_toArray, List.set_cons_zero, List.set_cons_succ]
        refine wpAnyH_done (by kernel_rfl) ?_ _
        have hHeld := hHeld1
        obtain ⟨⟨kz0, kc0, kf0⟩, ⟨kz1, kc1, kf1⟩, ⟨kz2, kc2, kf2⟩, ⟨kz3, kc3, kf3⟩, ⟨kz4, kc4, kf4⟩, ⟨kz5, kc5, kf5⟩, ⟨kz6, kc6, kf6⟩, ⟨kz7, kc7, kf7⟩, ⟨kz8, kc8, kf8⟩, ⟨kz9, kc9, kf9⟩, ⟨kz10, kc10, kf10⟩, ⟨kz11, kc11, kf11⟩, ⟨kz12, kc12, kf12⟩, _⟩ := hHeld.2
        all_goals
          go_wp2_with fail
          refine (LP.out _).mono ?_
          rintro e wd ⟨rfl, hb⟩
          replace hHeld := hHeld.next hb
          clear hb
          (try clear hHeld0); (try clear hHeld1); (try clear hHeld2)
          (try clear hHeld0); (try clear hHeld1); (try clear hHeld2); (try clear hHeld3); (try clear hHeld4); (try clear hHeld5); (try clear hHeld6); (try clear hHeld7); (try clear hHeld8); (try clear hHeld9); (try clear hHeld10); (try clear hHeld11); (try clear hHeld12); (try clear hHeld13); (try clear hT0); (try clear kz0 kc0 kf0); (try clear kz1 kc1 kf1); (try clear kz2 kc2 kf2); (try clear kz3 kc3 kf3); (try clear kz4 kc4 kf4); (try clear kz5 kc5 kf5); (try clear kz6 kc6 kf6); (try clear kz7 kc7 kf7); (try clear kz8 kc8 kf8); (try clear kz9 kc9 kf9); (try clear kz10 kc10 kf10); (try clear kz11 kc11 kf11); (try clear kz12 kc12 kf12); (try clear kz13 kc13 kf13); (try clear t0z0 t0c0 t0f0); (try clear t0z1 t0c1 t0f1)
          obtain ⟨⟨kz0, kc0, kf0⟩, ⟨kz1, kc1, kf1⟩, ⟨kz2, kc2, kf2⟩, ⟨kz3, kc3, kf3⟩, ⟨kz4, kc4, kf4⟩, ⟨kz5, kc5, kf5⟩, ⟨kz6, kc6, kf6⟩, ⟨kz7, kc7, kf7⟩, ⟨kz8, kc8, kf8⟩, ⟨kz9, kc9, kf9⟩, ⟨kz10, kc10, kf10⟩, ⟨kz11, kc11, kf11⟩, ⟨kz12, kc12, kf12⟩, _⟩ := hHeld.2
          have g1 : Keeps w [(sb, 0, .int .i64 p0), (sb, 1, .int .u64 t1), (w3.heap.size, 0, .int .i64 (rhi (T K))), (w3.heap.size, 1, .int .u64 (rlo (T K))), (w2.heap.size, 0, .int .i64 al), (w2.heap.size, 1, .int .i64 lR), (w2.heap.size, 2, .int .i64 ln), (w2.heap.size, 3, .int .i64 ld), (w.heap.size + 1, 0, .int .i64 F), (w.heap.size + 1, 1, .int .i64 S), (w.heap.size + 1, 2, .int .i64 K)] _ := hHeld.put (B := sb) (o := 0) (a := .int .i64 t0) (u := .int .i64 p0) sl.out (by simp) (by simp [n1, n2, n3])
          have g2 : Keeps w [(sb, 0, .int .i64 p0), (sb, 1, .int .u64 p1), (w3.heap.size, 0, .int .i64 (rhi (T K))), (w3.heap.size, 1, .int .u64 (rlo (T K))), (w2.heap.size, 0, .int .i64 al), (w2.heap.size, 1, .int .i64 lR), (w2.heap.size, 2, .int .i64 ln), (w2.heap.size, 3, .int .i64 ld), (w.heap.size + 1, 0, .int .i64 F), (w.heap.size + 1, 1, .int .i64 S), (w.heap.size + 1, 2, .int .i64 K)] _ := g1.put (B := sb) (o := 1) (a := .int .u64 t1) (u := .int .u64 p1) sl.out (by simp) (by simp [n1, n2, n3])
          clear g1 hHeld
          go_wp2_with fail
          go_roundw
          case rel => exact ⟨k + 1, by simp, by omega, by rw [hp0.out, hp1.out]; exact g2⟩
          case measure => simp [intOf]; omega
      · have cF : (c k == 0) = false := by simpa using gc
        replace LB := Lib.hid LB
        clear gc LV
        generalize c k = ck at *
        generalize v k = vk at *
        generalize rhi (q k) = q0 at *
        generalize rlo (q k) = q1 at *
        generalize rhi (T k) = t0 at *
        generalize rlo (T k) = t1 at *
        obtain ⟨⟨kz0, kc0, kf0⟩, ⟨kz1, kc1, kf1⟩, ⟨kz2, kc2, kf2⟩, ⟨kz3, kc3, kf3⟩, ⟨kz4, kc4, kf4⟩, ⟨kz5, kc5, kf5⟩, ⟨kz6, kc6, kf6⟩, ⟨kz7, kc7, kf7⟩, ⟨kz8, kc8, kf8⟩, ⟨kz9, kc9, kf9⟩, ⟨kz10, kc10, kf10⟩, _⟩ := hHeld.2
        go_wp2_with fail
        refine (LA.out _).mono ?_
        rintro e wa ⟨rfl, hb⟩
        replace hHeld := hHeld.next hb
        clear hb
        (try clear hHeld0); (try clear hHeld1); (try clear hHeld2); (try clear hHeld3); (try clear hHeld4); (try clear hHeld5); (try clear hHeld6); (try clear hHeld7); (try clear hHeld8); (try clear hHeld9); (try clear hHeld10); (try clear hHeld11); (try clear hHeld12); (try clear hHeld13); (try clear hT0); (try clear kz0 kc0 kf0); (try clear kz1 kc1 kf1); (try clear kz2 kc2 kf2); (try clear kz3 kc3 kf3); (try clear kz4 kc4 kf4); (try clear kz5 kc5 kf5); (try clear kz6 kc6 kf6); (try clear kz7 kc7 kf7); (try clear kz8 kc8 kf8); (try clear kz9 kc9 kf9); (try clear kz10 kc10 kf10); (try clear kz11 kc11 kf11); (try clear kz12 kc12 kf12); (try clear kz13 kc13 kf13); (try clear t0z0 t0c0 t0f0); (try clear t0z1 t0c1 t0f1)
        obtain ⟨⟨kz0, kc0, kf0⟩, ⟨kz1, kc1, kf1⟩, ⟨kz2, kc2, kf2⟩, ⟨kz3, kc3, kf3⟩, ⟨kz4, kc4, kf4⟩, ⟨kz5, kc5, kf5⟩, ⟨kz6, kc6, kf6⟩, ⟨kz7, kc7, kf7⟩, ⟨kz8, kc8, kf8⟩, ⟨kz9, kc9, kf9⟩, ⟨kz10, kc10, kf10⟩, _⟩ := hHeld.2
        go_wp2_with fail
        refine (LB.out _).mono ?_
        rintro e wb ⟨rfl, hb⟩
        replace hHeld := ((newK2 (hHeld.alloc _)).app (hHeld.alloc _)).next hb
        clear hb
        (try clear hHeld0); (try clear hHeld1); (try clear hHeld2); (try clear hHeld3); (try clear hHeld4); (try clear hHeld5); (try clear hHeld6); (try clear hHeld7); (try clear hHeld8); (try clear hHeld9); (try clear hHeld10); (try clear hHeld11); (try clear hHeld12); (try clear hHeld13); (try clear hT0); (try clear kz0 kc0 kf0); (try clear kz1 kc1 kf1); (try clear kz2 kc2 kf2); (try clear kz3 kc3 kf3); (try clear kz4 kc4 kf4); (try clear kz5 kc5 kf5); (try clear kz6 kc6 kf6); (try clear kz7 kc7 kf7); (try clear kz8 kc8 kf8); (try clear kz9 kc9 kf9); (try clear kz10 kc10 kf10); (try clear kz11 kc11 kf11); (try clear kz12 kc12 kf12); (try clear kz13 kc13 kf13); (try clear t0z0 t0c0 t0f0); (try clear t0z1 t0c1 t0f1)
        obtain ⟨⟨kz0, kc0, kf0⟩, ⟨kz1, kc1, kf1⟩, ⟨kz2, kc2, kf2⟩, ⟨kz3, kc3, kf3⟩, ⟨kz4, kc4, kf4⟩, ⟨kz5, kc5, kf5⟩, ⟨kz6, kc6, kf6⟩, ⟨kz7, kc7, kf7⟩, ⟨kz8, kc8, kf8⟩, ⟨kz9, kc9, kf9⟩, ⟨kz10, kc10, kf10⟩, ⟨kz11, kc11, kf11⟩, ⟨kz12, kc12, kf12⟩, _⟩ := hHeld.2
        go_wp2_with fail
        refine region_keeps (w0 := w) (L := [(wa.heap.size, 0, .int .i64 q0), (wa.heap.size, 1, .int .u64 q1), (sb, 0, .int .i64 t0), (sb, 1, .int .u64 t1), (w3.heap.size, 0, .int .i64 (rhi (T K))), (w3.heap.size, 1, .int .u64 (rlo (T K))), (w2.heap.size, 0, .int .i64 al), (w2.heap.size, 1, .int .i64 lR), (w2.heap.size, 2, .int .i64 ln), (w2.heap.size, 3, .int .i64 ld), (w.heap.size + 1, 0, .int .i64 F), (w.heap.size + 1, 1, .int .i64 S), (w.heap.size + 1, 2, .int .i64 K)]) (by kernel_rfl) hHeld (fun hHeld0 => ?_)
        refine wpAnyH_take (i := 0) (oi := ⟨some 96, _, _, _, _, _⟩) (v := ?_) rfl (by kernel_rfl) (by kernel_rfl) (by kernel_rfl) (fun _ _ _ h => h) (Or.inl ⟨by rfl, ?_⟩) (by assumption) ?_
        rotate_left
        · intro wq hSw; go_simp; (try with_reducible rfl)
        try simp only [Act.put, List.setIfInBounds_toArray, List.set_cons_zero, List.set_cons_succ]
        refine wpAnyH_take (i := 1) (oi := ⟨some 97, _, _, _, _, _⟩) (v := ?_) rfl (by kernel_rfl) (by kernel_rfl) (by kernel_rfl) (fun _ _ _ h => h) (Or.inl ⟨by rfl, ?_⟩) (by assumption) ?_
        rotate_left
        · intro wq hSw; go_simp; (try with_reducible rfl)
        try simp only [Act.put, List.setIfInBounds_toArray, List.set_cons_zero, List.set_cons_succ]
        refine wpAnyH_take (i := 2) (oi := ⟨some 98, _, _, _, _, _⟩) (v := ?_) rfl (by kernel_rfl) (by kernel_rfl) (by kernel_rfl) (fun _ _ _ h => h) (Or.inl ⟨by rfl, ?_⟩) (by assumption) ?_
        rotate_left
        · intro wq hSw; go_simp; (try with_reducible rfl)
        try simp only [Act.put, List.setIfInBounds_toArray, List.set_cons_zero, List.set_cons_succ]
        refine wpAnyH_take (i := 3) (oi := ⟨some 99, _, _, _, _, _⟩) (v := ?_) rfl (by kernel_rfl) (by kernel_rfl) (by kernel_rfl) (fun _ _ _ h => h) (Or.inl ⟨by rfl, ?_⟩) (by assumption) ?_
        rotate_left
        · intro wq hSw; go_simp; (try with_reducible rfl)
        try simp only [Act.put, List.setIfInBounds_toArray, List.set_cons_zero, List.set_cons_succ]
        refine wpAnyH_take (i := 4) (oi := ⟨some 100, _, _, _, _, _⟩) (v := ?_) rfl (by kernel_rfl) (by kernel_rfl) (by kernel_rfl) (fun _ _ _ h => h) (Or.inl ⟨by rfl, ?_⟩) (by assumption) ?_
        rotate_left
        · intro wq hSw; go_simp; (try with_reducible rfl)
        try simp only [Act.put, List.setIfInBounds_toArray, List.set_cons_zero, List.set_cons_succ]
        refine wpAnyH_take (i := 5) (oi := ⟨some 101, _, _, _, _, _⟩) (v := ?_) rfl (by kernel_rfl) (by kernel_rfl) (by kernel_rfl) (fun _ _ _ h => h) (Or.inl ⟨by rfl, ?_⟩) (by assumption) ?_
        rotate_left
        · intro wq hSw; go_simp; (try with_reducible rfl)
        try simp only [Act.put, List.setIfInBounds_toArray, List.set_cons_zero, List.set_cons_succ]
        refine wpAnyH_take (i := 6) (oi := ⟨some 102, _, _, _, _, _⟩) (v := undef) rfl (by kernel_rfl) (by kernel_rfl) (by kernel_rfl) (fun _ _ _ h => h) (Or.inr ⟨by rfl, rfl⟩) (by assumption) ?_
        try simp only [Act.put, List.setIfInBounds_toArray, List.set_cons_zero, List.set_cons_succ]
        refine wpAnyH_take (i := 7) (oi := ⟨some 103, _, _, _, _, _⟩) (v := undef) rfl (by kernel_rfl) (by kernel_rfl) (by kernel_rfl) (fun _ _ _ h => h) (Or.inr ⟨by rfl, rfl⟩) (by assumption) ?_
        try simp only [Act.put, List.setIfInBounds_toArray, List.set_cons_zero, List.set_cons_succ]
        refine wpAnyH_take (i := 8) (oi := ⟨some 104, _, _, _, _, _⟩) (v := undef) rfl (by kernel_rfl) (by kernel_rfl) (by kernel_rfl) (fun _ _ _ h => h) (Or.inr ⟨by rfl, rfl⟩) (by assumption) ?_
        try simp only [Act.put, List.setIfInBounds_toArray, List.set_cons_zero, List.set_cons_succ]
        refine wpAnyH_take (i := 9) (oi := ⟨some 105, _, _, _, _, _⟩) (v := undef) rfl (by kernel_rfl) (by kernel_rfl) (by kernel_rfl) (fun _ _ _ h => h) (Or.inr ⟨by rfl, rfl⟩) (by assumption) ?_
        try simp only [Act.put, List.setIfInBounds_toArray, List.set_cons_zero, List.set_cons_succ]
        refine wpAnyH_take (i := 10) (oi := ⟨some 106, _, _, _, _, _⟩) (v := ?_) rfl (by kernel_rfl) (by kernel_rfl) (by kernel_rfl) (fun _ _ _ h => h) (Or.inl ⟨by rfl, ?_⟩) (by assumption) ?_
        rotate_left
        · intro wq hSw; go_simp; (try with_reducible rfl)
        try simp only [Act.put, List.setIfInBounds_toArray, List.set_cons_zero, List.set_cons_succ]
        refine wpAnyH_take (i := 11) (oi := ⟨some 107, _, _, _, _, _⟩) (v := ?_) rfl (by kernel_rfl) (by kernel_rfl) (by kernel_rfl) (fun _ _ _ h => h) (Or.inl ⟨by rfl, ?_⟩) (by assumption) ?_
        rotate_left
        · intro wq hSw; go_simp; (try with_reducible rfl)
        try simp only [Act.put, List.setIfInBounds_toArray, List.set_cons_zero, List.set_cons_succ]
        refine wpAnyH_done (by kernel_rfl) ?_ _
        have hHeld := hHeld0
        obtain ⟨⟨kz0, kc0, kf0⟩, ⟨kz1, kc1, kf1⟩, ⟨kz2, kc2, kf2⟩, ⟨kz3, kc3, kf3⟩, ⟨kz4, kc4, kf4⟩, ⟨kz5, kc5, kf5⟩, ⟨kz6, kc6, kf6⟩, ⟨kz7, kc7, kf7⟩, ⟨kz8, kc8, kf8⟩, ⟨kz9, kc9, kf9⟩, ⟨kz10, kc10, kf10⟩, ⟨kz11, kc11, kf11⟩, ⟨kz12, kc12, kf12⟩, _⟩ := hHeld.2
        all_goals
          go_wp2_with fail
          refine (LP.out _).mono ?_
          rintro e wd ⟨rfl, hb⟩
          replace hHeld := hHeld.next hb
          clear hb
          (try clear hHeld0); (try clear hHeld1); (try clear hHeld2)
          (try clear hHeld0); (try clear hHeld1); (try clear hHeld2); (try clear hHeld3); (try clear hHeld4); (try clear hHeld5); (try clear hHeld6); (try clear hHeld7); (try clear hHeld8); (try clear hHeld9); (try clear hHeld10); (try clear hHeld11); (try clear hHeld12); (try clear hHeld13); (try clear hT0); (try clear kz0 kc0 kf0); (try clear kz1 kc1 kf1); (try clear kz2 kc2 kf2); (try clear kz3 kc3 kf3); (try clear kz4 kc4 kf4); (try clear kz5 kc5 kf5); (try clear kz6 kc6 kf6); (try clear kz7 kc7 kf7); (try clear kz8 kc8 kf8); (try clear kz9 kc9 kf9); (try clear kz10 kc10 kf10); (try clear kz11 kc11 kf11); (try clear kz12 kc12 kf12); (try clear kz13 kc13 kf13); (try clear t0z0 t0c0 t0f0); (try clear t0z1 t0c1 t0f1)
          obtain ⟨⟨kz0, kc0, kf0⟩, ⟨kz1, kc1, kf1⟩, ⟨kz2, kc2, kf2⟩, ⟨kz3, kc3, kf3⟩, ⟨kz4, kc4, kf4⟩, ⟨kz5, kc5, kf5⟩, ⟨kz6, kc6, kf6⟩, ⟨kz7, kc7, kf7⟩, ⟨kz8, kc8, kf8⟩, ⟨kz9, kc9, kf9⟩, ⟨kz10, kc10, kf10⟩, ⟨kz11, kc11, kf11⟩, ⟨kz12, kc12, kf12⟩, _⟩ := hHeld.2
          have g1 : Keeps w [(sb, 0, .int .i64 p0), (sb, 1, .int .u64 t1), (w3.heap.size, 0, .int .i64 (rhi (T K))), (w3.heap.size, 1, .int .u64 (rlo (T K))), (w2.heap.size, 0, .int .i64 al), (w2.heap.size, 1, .int .i64 lR), (w2.heap.size, 2, .int .i64 ln), (w2.heap.size, 3, .int .i64 ld), (w.heap.size + 1, 0, .int .i64 F), (w.heap.size + 1, 1, .int .i64 S), (w.heap.size + 1, 2, .int .i64 K)] _ := hHeld.put (B := sb) (o := 0) (a := .int .i64 t0) (u := .int .i64 p0) sl.out (by simp) (by simp [n1, n2, n3])
          have g2 : Keeps w [(sb, 0, .int .i64 p0), (sb, 1, .int .u64 p1), (w3.heap.size, 0, .int .i64 (rhi (T K))), (w3.heap.size, 1, .int .u64 (rlo (T K))), (w2.heap.size, 0, .int .i64 al), (w2.heap.size, 1, .int .i64 lR), (w2.heap.size, 2, .int .i64 ln), (w2.heap.size, 3, .int .i64 ld), (w.heap.size + 1, 0, .int .i64 F), (w.heap.size + 1, 1, .int .i64 S), (w.heap.size + 1, 2, .int .i64 K)] _ := g1.put (B := sb) (o := 1) (a := .int .u64 t1) (u := .int .u64 p1) sl.out (by simp) (by simp [n1, n2, n3])
          clear g1 hHeld
          go_wp2_with fail
          go_roundw
          case rel => exact ⟨k + 1, by simp, by omega, by rw [hp0.out, hp1.out]; exact g2⟩
          case measure => simp [intOf]; omega
    · obtain rfl : k = K := by omega
      obtain ⟨⟨kz0, kc0, kf0⟩, ⟨kz1, kc1, kf1⟩, ⟨kz2, kc2, kf2⟩, ⟨kz3, kc3, kf3⟩, ⟨kz4, kc4, kf4⟩, ⟨kz5, kc5, kf5⟩, ⟨kz6, kc6, kf6⟩, ⟨kz7, kc7, kf7⟩, ⟨kz8, kc8, kf8⟩, ⟨kz9, kc9, kf9⟩, ⟨kz10, kc10, kf10⟩, _⟩ := hHeld.2
      go_wp2_with fail
      go_ret
      exact ⟨rfl, hHeld.1⟩
end Go.Proofs.Ytnacdofidmgfmaa
