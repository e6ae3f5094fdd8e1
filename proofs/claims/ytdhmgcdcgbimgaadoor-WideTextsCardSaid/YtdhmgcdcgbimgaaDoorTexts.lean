/-
  The walk of the law WideTexts: a number of 64 bits has the text that it has; unlike numbers have unlike texts. Conditions: the words of a number are of 64 bits; the table of powers of ten holds what its initialiser lays.
-/
import Derived.Test.YtdhmgcdcgbimgaaDoorBack
namespace Go.Proofs.YtdhmgcdcgbimgaaDoor
open Go.RowKit Go.Shelf

theorem Keeps.low {w W : World} {L : List (Nat × Nat × Value)} (h : Keeps w L W) : Below w.heap.size w W := h.1

theorem digit_inj {a b : Nat} (ha : a < 10) (hb : b < 10) (h : UInt8.ofNat (48 + a) = UInt8.ofNat (48 + b)) : a = b := by
  have := congrArg UInt8.toNat h
  simp only [UInt8.toNat_ofNat'] at this
  omega
theorem dec_big {u : Nat} (g : ¬ u < 10) : Lib.decDigits u = Lib.decDigits (u / 10) ++ [UInt8.ofNat (48 + u % 10)] := by
  rw [Lib.decDigits, dif_neg g]
theorem dec_inj (u : Nat) : ∀ v, Lib.decDigits u = Lib.decDigits v → u = v := by
  induction u using Nat.strongRecOn with
  | _ u ih =>
    intro v h
    have hl := congrArg List.length h
    rw [Lib.decDigits_length, Lib.decDigits_length] at hl
    by_cases g : u < 10 <;> by_cases k : v < 10
    · rw [Lib.decDigits_one g, Lib.decDigits_one k] at h
      exact digit_inj g k (List.cons.inj h).1
    · rw [Lib.nDigits_small g, Lib.nDigits_big k] at hl
      have := Lib.nDigits_pos (v / 10)
      omega
    · rw [Lib.nDigits_small k, Lib.nDigits_big g] at hl
      have := Lib.nDigits_pos (u / 10)
      omega
    · rw [dec_big g, dec_big k] at h
      obtain ⟨e1, e2⟩ := List.append_inj' h rfl
      have e3 := ih (u / 10) (by omega) _ e1
      have e4 := digit_inj (Nat.mod_lt u (by decide)) (Nat.mod_lt v (by decide)) (List.cons.inj e2).1
      omega
theorem digit_ne {a : Nat} (ha : a < 10) : UInt8.ofNat (48 + a) ≠ 45 := by
  intro h
  have := congrArg UInt8.toNat h
  simp only [UInt8.toNat_ofNat'] at this
  have e : (45 : UInt8).toNat = 45 := rfl
  omega
theorem dec_sign (u : Nat) : (45 : UInt8) ∉ Lib.decDigits u := by
  induction u using Nat.strongRecOn with
  | _ u ih =>
    by_cases g : u < 10
    · rw [Lib.decDigits_one g]
      simpa using (digit_ne g).symm
    · rw [dec_big g, List.mem_append]
      rintro (h | h)
      · exact ih (u / 10) (by omega) h
      · simp only [List.mem_singleton] at h
        exact digit_ne (Nat.mod_lt u (by decide)) h.symm
theorem text_inj {y z : Int} (h : textL y = textL z) : y = z := by
  unfold textL at h
  by_cases g : y < 0 <;> by_cases k : z < 0
  · rw [if_pos g, if_pos k] at h
    have := dec_inj _ _ (List.cons.inj h).2
    unfold mag at this
    rw [if_pos g, if_pos k] at this
    omega
  · rw [if_pos g, if_neg k] at h
    exact absurd (h ▸ List.mem_cons_self ..) (dec_sign (mag z).toNat)
  · rw [if_neg g, if_pos k] at h
    exact absurd (h ▸ List.mem_cons_self ..) (dec_sign (mag y).toNat)
  · rw [if_neg g, if_neg k] at h
    have := dec_inj _ _ h
    unfold mag at this
    rw [if_neg g, if_neg k] at this
    omega
theorem text_itoa (n : Int) : Lib.itoa n = textL n := by
  unfold Lib.itoa textL
  have e1 : n < 0 → (mag n).toNat = n.natAbs := fun g => by unfold mag; rw [if_pos g]; omega
  have e2 : ¬ n < 0 → (mag n).toNat = n.toNat := fun g => by unfold mag; rw [if_neg g]
  by_cases g : n < 0
  · rw [if_pos g, if_pos g, e1 g]
  · rw [if_neg g, if_neg g, e2 g]
theorem text_below {z : Int} (h : z < 0) : textL z = 45 :: textL (0 - z) := by
  unfold textL
  rw [if_pos h, if_neg (by omega)]
  unfold mag
  rw [if_pos h, if_neg (by omega), show 0 - z = -z from by omega]
theorem nd_le : ∀ (k u : Nat), u < 10 ^ (k + 1) → Lib.nDigits u ≤ k + 1
  | 0, u, h => by rw [Lib.nDigits_small (by simpa using h)]; omega
  | k + 1, u, h => by
    by_cases g : u < 10
    · rw [Lib.nDigits_small g]; omega
    · rw [Lib.nDigits_big g]
      have h' : u < 10 ^ (k + 1) * 10 := by rw [← Nat.pow_succ]; exact h
      have := nd_le k (u / 10) (by omega)
      omega
theorem text_length {z : Int} (h : Fits z) : (textL z).length ≤ 40 := by
  have hm := mag_fits h
  have h0 := mag_nonneg z
  have := nd_le 38 (mag z).toNat (by omega)
  unfold textL
  split <;> simp only [List.length_cons, Lib.decDigits_length] <;> omega

set_option maxRecDepth 100000 in
set_option maxHeartbeats 6400000 in
theorem texts_walk (n ah al bh bl o1 o2 n1 n2 : Int) (d : Bool) (TN TA TB TM : List UInt8) (w : World) (htab : Tab w)
    (hS : TA = TB ↔ ah = bh ∧ al = bl) (hA : TA.length ≤ 40) (hM : TM.length ≤ 40)
    (hneg : d = true → ah < 0 → TA = 45 :: TM) (hpos : d = true → ¬ ah < 0 → ¬ (ah = 0 ∧ al = 0) → TM = 45 :: TA)
    (OF : ∀ w, Calls Tryd.prog 23 #[.int .i64 n] w (Ret w (wideV o1 o2)))
    (NG : ∀ w, Calls Tryd.prog 16 #[wideV ah al] w (Ret w (.tuple #[wideV n1 n2, .int .i64 (if d then 0 else 5)])))
    (FI : ∀ w', Below w.heap.size w w' → Calls Tryd.prog 36 #[.int .i64 n, .int .i64 10] w' (Ret w' (strV TN)))
    (XN : ∀ w', Below w.heap.size w w' → Calls Tryd.prog 32 #[wideV o1 o2] w' (Ret w' (strV TN)))
    (XA : ∀ w', Below w.heap.size w w' → Calls Tryd.prog 32 #[wideV ah al] w' (Ret w' (strV TA)))
    (XB : ∀ w', Below w.heap.size w w' → Calls Tryd.prog 32 #[wideV bh bl] w' (Ret w' (strV TB)))
    (XM : ∀ w', Below w.heap.size w w' → Calls Tryd.prog 32 #[wideV n1 n2] w' (Ret w' (strV TM))) :
    Calls Tryd.prog 11 #[.int .i64 n, wideV ah al, wideV bh bl] w (Ret w (.bool true)) := by
  have WK := wakes_on htab
  have lA : ¬ 9223372036854775807 < 1 + TA.length := by omega
  have lM : ¬ 9223372036854775807 < 1 + TM.length := by omega
  replace OF := Lib.hid OF
  replace NG := Lib.hid NG
  replace FI := Lib.hid FI
  replace XN := Lib.hid XN
  replace XA := Lib.hid XA
  replace XB := Lib.hid XB
  replace XM := Lib.hid XM
  replace hS := Lib.hid hS
  replace hneg := Lib.hid hneg
  replace hpos := Lib.hid hpos
  clear htab hA hM
  go_enter Tryd.func11, Tryd.ntmps11
  go_wp2_with fail
  refine (WK.out _ (by go_grown)).mono ?_
  rintro e w1 ⟨rfl, hb⟩
  have hHeld : Keeps w [(w.heap.size, 0, .int .i64 ah), (w.heap.size, 1, .int .u64 al), (w.heap.size + 1, 0, .int .i64 bh), (w.heap.size + 1, 1, .int .u64 bl)] _ := Keeps.next (by refine ⟨by go_grown, ?_⟩; simp [Cells, go_sem]) hb
  clear hb
  obtain ⟨⟨kz0, kc0, kf0⟩, ⟨kz1, kc1, kf1⟩, ⟨kz2, kc2, kf2⟩, ⟨kz3, kc3, kf3⟩, _⟩ := hHeld.2
  go_upto_region 3 with fail
  go_cut [27] (fun s27 wx => s27 = .bool false ∧ Keeps w [(w.heap.size, 0, .int .i64 ah), (w.heap.size, 1, .int .u64 al), (w.heap.size + 1, 0, .int .i64 bh), (w.heap.size + 1, 1, .int .u64 bl)] wx)
  case first =>
    have hcase : ((ah == bh) = true ∧ (al == bl) = true ∧ (TA == TB) = true) ∨ ((ah == bh) = false ∧ (TA == TB) = false) ∨ ((ah == bh) = true ∧ (al == bl) = false ∧ (TA == TB) = false) := by
      have hs := hS.out
      by_cases i : ah = bh
      · by_cases j : al = bl
        · exact Or.inl ⟨by simpa using i, by simpa using j, by simpa using hs.2 ⟨i, j⟩⟩
        · exact Or.inr (Or.inr ⟨by simpa using i, by simpa using j, by simpa using fun e => j (hs.1 e).2⟩)
      · exact Or.inr (Or.inl ⟨by simpa using i, by simpa using fun e => i (hs.1 e).1⟩)
    rcases hcase with ⟨i1, i2, i3⟩ | ⟨i1, i3⟩ | ⟨i1, i2, i3⟩
    all_goals
      refine region_keeps (w0 := w) (L := [(w.heap.size, 0, .int .i64 ah), (w.heap.size, 1, .int .u64 al), (w.heap.size + 1, 0, .int .i64 bh), (w.heap.size + 1, 1, .int .u64 bl)]) (by kernel_rfl) hHeld (fun hHeld0 => ?_)
      refine wpAnyH_take (i := 0) (oi := ⟨some 11, _, _, _, _, _⟩) (v := ?_) rfl (by kernel_rfl) (by kernel_rfl) (by kernel_rfl) (fun _ _ _ h => h) (Or.inl ⟨by rfl, ?_⟩) (by assumption) ?_
      rotate_left
      · intro wq hSw; go_simp; (try with_reducible rfl)
      try simp only [Act.put, List.setIfInBounds_toArray, List.set_cons_zero, List.set_cons_succ]
      refine wpAnyH_take (i := 3) (oi := ⟨some 14, _, _, _, _, _⟩) (v := ?_) rfl (by kernel_rfl) (by kernel_rfl) (by kernel_rfl) (fun _ _ _ h => h) (Or.inl ⟨by rfl, ?_⟩) (by assumption) ?_
      rotate_left
      · intro wq hSw; go_simp; (try with_reducible rfl)
      try simp only [Act.put, List.setIfInBounds_toArray, List.set_cons_zero, List.set_cons_succ]
      refine wpAnyH_ready (rs := [1]) (by kernel_rfl) (by simp) ?_
      refine AllReadyH.cons (o := ⟨some 12, _, _, _, _, _⟩) rfl (fun K hK => ?_) AllReadyH.nil
      go_simp
      (first | ((with_reducible refine (OF.out _).mono ?_); rintro e w4 ⟨rfl, hb⟩) | ((with_reducible refine (FI.out _ (Keeps.low (by assumption))).mono ?_); rintro e w4 ⟨rfl, hb⟩) | ((with_reducible refine (XN.out _ (Keeps.low (by assumption))).mono ?_); rintro e w4 ⟨rfl, hb⟩) | ((with_reducible refine (XA.out _ (Keeps.low (by assumption))).mono ?_); rintro e w4 ⟨rfl, hb⟩) | ((with_reducible refine (XB.out _ (Keeps.low (by assumption))).mono ?_); rintro e w4 ⟨rfl, hb⟩))
      refine hK.out _ _ (hHeld0.next hb) (fun hHeld1 => ?_)
      clear hK K
      try clear hb
      try simp only [Act.put, List.setIfInBounds_toArray, List.set_cons_zero, List.set_cons_succ]
      refine wpAnyH_ready (rs := [2]) (by kernel_rfl) (by simp) ?_
      refine AllReadyH.cons (o := ⟨some 13, _, _, _, _, _⟩) rfl (fun K hK => ?_) AllReadyH.nil
      go_simp
      (first | ((with_reducible refine (OF.out _).mono ?_); rintro e w4 ⟨rfl, hb⟩) | ((with_reducible refine (FI.out _ (Keeps.low (by assumption))).mono ?_); rintro e w4 ⟨rfl, hb⟩) | ((with_reducible refine (XN.out _ (Keeps.low (by assumption))).mono ?_); rintro e w4 ⟨rfl, hb⟩) | ((with_reducible refine (XA.out _ (Keeps.low (by assumption))).mono ?_); rintro e w4 ⟨rfl, hb⟩) | ((with_reducible refine (XB.out _ (Keeps.low (by assumption))).mono ?_); rintro e w4 ⟨rfl, hb⟩))
      refine hK.out _ _ (hHeld1.next hb) (fun hHeld2 => ?_)
      clear hK K
      try clear hb
      try simp only [Act.put, List.setIfInBounds_toArray, List.set_cons_zero, List.set_cons_succ]
      refine wpAnyH_ready (rs := [4]) (by kernel_rfl) (by simp) ?_
      refine AllReadyH.cons (o := ⟨some 15, _, _, _, _, _⟩) rfl (fun K hK => ?_) AllReadyH.nil
      go_simp
      (first | ((with_reducible refine (OF.out _).mono ?_); rintro e w4 ⟨rfl, hb⟩) | ((with_reducible refine (FI.out _ (Keeps.low (by assumption))).mono ?_); rintro e w4 ⟨rfl, hb⟩) | ((with_reducible refine (XN.out _ (Keeps.low (by assumption))).mono ?_); rintro e w4 ⟨rfl, hb⟩) | ((with_reducible refine (XA.out _ (Keeps.low (by assumption))).mono ?_); rintro e w4 ⟨rfl, hb⟩) | ((with_reducible refine (XB.out _ (Keeps.low (by assumption))).mono ?_); rintro e w4 ⟨rfl, hb⟩))
      refine hK.out _ _ (hHeld2.next hb) (fun hHeld3 => ?_)
      clear hK K
      try clear hb
      try simp only [Act.put, List.setIfInBounds_toArray, List.set_cons_zero, List.set_cons_succ]
      refine wpAnyH_take (i := 5) (oi := ⟨some 16, _, _, _, _, _⟩) (v := ?_) rfl (by kernel_rfl) (by kernel_rfl) (by kernel_rfl) (fun _ _ _ h => h) (Or.inl ⟨by rfl, ?_⟩) (by assumption) ?_
      rotate_left
      · intro wq hSw; go_simp; (try with_reducible rfl)
      try simp only [Act.put, List.setIfInBounds_toArray, List.set_cons_zero, List.set_cons_succ]
      refine wpAnyH_take (i := 6) (oi := ⟨some 17, _, _, _, _, _⟩) (v := ?_) rfl (by kernel_rfl) (by kernel_rfl) (by kernel_rfl) (fun _ _ _ h => h) (Or.inl ⟨by rfl, ?_⟩) (by assumption) ?_
      rotate_left
      · intro wq hSw; go_simp; (try with_reducible rfl)
      try simp only [Act.put, List.setIfInBounds_toArray, List.set_cons_zero, List.set_cons_succ]
      refine wpAnyH_take (i := 7) (oi := ⟨some 18, _, _, _, _, _⟩) (v := ?_) rfl (by kernel_rfl) (by kernel_rfl) (by kernel_rfl) (fun _ _ _ h => h) (Or.inl ⟨by rfl, ?_⟩) (by assumption) ?_
      rotate_left
      · intro wq hSw; obtain ⟨⟨qz0, qc0, qf0⟩, ⟨qz1, qc1, qf1⟩, ⟨qz2, qc2, qf2⟩, ⟨qz3, qc3, qf3⟩, _⟩ := hSw.2; go_simp; (try with_reducible rfl)
      try simp only [Act.put, List.setIfInBounds_toArray, List.set_cons_zero, List.set_cons_succ]
      refine wpAnyH_take (i := 9) (oi := ⟨some 20, _, _, _, _, _⟩) (v := ?_) rfl (by kernel_rfl) (by kernel_rfl) (by kernel_rfl) (fun _ _ _ h => h) (Or.inl ⟨by rfl, ?_⟩) (by assumption) ?_
      rotate_left
      · intro wq hSw; obtain ⟨⟨qz0, qc0, qf0⟩, ⟨qz1, qc1, qf1⟩, ⟨qz2, qc2, qf2⟩, ⟨qz3, qc3, qf3⟩, _⟩ := hSw.2; go_simp; (try with_reducible rfl)
      try simp only [Act.put, List.setIfInBounds_toArray, List.set_cons_zero, List.set_cons_succ]
      refine wpAnyH_take (i := 12) (oi := ⟨some 23, _, _, _, _, _⟩) (v := ?_) rfl (by kernel_rfl) (by kernel_rfl) (by kernel_rfl) (fun _ _ _ h => h) (Or.inl ⟨by rfl, ?_⟩) (by assumption) ?_
      rotate_left
      · intro wq hSw; obtain ⟨⟨qz0, qc0, qf0⟩, ⟨qz1, qc1, qf1⟩, ⟨qz2, qc2, qf2⟩, ⟨qz3, qc3, qf3⟩, _⟩ := hSw.2; go_simp; (try with_reducible rfl)
      try simp only [Act.put, List.setIfInBounds_toArray, List.set_cons_zero, List.set_cons_succ]
      refine wpAnyH_take (i := 13) (oi := ⟨some 24, _, _, _, _, _⟩) (v := ?_) rfl (by kernel_rfl) (by kernel_rfl) (by kernel_rfl) (fun _ _ _ h => h) (Or.inl ⟨by rfl, ?_⟩) (by assumption) ?_
      rotate_left
      · intro wq hSw; obtain ⟨⟨qz0, qc0, qf0⟩, ⟨qz1, qc1, qf1⟩, ⟨qz2, qc2, qf2⟩, ⟨qz3, qc3, qf3⟩, _⟩ := hSw.2; go_simp; (try with_reducible rfl)
      try simp only [Act.put, List.setIfInBounds_toArray, List.set_cons_zero, List.set_cons_succ]
      refine wpAnyH_take (i := 14) (oi := ⟨some 25, _, _, _, _, _⟩) (v := ?_) rfl (by kernel_rfl) (by kernel_rfl) (by kernel_rfl) (fun _ _ _ h => h) (Or.inl ⟨by rfl, ?_⟩) (by assumption) ?_
      rotate_left
      · intro wq hSw; go_simp; (try with_reducible rfl)
      try simp only [Act.put, List.setIfInBounds_toArray, List.set_cons_zero, List.set_cons_succ]
      refine wpAnyH_ready (rs := [8]) (by kernel_rfl) (by simp) ?_
      refine AllReadyH.cons (o := ⟨some 19, _, _, _, _, _⟩) rfl (fun K hK => ?_) AllReadyH.nil
      go_simp
      (first | ((with_reducible refine (OF.out _).mono ?_); rintro e w4 ⟨rfl, hb⟩) | ((with_reducible refine (FI.out _ (Keeps.low (by assumption))).mono ?_); rintro e w4 ⟨rfl, hb⟩) | ((with_reducible refine (XN.out _ (Keeps.low (by assumption))).mono ?_); rintro e w4 ⟨rfl, hb⟩) | ((with_reducible refine (XA.out _ (Keeps.low (by assumption))).mono ?_); rintro e w4 ⟨rfl, hb⟩) | ((with_reducible refine (XB.out _ (Keeps.low (by assumption))).mono ?_); rintro e w4 ⟨rfl, hb⟩))
      refine hK.out _ _ (hHeld3.next hb) (fun hHeld4 => ?_)
      clear hK K
      try clear hb
      try simp only [Act.put, List.setIfInBounds_toArray, List.set_cons_zero, List.set_cons_succ]
      refine wpAnyH_ready (rs := [10]) (by kernel_rfl) (by simp) ?_
      refine AllReadyH.cons (o := ⟨some 21, _, _, _, _, _⟩) rfl (fun K hK => ?_) AllReadyH.nil
      go_simp
      (first | ((with_reducible refine (OF.out _).mono ?_); rintro e w4 ⟨rfl, hb⟩) | ((with_reducible refine (FI.out _ (Keeps.low (by assumption))).mono ?_); rintro e w4 ⟨rfl, hb⟩) | ((with_reducible refine (XN.out _ (Keeps.low (by assumption))).mono ?_); rintro e w4 ⟨rfl, hb⟩) | ((with_reducible refine (XA.out _ (Keeps.low (by assumption))).mono ?_); rintro e w4 ⟨rfl, hb⟩) | ((with_reducible refine (XB.out _ (Keeps.low (by assumption))).mono ?_); rintro e w4 ⟨rfl, hb⟩))
      refine hK.out _ _ (hHeld4.next hb) (fun hHeld5 => ?_)
      clear hK K
      try clear hb
      try simp only [Act.put, List.setIfInBounds_toArray, List.set_cons_zero, List.set_cons_succ]
      refine wpAnyH_take (i := 11) (oi := ⟨some 22, _, _, _, _, _⟩) (v := ?_) rfl (by kernel_rfl) (by kernel_rfl) (by kernel_rfl) (fun _ _ _ h => h) (Or.inl ⟨by rfl, ?_⟩) (by assumption) ?_
      rotate_left
      · intro wq hSw; go_simp; (try with_reducible rfl)
      try simp only [Act.put, List.setIfInBounds_toArray, List.set_cons_zero, List.set_cons_succ]
      refine wpAnyH_take (i := 15) (oi := ⟨some 26, _, _, _, _, _⟩) (v := ?_) rfl (by kernel_rfl) (by kernel_rfl) (by kernel_rfl) (fun _ _ _ h => h) (Or.inl ⟨by rfl, ?_⟩) (by assumption) ?_
      rotate_left
      · intro wq hSw; go_simp; (try with_reducible rfl)
      try simp only [Act.put, List.setIfInBounds_toArray, List.set_cons_zero, List.set_cons_succ]
      refine wpAnyH_take (i := 16) (oi := ⟨some 27, _, _, _, _, _⟩) (v := ?_) rfl (by kernel_rfl) (by kernel_rfl) (by kernel_rfl) (fun _ _ _ h => h) (Or.inl ⟨by rfl, ?_⟩) (by assumption) ?_
      rotate_left
      · intro wq hSw; go_simp; (try with_reducible rfl)
      try simp only [Act.put, List.setIfInBounds_toArray, List.set_cons_zero, List.set_cons_succ]
      refine wpAnyH_done (by kernel_rfl) ?_ _
      have hHeld := hHeld5
      obtain ⟨⟨kz0, kc0, kf0⟩, ⟨kz1, kc1, kf1⟩, ⟨kz2, kc2, kf2⟩, ⟨kz3, kc3, kf3⟩, _⟩ := hHeld.2
      go_wp2_with fail
      go_meet
      case rel => exact ⟨by first | rfl | simp | simp [i3], hHeld⟩
  case rest =>
    obtain ⟨rfl, hHeld⟩ := hcut
    obtain ⟨⟨kz0, kc0, kf0⟩, ⟨kz1, kc1, kf1⟩, ⟨kz2, kc2, kf2⟩, ⟨kz3, kc3, kf3⟩, _⟩ := hHeld.2
    skip
    clear hS
    cases d <;> simp only [Bool.false_eq_true, if_false, if_true] at NG
    · skip
      skip
      go_wp2_with fail
      refine (NG.out _).mono ?_
      rintro e w5 ⟨rfl, hb⟩
      replace hHeld := Keeps.next (hHeld) hb
      clear hb kz0 kc0 kf0 kz1 kc1 kf1 kz2 kc2 kf2 kz3 kc3 kf3
      obtain ⟨⟨kz0, kc0, kf0⟩, ⟨kz1, kc1, kf1⟩, ⟨kz2, kc2, kf2⟩, ⟨kz3, kc3, kf3⟩, _⟩ := hHeld.2
      go_wp2_with fail
      go_ret
      exact ⟨by simp, (hHeld.alloc _).1⟩
    · by_cases z : (ah == 0) = true ∧ (al == 0) = true
      · obtain ⟨z1, z2⟩ := z
        skip
        go_wp2_with fail
        refine (NG.out _).mono ?_
        rintro e w5 ⟨rfl, hb⟩
        replace hHeld := Keeps.next (hHeld) hb
        clear hb kz0 kc0 kf0 kz1 kc1 kf1 kz2 kc2 kf2 kz3 kc3 kf3
        obtain ⟨⟨kz0, kc0, kf0⟩, ⟨kz1, kc1, kf1⟩, ⟨kz2, kc2, kf2⟩, ⟨kz3, kc3, kf3⟩, _⟩ := hHeld.2
        go_wp2_with fail
        go_ret
        exact ⟨by simp, (hHeld.alloc _).1⟩
      · have z3 : (ah == 0) = false ∨ (ah == 0) = true ∧ (al == 0) = false := by
          cases z1 : (ah == 0)
          · exact Or.inl rfl
          · cases z2 : (al == 0)
            · exact Or.inr ⟨rfl, rfl⟩
            · exact absurd ⟨z1, z2⟩ z
        by_cases s : ah < 0
        · have e := hneg.out (by trivial) s
          subst e
          have z1 : (ah == 0) = false := by
            rcases z3 with z1 | ⟨z1, z2⟩
            · exact z1
            · simp at z1; omega
          clear z z3
          skip
          go_wp2_with fail
          refine (NG.out _).mono ?_
          rintro e w5 ⟨rfl, hb⟩
          replace hHeld := Keeps.next (hHeld) hb
          clear hb kz0 kc0 kf0 kz1 kc1 kf1 kz2 kc2 kf2 kz3 kc3 kf3
          obtain ⟨⟨kz0, kc0, kf0⟩, ⟨kz1, kc1, kf1⟩, ⟨kz2, kc2, kf2⟩, ⟨kz3, kc3, kf3⟩, _⟩ := hHeld.2
          go_wp2_with fail
          refine region_keeps (w0 := w) (L := [(w.heap.size, 0, .int .i64 ah), (w.heap.size, 1, .int .u64 al), (w5.heap.size, 0, .int .i64 n1), (w5.heap.size, 1, .int .u64 n2)]) (by kernel_rfl) (⟨(hHeld.alloc _).1, (hHeld.alloc _).2.1, (hHeld.alloc _).2.2.1, (newK2 (hHeld.alloc _)).2⟩) (fun hHeld0 => ?_)
          refine wpAnyH_take (i := 0) (oi := ⟨some 43, _, _, _, _, _⟩) (v := ?_) rfl (by kernel_rfl) (by kernel_rfl) (by kernel_rfl) (fun _ _ _ h => h) (Or.inl ⟨by rfl, ?_⟩) (by assumption) ?_
          rotate_left
          · intro wq hSw; obtain ⟨⟨qz0, qc0, qf0⟩, ⟨qz1, qc1, qf1⟩, ⟨qz2, qc2, qf2⟩, ⟨qz3, qc3, qf3⟩, _⟩ := hSw.2; go_simp; (try with_reducible rfl)
          try simp only [Act.put, List.setIfInBounds_toArray, List.set_cons_zero, List.set_cons_succ]
          refine wpAnyH_take (i := 2) (oi := ⟨some 45, _, _, _, _, _⟩) (v := ?_) rfl (by kernel_rfl) (by kernel_rfl) (by kernel_rfl) (fun _ _ _ h => h) (Or.inl ⟨by rfl, ?_⟩) (by assumption) ?_
          rotate_left
          · intro wq hSw; obtain ⟨⟨qz0, qc0, qf0⟩, ⟨qz1, qc1, qf1⟩, ⟨qz2, qc2, qf2⟩, ⟨qz3, qc3, qf3⟩, _⟩ := hSw.2; go_simp; (try with_reducible rfl)
          try simp only [Act.put, List.setIfInBounds_toArray, List.set_cons_zero, List.set_cons_succ]
          refine wpAnyH_ready (rs := [1]) (by kernel_rfl) (by simp) ?_
          refine AllReadyH.cons (o := ⟨some 44, _, _, _, _, _⟩) rfl (fun K hK => ?_) AllReadyH.nil
          go_simp
          (first | ((with_reducible refine (XA.out _ (Keeps.low (by assumption))).mono ?_); rintro e w4 ⟨rfl, hb⟩) | ((with_reducible refine (XM.out _ (Keeps.low (by assumption))).mono ?_); rintro e w4 ⟨rfl, hb⟩))
          refine hK.out _ _ (hHeld0.next hb) (fun hHeld1 => ?_)
          clear hK K
          try clear hb
          try simp only [Act.put, List.setIfInBounds_toArray, List.set_cons_zero, List.set_cons_succ]
          refine wpAnyH_ready (rs := [3]) (by kernel_rfl) (by simp) ?_
          refine AllReadyH.cons (o := ⟨some 46, _, _, _, _, _⟩) rfl (fun K hK => ?_) AllReadyH.nil
          go_simp
          (first | ((with_reducible refine (XA.out _ (Keeps.low (by assumption))).mono ?_); rintro e w4 ⟨rfl, hb⟩) | ((with_reducible refine (XM.out _ (Keeps.low (by assumption))).mono ?_); rintro e w4 ⟨rfl, hb⟩))
          refine hK.out _ _ (hHeld1.next hb) (fun hHeld2 => ?_)
          clear hK K
          try clear hb
          try simp only [Act.put, List.setIfInBounds_toArray, List.set_cons_zero, List.set_cons_succ]
          refine wpAnyH_take (i := 4) (oi := ⟨some 47, _, _, _, _, _⟩) (v := ?_) rfl (by kernel_rfl) (by kernel_rfl) (by kernel_rfl) (fun _ _ _ h => h) (Or.inl ⟨by rfl, ?_⟩) (by assumption) ?_
          rotate_left
          · intro wq hSw; go_simp; (try with_reducible rfl)
          try simp only [Act.put, List.setIfInBounds_toArray, List.set_cons_zero, List.set_cons_succ]
          refine wpAnyH_take (i := 5) (oi := ⟨some 48, _, _, _, _, _⟩) (v := ?_) rfl (by kernel_rfl) (by kernel_rfl) (by kernel_rfl) (fun _ _ _ h => h) (Or.inl ⟨by rfl, ?_⟩) (by assumption) ?_
          rotate_left
          · intro wq hSw; go_simp; (try with_reducible rfl)
          try simp only [Act.put, List.setIfInBounds_toArray, List.set_cons_zero, List.set_cons_succ]
          refine wpAnyH_take (i := 6) (oi := ⟨some 6, _, _, _, _, _⟩) (v := ?_) rfl (by kernel_rfl) (by kernel_rfl) (by kernel_rfl) (fun _ _ _ h => h) (Or.inl ⟨by rfl, ?_⟩) (by assumption) ?_
          rotate_left
          · intro wq hSw; go_simp; (try with_reducible rfl)
          try simp only [Act.put, List.setIfInBounds_toArray, List.set_cons_zero, List.set_cons_succ]
          refine wpAnyH_done (by kernel_rfl) ?_ _
          have hHeld := hHeld2
          obtain ⟨⟨kz0, kc0, kf0⟩, ⟨kz1, kc1, kf1⟩, ⟨kz2, kc2, kf2⟩, ⟨kz3, kc3, kf3⟩, _⟩ := hHeld.2
          go_wp2_with fail
          go_ret
          exact ⟨by simp [str_append], hHeld.1⟩
        · have zz : ¬ (ah = 0 ∧ al = 0) := fun q => z ⟨by simp [q.1], by simp [q.2]⟩
          have e := hpos.out (by trivial) (by omega) (by first | exact zz | (intro q r; exact zz ⟨q, r⟩))
          subst e
          clear z zz
          rcases z3 with z1 | ⟨z1, z2⟩
          · skip
            skip
            go_wp2_with fail
            refine (NG.out _).mono ?_
            rintro e w5 ⟨rfl, hb⟩
            replace hHeld := Keeps.next (hHeld) hb
            clear hb kz0 kc0 kf0 kz1 kc1 kf1 kz2 kc2 kf2 kz3 kc3 kf3
            obtain ⟨⟨kz0, kc0, kf0⟩, ⟨kz1, kc1, kf1⟩, ⟨kz2, kc2, kf2⟩, ⟨kz3, kc3, kf3⟩, _⟩ := hHeld.2
            go_wp2_with fail
            refine region_keeps (w0 := w) (L := [(w.heap.size, 0, .int .i64 ah), (w.heap.size, 1, .int .u64 al), (w5.heap.size, 0, .int .i64 n1), (w5.heap.size, 1, .int .u64 n2)]) (by kernel_rfl) (⟨(hHeld.alloc _).1, (hHeld.alloc _).2.1, (hHeld.alloc _).2.2.1, (newK2 (hHeld.alloc _)).2⟩) (fun hHeld0 => ?_)
            refine wpAnyH_take (i := 0) (oi := ⟨some 49, _, _, _, _, _⟩) (v := ?_) rfl (by kernel_rfl) (by kernel_rfl) (by kernel_rfl) (fun _ _ _ h => h) (Or.inl ⟨by rfl, ?_⟩) (by assumption) ?_
            rotate_left
            · intro wq hSw; obtain ⟨⟨qz0, qc0, qf0⟩, ⟨qz1, qc1, qf1⟩, ⟨qz2, qc2, qf2⟩, ⟨qz3, qc3, qf3⟩, _⟩ := hSw.2; go_simp; (try with_reducible rfl)
            try simp only [Act.put, List.setIfInBounds_toArray, List.set_cons_zero, List.set_cons_succ]
            refine wpAnyH_take (i := 2) (oi := ⟨some 51, _, _, _, _, _⟩) (v := ?_) rfl (by kernel_rfl) (by kernel_rfl) (by kernel_rfl) (fun _ _ _ h => h) (Or.inl ⟨by rfl, ?_⟩) (by assumption) ?_
            rotate_left
            · intro wq hSw; obtain ⟨⟨qz0, qc0, qf0⟩, ⟨qz1, qc1, qf1⟩, ⟨qz2, qc2, qf2⟩, ⟨qz3, qc3, qf3⟩, _⟩ := hSw.2; go_simp; (try with_reducible rfl)
            try simp only [Act.put, List.setIfInBounds_toArray, List.set_cons_zero, List.set_cons_succ]
            refine wpAnyH_ready (rs := [1]) (by kernel_rfl) (by simp) ?_
            refine AllReadyH.cons (o := ⟨some 50, _, _, _, _, _⟩) rfl (fun K hK => ?_) AllReadyH.nil
            go_simp
            (first | ((with_reducible refine (XA.out _ (Keeps.low (by assumption))).mono ?_); rintro e w4 ⟨rfl, hb⟩) | ((with_reducible refine (XM.out _ (Keeps.low (by assumption))).mono ?_); rintro e w4 ⟨rfl, hb⟩))
            refine hK.out _ _ (hHeld0.next hb) (fun hHeld1 => ?_)
            clear hK K
            try clear hb
            try simp only [Act.put, List.setIfInBounds_toArray, List.set_cons_zero, List.set_cons_succ]
            refine wpAnyH_ready (rs := [3]) (by kernel_rfl) (by simp) ?_
            refine AllReadyH.cons (o := ⟨some 52, _, _, _, _, _⟩) rfl (fun K hK => ?_) AllReadyH.nil
            go_simp
            (first | ((with_reducible refine (XA.out _ (Keeps.low (by assumption))).mono ?_); rintro e w4 ⟨rfl, hb⟩) | ((with_reducible refine (XM.out _ (Keeps.low (by assumption))).mono ?_); rintro e w4 ⟨rfl, hb⟩))
            refine hK.out _ _ (hHeld1.next hb) (fun hHeld2 => ?_)
            clear hK K
            try clear hb
            try simp only [Act.put, List.setIfInBounds_toArray, List.set_cons_zero, List.set_cons_succ]
            refine wpAnyH_take (i := 4) (oi := ⟨some 53, _, _, _, _, _⟩) (v := ?_) rfl (by kernel_rfl) (by kernel_rfl) (by kernel_rfl) (fun _ _ _ h => h) (Or.inl ⟨by rfl, ?_⟩) (by assumption) ?_
            rotate_left
            · intro wq hSw; go_simp; (try with_reducible rfl)
            try simp only [Act.put, List.setIfInBounds_toArray, List.set_cons_zero, List.set_cons_succ]
            refine wpAnyH_take (i := 5) (oi := ⟨some 54, _, _, _, _, _⟩) (v := ?_) rfl (by kernel_rfl) (by kernel_rfl) (by kernel_rfl) (fun _ _ _ h => h) (Or.inl ⟨by rfl, ?_⟩) (by assumption) ?_
            rotate_left
            · intro wq hSw; go_simp; (try with_reducible rfl)
            try simp only [Act.put, List.setIfInBounds_toArray, List.set_cons_zero, List.set_cons_succ]
            refine wpAnyH_take (i := 6) (oi := ⟨some 6, _, _, _, _, _⟩) (v := ?_) rfl (by kernel_rfl) (by kernel_rfl) (by kernel_rfl) (fun _ _ _ h => h) (Or.inl ⟨by rfl, ?_⟩) (by assumption) ?_
            rotate_left
            · intro wq hSw; go_simp; (try with_reducible rfl)
            try simp only [Act.put, List.setIfInBounds_toArray, List.set_cons_zero, List.set_cons_succ]
            refine wpAnyH_done (by kernel_rfl) ?_ _
            have hHeld := hHeld2
            obtain ⟨⟨kz0, kc0, kf0⟩, ⟨kz1, kc1, kf1⟩, ⟨kz2, kc2, kf2⟩, ⟨kz3, kc3, kf3⟩, _⟩ := hHeld.2
            go_wp2_with fail
            go_ret
            exact ⟨by simp [str_append], hHeld.1⟩
          · skip
            skip
            go_wp2_with fail
            refine (NG.out _).mono ?_
            rintro e w5 ⟨rfl, hb⟩
            replace hHeld := Keeps.next (hHeld) hb
            clear hb kz0 kc0 kf0 kz1 kc1 kf1 kz2 kc2 kf2 kz3 kc3 kf3
            obtain ⟨⟨kz0, kc0, kf0⟩, ⟨kz1, kc1, kf1⟩, ⟨kz2, kc2, kf2⟩, ⟨kz3, kc3, kf3⟩, _⟩ := hHeld.2
            go_wp2_with fail
            refine region_keeps (w0 := w) (L := [(w.heap.size, 0, .int .i64 ah), (w.heap.size, 1, .int .u64 al), (w5.heap.size, 0, .int .i64 n1), (w5.heap.size, 1, .int .u64 n2)]) (by kernel_rfl) (⟨(hHeld.alloc _).1, (hHeld.alloc _).2.1, (hHeld.alloc _).2.2.1, (newK2 (hHeld.alloc _)).2⟩) (fun hHeld0 => ?_)
            refine wpAnyH_take (i := 0) (oi := ⟨some 49, _, _, _, _, _⟩) (v := ?_) rfl (by kernel_rfl) (by kernel_rfl) (by kernel_rfl) (fun _ _ _ h => h) (Or.inl ⟨by rfl, ?_⟩) (by assumption) ?_
            rotate_left
            · intro wq hSw; obtain ⟨⟨qz0, qc0, qf0⟩, ⟨qz1, qc1, qf1⟩, ⟨qz2, qc2, qf2⟩, ⟨qz3, qc3, qf3⟩, _⟩ := hSw.2; go_simp; (try with_reducible rfl)
            try simp only [Act.put, List.setIfInBounds_toArray, List.set_cons_zero, List.set_cons_succ]
            refine wpAnyH_take (i := 2) (oi := ⟨some 51, _, _, _, _, _⟩) (v := ?_) rfl (by kernel_rfl) (by kernel_rfl) (by kernel_rfl) (fun _ _ _ h => h) (Or.inl ⟨by rfl, ?_⟩) (by assumption) ?_
            rotate_left
            · intro wq hSw; obtain ⟨⟨qz0, qc0, qf0⟩, ⟨qz1, qc1, qf1⟩, ⟨qz2, qc2, qf2⟩, ⟨qz3, qc3, qf3⟩, _⟩ := hSw.2; go_simp; (try with_reducible rfl)
            try simp only [Act.put, List.setIfInBounds_toArray, List.set_cons_zero, List.set_cons_succ]
            refine wpAnyH_ready (rs := [1]) (by kernel_rfl) (by simp) ?_
            refine AllReadyH.cons (o := ⟨some 50, _, _, _, _, _⟩) rfl (fun K hK => ?_) AllReadyH.nil
            go_simp
            (first | ((with_reducible refine (XA.out _ (Keeps.low (by assumption))).mono ?_); rintro e w4 ⟨rfl, hb⟩) | ((with_reducible refine (XM.out _ (Keeps.low (by assumption))).mono ?_); rintro e w4 ⟨rfl, hb⟩))
            refine hK.out _ _ (hHeld0.next hb) (fun hHeld1 => ?_)
            clear hK K
            try clear hb
            try simp only [Act.put, List.setIfInBounds_toArray, List.set_cons_zero, List.set_cons_succ]
            refine wpAnyH_ready (rs := [3]) (by kernel_rfl) (by simp) ?_
            refine AllReadyH.cons (o := ⟨some 52, _, _, _, _, _⟩) rfl (fun K hK => ?_) AllReadyH.nil
            go_simp
            (first | ((with_reducible refine (XA.out _ (Keeps.low (by assumption))).mono ?_); rintro e w4 ⟨rfl, hb⟩) | ((with_reducible refine (XM.out _ (Keeps.low (by assumption))).mono ?_); rintro e w4 ⟨rfl, hb⟩))
            refine hK.out _ _ (hHeld1.next hb) (fun hHeld2 => ?_)
            clear hK K
            try clear hb
            try simp only [Act.put, List.setIfInBounds_toArray, List.set_cons_zero, List.set_cons_succ]
            refine wpAnyH_take (i := 4) (oi := ⟨some 53, _, _, _, _, _⟩) (v := ?_) rfl (by kernel_rfl) (by kernel_rfl) (by kernel_rfl) (fun _ _ _ h => h) (Or.inl ⟨by rfl, ?_⟩) (by assumption) ?_
            rotate_left
            · intro wq hSw; go_simp; (try with_reducible rfl)
            try simp only [Act.put, List.setIfInBounds_toArray, List.set_cons_zero, List.set_cons_succ]
            refine wpAnyH_take (i := 5) (oi := ⟨some 54, _, _, _, _, _⟩) (v := ?_) rfl (by kernel_rfl) (by kernel_rfl) (by kernel_rfl) (fun _ _ _ h => h) (Or.inl ⟨by rfl, ?_⟩) (by assumption) ?_
            rotate_left
            · intro wq hSw; go_simp; (try with_reducible rfl)
            try simp only [Act.put, List.setIfInBounds_toArray, List.set_cons_zero, List.set_cons_succ]
            refine wpAnyH_take (i := 6) (oi := ⟨some 6, _, _, _, _, _⟩) (v := ?_) rfl (by kernel_rfl) (by kernel_rfl) (by kernel_rfl) (fun _ _ _ h => h) (Or.inl ⟨by rfl, ?_⟩) (by assumption) ?_
            rotate_left
            · intro wq hSw; go_simp; (try with_reducible rfl)
            try simp only [Act.put, List.setIfInBounds_toArray, List.set_cons_zero, List.set_cons_succ]
            refine wpAnyH_done (by kernel_rfl) ?_ _
            have hHeld := hHeld2
            obtain ⟨⟨kz0, kc0, kf0⟩, ⟨kz1, kc1, kf1⟩, ⟨kz2, kc2, kf2⟩, ⟨kz3, kc3, kf3⟩, _⟩ := hHeld.2
            go_wp2_with fail
            go_ret
            exact ⟨by simp [str_append], hHeld.1⟩

theorem texts_any (n ah al bh bl : Int) (hn : I64 n) (h1 : I64 ah) (h2 : U64 al) (h3 : I64 bh) (h4 : U64 bl) (w : World) (htab : Tab w) :
    Calls Tryd.prog 11 #[.int .i64 n, wideV ah al, wideV bh bl] w (Ret w (.bool true)) := by
  have hc : ∀ z : Int, rcode z = if decide (Fits z) then 0 else 5 := fun z => by unfold rcode; simp
  have fn : Fits n := by obtain ⟨_, _⟩ := hn; unfold Fits; omega
  have ng := neg_any ah al h1 h2
  unfold roomV at ng
  rw [hc] at ng
  have xm := fun w' (hb : Below w.heap.size w w') => text_any _ _ (rhi_i64 (0 - val ah al)) (rlo_u64 (0 - val ah al)) w' (htab.on hb)
  have xn := fun w' (hb : Below w.heap.size w w') => text_any _ _ (rhi_i64 n) (rlo_u64 n) w' (htab.on hb)
  simp only [val_r fn] at xn
  have fm : Fits (val (rhi (0 - val ah al)) (rlo (0 - val ah al))) := fits_val (rhi_i64 _) (rlo_u64 _)
  have vm : Fits (0 - val ah al) → val (rhi (0 - val ah al)) (rlo (0 - val ah al)) = 0 - val ah al := fun f => val_r f
  refine texts_walk n ah al bh bl _ _ _ _ _ (textL n) _ _ _ w htab ?_ (text_length (fits_val h1 h2)) (text_length fm) ?_ ?_ (of_any n hn) ng ?_ xn
    (fun w' hb => text_any ah al h1 h2 w' (htab.on hb)) (fun w' hb => text_any bh bl h3 h4 w' (htab.on hb)) xm
  · constructor
    · intro e
      exact (val_inj h2 h4).1 (text_inj e)
    · rintro ⟨rfl, rfl⟩
      rfl
  · intro k s
    rw [vm (by simpa using k)]
    exact text_below ((val_neg h2).2 s)
  · intro k s z
    rw [vm (by simpa using k)]
    have p : 0 < val ah al := by
      have q : ¬ val ah al < 0 := fun q => s ((val_neg h2).1 q)
      have r : val ah al ≠ 0 := by
        intro r
        unfold val at r
        obtain ⟨_, _⟩ := h2
        omega
      omega
    have := text_below (z := 0 - val ah al) (by omega)
    rw [show 0 - (0 - val ah al) = val ah al from by omega] at this
    exact this
  · intro w' hb
    refine (Tryd.strconv_FormatInt_10 n hn.1 hn.2 w' (htab.on hb)).mono ?_
    rintro e w2 ⟨rfl, k, os, rfl⟩
    refine ⟨?_, Lib.below_grow _ _ (Nat.le_refl _) _ _⟩
    rw [text_itoa]
end Go.Proofs.YtdhmgcdcgbimgaaDoor
