/-
  Layer 7: the law RunsFew holds of every input. Conditions: those of the law's row.
-/
import Derived.Test.YtlfjmdfplmdmgaaJnL
import Derived.Test.YtlfjmdfplmdmgaaBackL
namespace Go.Proofs.Ytlfjmdfplmdmgaa
open Go.RowKit Go.Shelf

theorem rest_few : ∀ (l : List Rn) (p : Option Rn) (n : Int), restB p n l = true → l ≠ [] → 2 * (l.length : Int) ≤ totalR l + 1
  | [], _, _, _, h => absurd rfl h
  | [r], p, n, h, _ => by
    unfold restB at h
    simp only [Bool.and_eq_true] at h
    have := ((runB_iff r (256 - n)).1 h.1).1
    simp only [totalR, List.length_cons, List.length_nil]
    omega
  | r :: r2 :: l, p, n, h, _ => by
    unfold restB at h
    simp only [Bool.and_eq_true] at h
    have h2 := h.2.2
    have ih := rest_few (r2 :: l) (some r) (n + r.c) h2 (by simp)
    unfold restB at h2
    simp only [Bool.and_eq_true] at h2
    have hb := h2.2.1
    unfold behindB at hb
    simp only [Bool.and_eq_true, decide_eq_true_eq] at hb
    have h3 := hb.1
    simp only [totalR, List.length_cons] at ih ⊢
    omega
theorem laid_few {T : List Int} (h : areB T = true) : 1 ≤ (laidR T).length ∧ (laidR T).length ≤ T.length / 2 + 1 := by
  obtain ⟨ok, e⟩ := laid_are h
  have hne := (okB_facts ok).1
  have hn := timesR_length (l := laidR T) (fun r hr => by have := ((okB_facts ok).2.1 r hr).1; omega)
  rw [e] at hn
  have hr : restB none 0 (laidR T) = true := by unfold okB at ok; simp only [Bool.and_eq_true] at ok; exact ok.2
  have := rest_few _ _ _ hr hne
  have := List.length_pos_iff.2 hne
  omega
/-- What Of answers of the times, as far as the law looks: an error, or not too many runs. -/
def FewEnd (W : World) (M : Nat) (e : Ending) (W' : World) : Prop := Below W.heap.size W W' ∧ ((e = .returned (.tuple #[.slice none 0 0, .int .i64 2])) ∨ ∃ A r c : Nat, ∃ x : Option Addr, e = .returned (.tuple #[.slice x r c, .int .i64 0]) ∧ A = r ∧ 1 ≤ r ∧ r ≤ M / 2 + 1)
theorem few_of {T : List Int} {M : Nat} (hl : T.length ≤ 1000000) (hM : T.length = M) : Hid (∀ v W, Reads .i64 W v T → Calls Try.prog 20 #[v] W (FewEnd W M)) :=
  Lib.hid (fun v W hr => (ofA_any T hl v W hr).mono fun e w' hh => by
    cases g : areB T
    · rw [g] at hh
      obtain ⟨h1, h2⟩ := res_err hh (by decide)
      exact ⟨h2, .inl h1⟩
    · rw [g] at hh
      obtain ⟨u, h1, h2, h3⟩ := res_ok hh rfl
      obtain ⟨A, c, rfl, _⟩ := readsR_own h3
      obtain ⟨k1, k2⟩ := laid_few g
      exact ⟨h2, .inr ⟨_, _, c, A, h1, rfl, k1, by rw [← hM]; exact k2⟩⟩)
theorem one_ok {f s : Int} {N : Nat} (h0 : 0 ≤ f) (h1 : f ≤ 1099511627776) (h2 : 1 ≤ s) (h3 : s ≤ 1048576) (h4 : 2 ≤ N) (h5 : N ≤ 256) : okB [⟨f, s, (N : Int)⟩] = true := by
  have a1 : 0 ≤ ((N : Int) - 1) * s := Int.mul_nonneg (by omega) (by omega)
  have a2 : ((N : Int) - 1) * s ≤ 255 * s := Int.mul_le_mul_of_nonneg_right (by omega) (by omega)
  have hr : runB ⟨f, s, (N : Int)⟩ 256 = true := (runB_iff _ _).2 ⟨by simp only; omega, by simp only; omega, by simp only; omega, by simp only; rw [if_neg (by omega)]; exact ⟨h2, by omega, by omega, by omega⟩⟩
  simp [okB, restB, hr]
theorem one_laid {f s : Int} {N : Nat} (h : okB [⟨f, s, (N : Int)⟩] = true) : areB (stepsR f s N) = true ∧ laidR (stepsR f s N) = [⟨f, s, (N : Int)⟩] := by
  have e : timesR [⟨f, s, (N : Int)⟩] = stepsR f s N := by simp [timesR]
  exact ⟨by rw [← e]; exact times_are h, by rw [← e]; exact laid_times h⟩
theorem few_half {M r : Nat} (hM : M ≤ 260) (r1 : 1 ≤ r) (r2 : r ≤ M / 2 + 1) : (1 : Int) ≤ (r : Int) ∧ (M : Int).tdiv 2 = ((M / 2 : Nat) : Int) ∧ wrap64 ((M / 2 : Nat) : Int) = ((M / 2 : Nat) : Int) ∧ wrap64 (((M / 2 : Nat) : Int) + 1) = ((M / 2 : Nat) : Int) + 1 ∧ (r : Int) ≤ wrap64 (wrap64 ((M : Int) / 2) + 1) := by
  have e0 : (M : Int) / 2 = ((M / 2 : Nat) : Int) := by omega
  rw [e0]
  generalize e : M / 2 = h at *
  have k1 : wrap64 (h : Int) = (h : Int) := i64_keeps (by omega) (by omega)
  have k2 : wrap64 ((h : Int) + 1) = (h : Int) + 1 := i64_keeps (by omega) (by omega)
  refine ⟨by omega, ?_, k1, k2, by rw [k1, k2]; omega⟩
  rw [Int.tdiv_eq_ediv_of_nonneg (by omega)]; omega
theorem few_facts (a b d : Int) : ∃ (f s : Int) (N : Nat), wrap64 ((IntKind.u64.wrap a).tmod 1099511627776) = f ∧ wrap64 (1 + wrap64 ((IntKind.u64.wrap b).tmod 1048576)) = s ∧ wrap64 (2 + wrap64 ((IntKind.u64.wrap d).tmod 255)) = (N : Int) ∧ 0 ≤ f ∧ f ≤ 1099511627776 ∧ 1 ≤ s ∧ s ≤ 1048576 ∧ 2 ≤ N ∧ N ≤ 256 := by
  have ha : 0 ≤ IntKind.u64.wrap a := by rw [IntKind.wrap_u64]; omega
  have hb : 0 ≤ IntKind.u64.wrap b := by rw [IntKind.wrap_u64]; omega
  have hd : 0 ≤ IntKind.u64.wrap d := by rw [IntKind.wrap_u64]; omega
  generalize IntKind.u64.wrap a = x at *
  generalize IntKind.u64.wrap b = y at *
  generalize IntKind.u64.wrap d = z at *
  rw [Int.tmod_eq_emod_of_nonneg ha, Int.tmod_eq_emod_of_nonneg hb, Int.tmod_eq_emod_of_nonneg hd]
  rw [show wrap64 (x % 1099511627776) = x % 1099511627776 from i64_keeps (by omega) (by omega), show wrap64 (y % 1048576) = y % 1048576 from i64_keeps (by omega) (by omega), show wrap64 (z % 255) = z % 255 from i64_keeps (by omega) (by omega)]
  refine ⟨_, _, (2 + z % 255).toNat, rfl, rfl, ?_, by omega, by omega, ?_, ?_, by omega, by omega⟩
  · rw [show wrap64 (2 + z % 255) = 2 + z % 255 from i64_keeps (by omega) (by omega)]; omega
  · rw [show wrap64 (1 + y % 1048576) = 1 + y % 1048576 from i64_keeps (by omega) (by omega)]; omega
  · rw [show wrap64 (1 + y % 1048576) = 1 + y % 1048576 from i64_keeps (by omega) (by omega)]; omega

set_option maxRecDepth 100000 in
set_option maxHeartbeats 4000000 in
theorem fewC (a b d f s : Int) (N : Nat) (hf : wrap64 ((IntKind.u64.wrap a).tmod 1099511627776) = f) (hs : wrap64 (1 + wrap64 ((IntKind.u64.wrap b).tmod 1048576)) = s) (hN : wrap64 (2 + wrap64 ((IntKind.u64.wrap d).tmod 255)) = (N : Int))
    (hOK : Hid (RunOk ⟨f, s, (N : Int)⟩)) (h4 : 2 ≤ N) (h5 : N ≤ 256) (A : Option Addr) (n c M : Nat) (T : List Int) (hm : min (n : Int) 260 = (M : Int)) (hMc : M ≤ c) (hM : M ≤ 260) (hTM : Hid (T.length = M)) (w : World) (hR : Hid (Reads .i64 w (.slice A M c) T))
    (WK : Hid (Calls Try.prog 11 #[] w (Ret w (.bool true))))
    (O1 : Hid (∀ v W, Reads .i64 W v (stepsR f s N) → Calls Try.prog 20 #[v] W (GotR W [⟨f, s, (N : Int)⟩])))
    (EQ : Hid (∀ (v : Value) (W : World), ReadsR W v [⟨f, s, (N : Int)⟩] → Calls Try.prog 19 #[v, .slice (some ⟨W.heap.size, 0, none⟩) 1 1] (W.alloc (.cells #[.int .i64 f, .int .i64 s, .int .i64 (N : Int)] 36)) (Ret (W.alloc (.cells #[.int .i64 f, .int .i64 s, .int .i64 (N : Int)] 36)) (.bool true))))
    (O2 : Hid (∀ v W, Reads .i64 W v T → Calls Try.prog 20 #[v] W (FewEnd W M))) :
    Calls Try.prog 10 #[.int .i64 a, .int .i64 b, .int .i64 d, .slice A n c] w (Ret w (.bool true)) := by
  obtain ⟨i0, hi, hz0, hz1, hz2⟩ := info_parts infoI64
  go_enter Try.func10, Try.ntmps10
  go_wp2_with fail
  refine WK.out.mono ?_
  rintro e w1 ⟨rfl, hb1⟩
  go_wp2_with fail
  simp only [hf, hs, hN]
  clear hf hs hN
  go_loopw [9, 30] (fun u i wr => ∃ k : Nat, i = .int .i64 k ∧ k ≤ N ∧ Hid (wr.ownsRow w1.heap.size 2 1 u (stepsR f s k).length ((stepsR f s k).map (Value.int .i64))) ∧ Below w1.heap.size w1 wr) (fun _ i _ => N - (intOf i).toNat)
  case atStart => exact ⟨0, rfl, by omega, Lib.hid (World.ownsRow_nil _ _ _ _), Below.refl _ _⟩
  case round =>
    obtain ⟨k, rfl, hkl, HI, hB⟩ := hrel
    by_cases gk : k < N
    · have j1 : (k : Int) < (N : Int) := by omega
      obtain ⟨b1, b2, b3, b4⟩ := step_small hOK.out (j := k) j1
      simp only at b1 b2 b3 b4
      have e3 : wrap64 (s * (k : Int)) = s * (k : Int) := i64_keeps (by omega) (by omega)
      have e4 : wrap64 (f + s * (k : Int)) = f + s * (k : Int) := i64_keeps (by omega) (by omega)
      have EV := Lib.hid (steps_more f s k)
      have hLn : (stepsR f s k).length ≤ 256 := by rw [steps_length]; omega
      clear b1 b2 b3 b4
      generalize stepsR f s k = P at *
      go_wp2_with (at_builtin; refine wpList_append_own _ rfl _ _ 26 rfl w1.heap.size 2 i0 (.int .i64 0) 1 8 Try.underlying26 hi hz0 hz1 hz2 rfl (by decide) _ _ _ rfl (HI.out.alloc _) ⟨wr.heap.size, 0, none⟩ 1 1 [.int .i64 (f + s * (k : Int))] rfl rfl ?c1 ?c2 ?c3 ?c4 ?c5 ?_)
      case c1 =>
        intro j u hj
        match j, hj with
        | 0, hj => simp at hj; subst hj; simp [Addr.add]
      case c2 => intro u hu; simp at hu; subst hu; rfl
      case c3 => unfold maxLen; omega
      case c4 => omega
      case c5 => have := hB.size; simp; omega
      intro v' w12 hown' hgrow _
      have HO3 : Hid (w12.ownsRow w1.heap.size 2 1 v' (P ++ [f + s * (k : Int)]).length ((P ++ [f + s * (k : Int)]).map (Value.int .i64))) := Lib.hid (by simpa using hown')
      have hB3 := own_grows hB HI.out hgrow
      rw [← EV.out] at HO3
      clear hown' hgrow HI hB e3 e4
      go_wp2_with fail
      go_roundw
      case rel => exact ⟨k + 1, by simp, gk, HO3, hB3⟩
      case measure => exact index_less7 gk
    · have j1 : ¬ (k : Int) < (N : Int) := by omega
      have EK : k = N := by omega
      rw [EK] at HI
      have hB0 := under hb1 hB
      have RO := Lib.hid (reads_own (k := .i64) HI.out)
      clear HI hB EK
      go_wp2_with fail
      refine (O1.out _ _ RO.out).mono ?_
      rintro e w3 ⟨v3, rfl, hb3, ho3⟩
      have hr3 := readsR_own ho3
      have hB3 := under hB0 hb3
      obtain ⟨A3, c3, rfl, hj⟩ := id hr3
      clear hj
      have R3 := Lib.hid hr3
      clear hr3 ho3 hb3 hB0 RO
      go_wp2_with fail
      refine (EQ.out _ _ R3.out).mono ?_
      rintro e w4 ⟨rfl, hb4⟩
      have hB4 := under hB3 (past1 hb4)
      clear hb4 hB3 R3
      have hwr := hB4.size
      have HT := Lib.hid (hR.out.below hB4)
      clear hR O1 EQ WK hOK h4 h5
      have n1 : (M : Int) ≤ (c : Int) := by omega
      have n2 : (0 : Int) ≤ (M : Int) := by omega
      cases A with
      | none =>
        have hTe : T = [] := by
          obtain ⟨A', c', e, hc, hk⟩ := HT.out
          cases e
          cases T with
          | nil => rfl
          | cons x l' =>
            obtain ⟨b, off, e1, _⟩ := hk 0 x rfl
            cases e1
        have hM0 : M = 0 := by rw [← hTM.out, hTe]; rfl
        subst hM0
        have OF2 : Hid (∀ v W, Reads .i64 W v [] → Calls Try.prog 20 #[v] W (ErrR W 2)) := Lib.hid (fun v W hr => (ofA_any [] (by simp) v W hr).mono fun e w' hh => by have := res_err hh (by rw [are_nil]; decide); rwa [are_nil] at this)
        clear O2 HT hTM hTe
        go_wp2_with fail
        refine (OF2.out _ _ (show Reads .i64 _ _ [] from ⟨_, _, rfl, Nat.zero_le _, fun i z hi => by simp at hi⟩)).mono ?_
        rintro e w5 ⟨rfl, hb5⟩
        go_wp2_with fail
        go_ret
        exact ⟨rfl, under hB4 (past1 hb5)⟩
      | some ad =>
        go_wp2_with (at_builtin; refine wpList_append_own _ rfl _ _ 26 rfl w4.heap.size 2 i0 (.int .i64 0) 1 8 Try.underlying26 hi hz0 hz1 hz2 rfl (by decide) _ _ _ rfl (World.ownsRow_made w4 #[] 0 (Nat.le_refl _) (Nat.zero_le _) rfl) ad M c (T.map (Value.int .i64)) rfl ?qc1 ?qc2 ?qc3 ?qc4 ?qc5 ?qc6 ?_)
        case qc1 => rw [List.length_map, hTM.out]; simp
        case qc2 => exact reads_addI (HT.out.below (below_alloc w4 _))
        case qc3 => exact ints_one T
        case qc4 => unfold maxLen; omega
        case qc5 => omega
        case qc6 => simp
        intro v2 w2 hown hgrow _
        have hb12 : Below w4.heap.size w4 w2 := ((Below.refl _ w4).alloc (Nat.le_refl _) _).grown hgrow (by simp) (by intro k hk; simp [Value.ownBlock] at hk; omega)
        have hO2 : RowI w4.heap.size T v2 w2 := by unfold RowI; rw [hTM.out]; simpa using hown
        have hB5 := under hB4 hb12
        have RR := Lib.hid (reads_own (k := .i64) hO2)
        clear hown hgrow hb12 hO2 HT
        go_wp2_with fail
        refine (O2.out _ _ RR.out).mono ?_
        rintro e w6 ⟨hb6, he⟩
        have hB6 := under hB5 hb6
        rcases he with rfl | ⟨_, r, c6, x, rfl, -, r1, r2⟩
        · go_wp2_with fail
          go_ret
          exact ⟨rfl, hB6⟩
        · obtain ⟨q1, -, -, -, q5⟩ := few_half hM r1 r2
          clear hm hM hMc n1 n2 r1 r2 hB4 hB5 hb6
          go_wp2_with fail
          go_ret
          exact ⟨rfl, hB6⟩
set_option maxRecDepth 100000 in
set_option maxHeartbeats 1000000 in
theorem few_any (l : List Int) (hl : l.length ≤ 9223372036854775807) (a b d : Int) (v : Value) (w : World) (h : Reads .i64 w v l) : Calls Try.prog 10 #[.int .i64 a, .int .i64 b, .int .i64 d, v] w (Ret w (.bool true)) := by
  have WK := Lib.hid (wakes_any w)
  have hh := h
  obtain ⟨A, c, rfl, hc, hk⟩ := h
  clear hk
  obtain ⟨f, s, N, e1, e2, e3, f0, f1, s0, s1, N0, N1⟩ := few_facts a b d
  obtain ⟨M, hM⟩ : ∃ M, M = min l.length 260 := ⟨_, rfl⟩
  have hm : min (l.length : Int) 260 = (M : Int) := by omega
  have hT : (l.take M).length = M := by rw [List.length_take]; omega
  have hR := reads_takeI hh M (by omega)
  have ok := one_ok f0 f1 s0 s1 N0 N1
  obtain ⟨k1, k2⟩ := one_laid ok
  have hOK : RunOk ⟨f, s, (N : Int)⟩ := (okB_facts ok).2.1 _ (List.mem_singleton.2 rfl)
  have O1 : Hid (∀ v W, Reads .i64 W v (stepsR f s N) → Calls Try.prog 20 #[v] W (GotR W [⟨f, s, (N : Int)⟩])) := Lib.hid (fun v W hr => (ofA_any (stepsR f s N) (by rw [steps_length]; omega) v W hr).mono fun e w' hh => by
    rw [k1] at hh
    have := res_ok hh rfl
    rwa [k2] at this)
  have EQ : Hid (∀ (v : Value) (W : World), ReadsR W v [⟨f, s, (N : Int)⟩] → Calls Try.prog 19 #[v, .slice (some ⟨W.heap.size, 0, none⟩) 1 1] (W.alloc (.cells #[.int .i64 f, .int .i64 s, .int .i64 (N : Int)] 36)) (Ret (W.alloc (.cells #[.int .i64 f, .int .i64 s, .int .i64 (N : Int)] 36)) (.bool true))) := Lib.hid (fun v W h =>
    equalR [⟨f, s, (N : Int)⟩] (by simp) _ _ _ (h.below (below_alloc W _)) (readsR_new (w := W) (l := [⟨f, s, (N : Int)⟩]) 1 rfl))
  exact fewC a b d f s N e1 e2 e3 (Lib.hid hOK) N0 N1 A l.length c M (l.take M) hm (by omega) (by omega) (Lib.hid hT) w (Lib.hid hR) WK O1 EQ (few_of (by omega) hT)
end Go.Proofs.Ytlfjmdfplmdmgaa
