/-
  The walk of the law SpanMeets. Conditions: those written at each fact.
-/
import Derived.Test.YtmnndbafljngiaaHolB
namespace Go.Proofs.Ytmnndbafljngiaa
open Go.RowKit

/-- Does a number lie in each of them? -/
def allB (P : List (Int × Int)) (z : Int) : Bool := P.all fun s => decide (s.1 ≤ z) && decide (z ≤ s.2)
theorem allB_next {P : List (Int × Int)} {k : Nat} {s : Int × Int} (h : P[k]? = some s) (z : Int) : allB (P.take (k + 1)) z = (allB (P.take k) z && (decide (s.1 ≤ z) && decide (z ≤ s.2))) := by
  obtain ⟨a1, e1⟩ := List.getElem?_eq_some_iff.1 h
  unfold allB
  rw [List.take_succ_eq_append_getElem a1, e1, List.all_append]
  simp
theorem allB_ends {P : List (Int × Int)} {a0 a1 b0 b1 : Int} (hE : Ends P a0 a1 b0 b1) (z : Int) : allB P z = (decide (b0 ≤ z) && decide (z ≤ a1)) := by
  rw [Bool.eq_iff_iff]
  unfold allB
  simp only [List.all_eq_true, Bool.and_eq_true, decide_eq_true_eq]
  constructor
  · intro h
    obtain ⟨s, hs, e⟩ := hE.b0
    obtain ⟨t, ht, f⟩ := hE.a1
    have := h s hs
    have := h t ht
    omega
  · intro h s hs
    have := hE.all s hs
    omega
theorem meets_none (v z : Value) (w : World) (GU : ∀ W, Below w.heap.size w W → Calls Try.prog 40 #[v] W (GotG W [])) : Calls Try.prog 9 #[v, z] w (Ret w (.bool true)) := by
  have WK := Lib.hid (fun W => wakes_any W)
  replace GU := Lib.hid GU
  have ME := Lib.hid (fun v W k => (show Calls Try.prog 28 #[v] W (Ret W (.tuple #[spV 0 0, .int .i64 9])) from meetR_any [] (by simp) v W k))
  go_enter Try.func9, Try.ntmps9
  go_wp2_with fail
  refine (WK.out _).mono ?_
  rintro e w1 ⟨rfl, hb1⟩
  have HB1 := Lib.hid hb1
  clear hb1
  go_wp2_with fail
  refine (GU.out _ HB1.out).mono ?_
  rintro e w2 ⟨v1, v2, rfl, hb2, ho1, ho2⟩
  have RS := readsS_own (l := []) ho1
  obtain ⟨A, c, rfl⟩ : ∃ A c, v1 = .slice A 0 c := by
    obtain ⟨A, c, e, _⟩ := RS
    exact ⟨A, c, e⟩
  have HB2 := Lib.hid (under HB1.out hb2)
  replace RS := Lib.hid RS
  clear hb2 ho1 ho2
  go_wp2_with fail
  refine (ME.out _ _ RS.out).mono ?_
  rintro e w3 ⟨rfl, hb3⟩
  have HB3 := Lib.hid (under HB2.out hb3)
  clear hb3
  go_wp2_with fail
  go_ret
  exact ⟨rfl, HB3.out.alloc HB3.out.size _⟩
theorem new_cells3 {W : World} {a b c : Value} {t : TypeId} {n : Nat} (hn : n = W.heap.size) : ∀ (j : Nat) (u : Value), [a, b, c][j]? = some u → (W.alloc (.cells #[a, b, c] t)).cell? ((⟨n, 0, none⟩ : Addr).add j) = some u := by
  subst hn
  intro j u h
  match j, h with
  | 0, h => cases h; simp [Addr.add, go_sem]
  | 1, h => cases h; simp [Addr.add, go_sem]
  | 2, h => cases h; simp [Addr.add, go_sem]
  | j + 3, h => simp at h
theorem owns_apart {w : World} {B B' : Nat} {e e' : TypeId} {s s' n n' m g c : Nat} {v : Value} {xs xs' : List Value} (k : w.ownsRow B e s v n xs) (h : w.ownsRow B' e' s' (.slice (some ⟨g, 0, none⟩) m c) n' xs') (he : e ≠ e') : v.ownBlock ≠ some g := by
  intro hx
  obtain ⟨_, h2⟩ := h
  obtain ⟨_, k2⟩ := k
  rcases h2 with ⟨h2, _⟩ | ⟨g1, c1, cur, y1, _, y3, _⟩
  · cases h2
  · injection y1 with y1
    injection y1 with y1
    injection y1 with y1
    subst y1
    rcases k2 with ⟨rfl, _⟩ | ⟨g', cap', cur', z1, _, z3, _⟩
    · cases hx
    · rw [z1] at hx
      injection hx with hx
      change g' = g at hx
      subst hx
      rw [y3] at z3
      injection z3 with z3
      injection z3 with _ z3 _
      exact he z3.symm
theorem ownS_own {w : World} {B n g c : Nat} {t : TypeId} {l : List (Int × Int)} (h : w.ownsRow B t 2 (.slice (some ⟨g, 0, none⟩) n c) l.length (flatS l)) (hne : 0 < l.length) : OwnS w g c l := by
  obtain ⟨g', c', e, o, _⟩ := ownS_of h (List.ne_nil_of_length_pos hne)
  injection e with e1 e2 e3
  injection e1 with e1
  injection e1 with e1
  subst e1 e3
  exact o

set_option maxRecDepth 100000 in
set_option maxHeartbeats 8000000 in
theorem meets_yes (P : List (Int × Int)) (Q : List Int) (n : Nat) (hn : P.length = n) (hQ : Q.length = n) (hn1 : 1 ≤ n) (hn2 : n ≤ 20) (m0 m1 : Int) (ME0 : meetR P = (m0, m1, 0)) (hC : ∀ z, allB P z = (decide (m0 ≤ z) && decide (z ≤ m1))) (hW : ∀ s ∈ P, withinB m0 m1 s.1 s.2 = true)
    (v : Value) (z0 : Int) (w : World) (GU : ∀ W, Below w.heap.size w W → Calls Try.prog 40 #[v] W fun e w' => ∃ g1 c1 v2, e = .returned (.tuple #[.slice (some ⟨g1, 0, none⟩) n c1, v2]) ∧ Below W.heap.size W w' ∧ w'.ownsRow W.heap.size 23 2 (.slice (some ⟨g1, 0, none⟩) n c1) P.length (flatS P) ∧ OwnS w' g1 c1 P ∧ w'.ownsRow W.heap.size 2 1 v2 n (Q.map (Value.int .i64)) ∧ n ≤ c1) :
    Calls Try.prog 9 #[v, .int .i64 z0] w (Ret w (.bool true)) := by
  have WK := Lib.hid (fun W => wakes_any W)
  replace GU := Lib.hid GU
  have ME := fun v W k => meetR_any P (by omega) v W k
  rw [ME0] at ME
  simp only at ME
  replace ME := Lib.hid ME
  have HA := Lib.hid (fun lo hi v W => has_any lo hi v W)
  have WI := Lib.hid (fun a b c d W => within_any a b c d W)
  have HN := Lib.hid hn
  have HQN := Lib.hid hQ
  have HC := Lib.hid hC
  have HW := Lib.hid hW
  clear ME0 hC hn hQ hW
  obtain ⟨j0, ji, jz0, jz1, jz2⟩ := info_parts infoI64
  obtain ⟨⟨x0, y0⟩, HS0⟩ : ∃ s, Hid (P[0]? = some s) := ⟨_, Lib.hid (List.getElem?_eq_getElem (by have := HN.out; omega))⟩
  go_enter Try.func9, Try.ntmps9
  go_wp2_with fail
  refine (WK.out _).mono ?_
  rintro e w1 ⟨rfl, hb1⟩
  have HB1 := Lib.hid hb1
  have W0S := Lib.hid hb1.size
  clear hb1
  go_wp2_with fail
  refine (GU.out _ HB1.out).mono ?_
  rintro e w2 ⟨g1, cc1, v2, rfl, hb2, ho0, ho1, ho2, hc1⟩
  have HB2 := Lib.hid (under HB1.out hb2)
  have W1S := Lib.hid hb2.size
  have O0 := Lib.hid ho0
  have O1 := Lib.hid ho1
  have HO2 := Lib.hid ho2
  have n0 : ((n : Int) == 0) = false := by rw [beq_eq_false_iff_ne]; omega
  have n1 : (0 : Int) < (n : Int) := by omega
  have n2 : 0 < n := by omega
  have RD := Lib.hid (show ReadsS w2 (.slice (some ⟨g1, 0, none⟩) n cc1) P from by have := O1.out.reads; rwa [HN.out] at this)
  clear hb2 ho0 ho1 ho2 HB1 GU WK
  go_wp2_with fail
  refine (ME.out _ _ RD.out).mono ?_
  rintro e w3 ⟨rfl, hb3⟩
  have HB3 := Lib.hid hb3
  obtain ⟨k0, k1, k2, k3, k4, _⟩ := (O1.out.below hb3) 0 _ HS0.out
  simp only [Nat.zero_mul, Nat.zero_add] at k1 k2 k3 k4
  have HO3 := Lib.hid (owns_below HO2.out hb3)
  have O3 := Lib.hid (owns_below O0.out hb3)
  have HAP := Lib.hid (owns_apart HO3.out O3.out (by decide))
  have hww : w.heap.size ≤ w1.heap.size := W0S.out
  have HB23 := Lib.hid (under HB2.out HB3.out)
  clear hb3 HO2 O0 RD
  go_wp2_with fail
  obtain ⟨N, hN⟩ : ∃ N, N = n + 3 := ⟨_, rfl⟩
  have hln : (Q ++ [z0, x0, y0]).length = N := by simp [HQN.out, hN]
  replace hN := Lib.hid hN
  replace hln := Lib.hid hln
  refine region_keeps (w0 := w) (L := [(w3.heap.size, 0, .int .i64 m0), (w3.heap.size, 1, .int .i64 m1), (g1, 0, .int .i64 x0), (g1, 1, .int .i64 y0)]) (by kernel_rfl) ⟨HB23.out.alloc HB23.out.size _, (show Cells [(w3.heap.size, 0, .int .i64 m0), (w3.heap.size, 1, .int .i64 m1), (g1, 0, .int .i64 x0), (g1, 1, .int .i64 y0)] _ from ⟨⟨by simp, by simp [go_sem], by simp [go_sem]⟩, ⟨by simp, by simp [go_sem], by simp [go_sem]⟩, ((show Keeps w3 [(g1, 0, .int .i64 x0), (g1, 1, .int .i64 y0)] w3 from ⟨Below.refl _ _, ⟨k0, k1, k3⟩, ⟨k0, k2, k4⟩, trivial⟩).alloc _).2⟩)⟩ (fun hHeld0 => ?_)
  refine wpAnyH_take (i := 0) (oi := ⟨some 33, _, _, _, _, _⟩) (v := ?_) rfl (by kernel_rfl) (by kernel_rfl) (by kernel_rfl) (fun _ _ _ h => h) (Or.inl ⟨by rfl, ?_⟩) (by assumption) ?_
  rotate_left
  · intro wq hSw; go_simp; (try with_reducible rfl)
  try simp only [Act.put, List.setIfInBounds_toArray, List.set_cons_zero, List.set_cons_succ]
  refine wpAnyH_take (i := 1) (oi := ⟨some 34, _, _, _, _, _⟩) (v := ?_) rfl (by kernel_rfl) (by kernel_rfl) (by kernel_rfl) (fun _ _ _ h => h) (Or.inl ⟨by rfl, ?_⟩) (by assumption) ?_
  rotate_left
  · intro wq hSw; go_simp; (try with_reducible rfl)
  try simp only [Act.put, List.setIfInBounds_toArray, List.set_cons_zero, List.set_cons_succ]
  refine wpAnyH_take (i := 2) (oi := ⟨some 35, _, _, _, _, _⟩) (v := ?_) rfl (by kernel_rfl) (by kernel_rfl) (by kernel_rfl) (fun _ _ _ h => h) (Or.inl ⟨by rfl, ?_⟩) (by assumption) ?_
  rotate_left
  · intro wq hSw; go_simp; (try with_reducible rfl)
  try simp only [Act.put, List.setIfInBounds_toArray, List.set_cons_zero, List.set_cons_succ]
  refine wpAnyH_take (i := 3) (oi := ⟨some 36, _, _, _, _, _⟩) (v := ?_) rfl (by kernel_rfl) (by kernel_rfl) (by kernel_rfl) (fun _ _ _ h => h) (Or.inl ⟨by rfl, ?_⟩) (by assumption) ?_
  rotate_left
  · intro wq hSw; go_simp; (try with_reducible rfl)
  try simp only [Act.put, List.setIfInBounds_toArray, List.set_cons_zero, List.set_cons_succ]
  refine wpAnyH_take (i := 4) (oi := ⟨some 37, _, _, _, _, _⟩) (v := ?_) rfl (by kernel_rfl) (by kernel_rfl) (by kernel_rfl) (fun _ _ _ h => h) (Or.inl ⟨by rfl, ?_⟩) (by assumption) ?_
  rotate_left
  · intro wq hSw; go_simp; (try with_reducible rfl)
  try simp only [Act.put, List.setIfInBounds_toArray, List.set_cons_zero, List.set_cons_succ]
  refine wpAnyH_take (i := 5) (oi := ⟨some 38, _, _, _, _, _⟩) (v := ?_) rfl (by kernel_rfl) (by kernel_rfl) (by kernel_rfl) (fun _ _ _ h => h) (Or.inl ⟨by rfl, ?_⟩) (by assumption) ?_
  rotate_left
  · intro wq hSw; obtain ⟨⟨qz0, qc0, qf0⟩, ⟨qz1, qc1, qf1⟩, ⟨qz2, qc2, qf2⟩, ⟨qz3, qc3, qf3⟩, _⟩ := hSw.2; go_simp; (try with_reducible rfl)
  try simp only [Act.put, List.setIfInBounds_toArray, List.set_cons_zero, List.set_cons_succ]
  refine wpAnyH_take (i := 6) (oi := ⟨some 39, _, _, _, _, _⟩) (v := ?_) rfl (by kernel_rfl) (by kernel_rfl) (by kernel_rfl) (fun _ _ _ h => h) (Or.inl ⟨by rfl, ?_⟩) (by assumption) ?_
  rotate_left
  · intro wq hSw; go_simp; (try with_reducible rfl)
  try simp only [Act.put, List.setIfInBounds_toArray, List.set_cons_zero, List.set_cons_succ]
  refine wpAnyH_take (i := 7) (oi := ⟨some 40, _, _, _, _, _⟩) (v := ?_) rfl (by kernel_rfl) (by kernel_rfl) (by kernel_rfl) (fun _ _ _ h => h) (Or.inl ⟨by rfl, ?_⟩) (by assumption) ?_
  rotate_left
  · intro wq hSw; go_simp; (try with_reducible rfl)
  try simp only [Act.put, List.setIfInBounds_toArray, List.set_cons_zero, List.set_cons_succ]
  refine wpAnyH_take (i := 8) (oi := ⟨some 41, _, _, _, _, _⟩) (v := ?_) rfl (by kernel_rfl) (by kernel_rfl) (by kernel_rfl) (fun _ _ _ h => h) (Or.inl ⟨by rfl, ?_⟩) (by assumption) ?_
  rotate_left
  · intro wq hSw; go_simp; (try with_reducible rfl)
  try simp only [Act.put, List.setIfInBounds_toArray, List.set_cons_zero, List.set_cons_succ]
  refine wpAnyH_take (i := 9) (oi := ⟨some 42, _, _, _, _, _⟩) (v := ?_) rfl (by kernel_rfl) (by kernel_rfl) (by kernel_rfl) (fun _ _ _ h => h) (Or.inl ⟨by rfl, ?_⟩) (by assumption) ?_
  rotate_left
  · intro wq hSw; obtain ⟨⟨qz0, qc0, qf0⟩, ⟨qz1, qc1, qf1⟩, ⟨qz2, qc2, qf2⟩, ⟨qz3, qc3, qf3⟩, _⟩ := hSw.2; go_simp; (try with_reducible rfl)
  try simp only [Act.put, List.setIfInBounds_toArray, List.set_cons_zero, List.set_cons_succ]
  refine wpAnyH_take (i := 13) (oi := ⟨some 46, _, _, _, _, _⟩) (v := ?_) rfl (by kernel_rfl) (by kernel_rfl) (by kernel_rfl) (fun _ _ _ h => h) (Or.inl ⟨by rfl, ?_⟩) (by assumption) ?_
  rotate_left
  · intro wq hSw; go_simp; (try with_reducible rfl)
  try simp only [Act.put, List.setIfInBounds_toArray, List.set_cons_zero, List.set_cons_succ]
  refine wpAnyH_ready (rs := [10]) (by kernel_rfl) (by simp) ?_
  refine AllReadyH.cons (o := ⟨some 43, _, _, _, _, _⟩) rfl (fun K hK => ?_) AllReadyH.nil
  go_simp
  refine hK.out _ _ (by first | exact hHeld0.alloc _ | exact (hHeld0.alloc _).drew) (fun hHeld1 => ?_)
  clear hK K
  try clear hb
  try simp only [Act.put, List.setIfInBounds_toArray, List.set_cons_zero, List.set_cons_succ]
  refine wpAnyH_ready (rs := [11]) (by kernel_rfl) (by simp) ?_
  refine AllReadyH.cons (o := ⟨some 44, _, _, _, _, _⟩) rfl (fun K hK => ?_) AllReadyH.nil
  (refine if_wanted rfl ?_; refine wp_append_own _ (.tmp 33) (.tmp 43) 63 rfl w1.heap.size 2 j0 (.int .i64 0) 1 8 Try.underlying63 ji jz0 jz1 jz2 rfl (by decide) _ _ _ rfl (owns_below HO3.out (by go_grown)) ⟨w3.heap.size + 1, 0, none⟩ 3 3 [.int .i64 z0, .int .i64 x0, .int .i64 y0] rfl rfl (new_cells3 (by simp)) (by intro u hu; simp at hu; rcases hu with rfl | rfl | rfl <;> rfl) (by unfold maxLen; omega) (by omega) (Nat.le_trans W1S.out (Nat.le_trans HB3.out.size (by simp <;> omega))) (fun v5 w5 hown5 hgrow5 _ => ?_); have O5 := Lib.hid (owns_other (owns_below O3.out (by go_grown)) (owns_below HO3.out (by go_grown)) (by decide) hgrow5); obtain ⟨g3, cc3, hv5, o3, _⟩ := ownI_of (l := Q ++ [z0, x0, y0]) (by rw [hln.out, hN.out, List.map_append]; exact hown5) (by simp); rw [hln.out] at hv5; subst hv5)
  refine hK.out _ _ (((hHeld1).grows (owns_below HO3.out (by go_grown)) hww (by intro q hq; simp at hq; rcases hq with rfl | rfl | rfl | rfl <;> first | exact owns_lt HO3.out _ (Nat.le_refl _) | exact HAP.out) hgrow5)) (fun hHeld2 => ?_)
  clear hK K
  try clear hb
  try simp only [Act.put, List.setIfInBounds_toArray, List.set_cons_zero, List.set_cons_succ]
  refine wpAnyH_take (i := 12) (oi := ⟨some 45, _, _, _, _, _⟩) (v := ?_) rfl (by kernel_rfl) (by kernel_rfl) (by kernel_rfl) (fun _ _ _ h => h) (Or.inl ⟨by rfl, ?_⟩) (by assumption) ?_
  rotate_left
  · intro wq hSw; go_simp; (try with_reducible rfl)
  try simp only [Act.put, List.setIfInBounds_toArray, List.set_cons_zero, List.set_cons_succ]
  refine wpAnyH_done (by kernel_rfl) ?_ _
  have hHeld := hHeld2
  obtain ⟨⟨kz0, kc0, kf0⟩, ⟨kz1, kc1, kf1⟩, ⟨kz2, kc2, kf2⟩, ⟨kz3, kc3, kf3⟩, _⟩ := hHeld.2
  have S5 := Lib.hid (ownS_own O5.out (by rw [HN.out]; omega))
  have I5 := Lib.hid o3
  have HL := hln
  have hNN : N ≤ 23 := by have := hN.out; omega
  have hM : Keeps w5 [(w3.heap.size, 0, .int .i64 m0), (w3.heap.size, 1, .int .i64 m1)] w5 := ⟨Below.refl _ _, hHeld.2.1, hHeld.2.2.1, trivial⟩
  have HB5 := Lib.hid hHeld.1
  clear hown5 hgrow5 O5 hln hN o3 hHeld hHeld0 hHeld1 hHeld2 O3 HO3 HB23 HB3 HB2 W0S W1S HAP hww k0 k1 k2 k3 k4
  generalize Q ++ [z0, x0, y0] = L at *
  go_wp2_with fail
  go_loopw [46] (fun i wr => ∃ k : Nat, i = .int .i64 k ∧ k ≤ N ∧ Keeps w5 [(w3.heap.size, 0, .int .i64 m0), (w3.heap.size, 1, .int .i64 m1)] wr) (fun i _ => N - (intOf i).toNat)
  case atStart => exact ⟨0, rfl, by omega, hM⟩
  case round =>
    obtain ⟨k, rfl, hkN, hHeld⟩ := hrel
    by_cases gk : k < N
    · obtain ⟨z, hz⟩ : ∃ z, L[k]? = some z := ⟨_, List.getElem?_eq_getElem (by have := HL.out; omega)⟩
      obtain ⟨q0, q1, q2, q3⟩ := (I5.out.below hHeld.1) k z hz
      have i1 : (k : Int) < (N : Int) := by omega
      have i0 : (0 : Int) ≤ (k : Int) := by omega
      have hkc : (k : Int) < (cc3 : Int) := by have := HL.out; omega
      clear hz
      go_wp2_with fail
      obtain ⟨wo, rfl⟩ : ∃ wo : World, wo = wr := ⟨_, rfl⟩
      go_loopw [11, 52] (fun b i wi => ∃ j : Nat, b = .bool (allB (P.take j) z) ∧ i = .int .i64 j ∧ j ≤ n ∧ Keeps w5 [(w3.heap.size, 0, .int .i64 m0), (w3.heap.size, 1, .int .i64 m1)] wi) (fun _ i _ => n - (intOf i).toNat)
      case atStart => exact ⟨0, rfl, rfl, by omega, hHeld⟩
      case round =>
        obtain ⟨j, rfl, rfl, hjn, hHeldI⟩ := hrel
        by_cases gj : j < n
        · obtain ⟨⟨x, y⟩, hs⟩ : ∃ s, P[j]? = some s := ⟨_, List.getElem?_eq_getElem (by have := HN.out; omega)⟩
          obtain ⟨s0, s1, s2, s3, s4, s5⟩ := (S5.out.below hHeldI.1) j _ hs
          simp only at s1 s2
          have j1 : (j : Int) < (n : Int) := by omega
          have j0' : (0 : Int) ≤ (j : Int) := by omega
          have EN := Lib.hid (allB_next hs z)
          simp only at EN
          have HS1 := Lib.hid (fun W => HA.out x y z W)
          clear hs
          generalize allB (P.take j) z = bp at *
          generalize (decide (x ≤ z) && decide (z ≤ y)) = bh at *
          cases bp
          · go_wp2_with fail
            go_roundw
            case rel => exact ⟨j + 1, by rw [EN.out]; rfl, by simp, by omega, hHeldI.alloc _⟩
            case measure => simp [intOf]; omega
          · go_wp2_with fail
            refine (HS1.out _).mono ?_
            rintro e w6 ⟨rfl, hb⟩
            replace hHeldI := (hHeldI.alloc (.cells #[.int .i64 x, .int .i64 y] 23)).next hb
            clear hb
            go_wp2_with fail
            go_roundw
            case rel => exact ⟨j + 1, by rw [EN.out]; rfl, by simp, by omega, hHeldI⟩
            case measure => simp [intOf]; omega
        · have j1 : ¬ (j : Int) < (n : Int) := by omega
          have ET : P.take j = P := List.take_of_length_le (by have := HN.out; omega)
          rw [ET]
          clear ET
          obtain ⟨⟨kz0, kc0, kf0⟩, ⟨kz1, kc1, kf1⟩, _⟩ := hHeldI.2
          have HM1 := Lib.hid (fun W => (show Calls Try.prog 15 #[spV m0 m1, .int .i64 z] W (Ret W (.bool (allB P z))) from by rw [HC.out z]; exact HA.out m0 m1 z W))
          generalize allB P z = bb at *
          cases bb
          all_goals
            go_wp2_with fail
            refine (HM1.out _).mono ?_
            rintro e w6 ⟨rfl, hb⟩
            replace hHeldI := hHeldI.next hb
            clear hb
            go_wp2_with fail
            go_roundw
            case rel => exact ⟨k + 1, by simp, by omega, hHeldI⟩
            case measure => simp [intOf]; omega
    · have i1 : ¬ (k : Int) < (N : Int) := by omega
      obtain ⟨⟨kz0, kc0, kf0⟩, ⟨kz1, kc1, kf1⟩, _⟩ := hHeld.2
      go_wp2_with fail
      go_loopw [91] (fun i wi => ∃ j : Nat, i = .int .i64 j ∧ j ≤ n ∧ Keeps w5 [(w3.heap.size, 0, .int .i64 m0), (w3.heap.size, 1, .int .i64 m1)] wi) (fun i _ => n - (intOf i).toNat)
      case atStart => exact ⟨0, rfl, by omega, hHeld⟩
      case round =>
        obtain ⟨j, rfl, hjn, hHeldI⟩ := hrel
        by_cases gj : j < n
        · obtain ⟨⟨x, y⟩, hs⟩ : ∃ s, P[j]? = some s := ⟨_, List.getElem?_eq_getElem (by have := HN.out; omega)⟩
          obtain ⟨s0, s1, s2, s3, s4, s5⟩ := (S5.out.below hHeldI.1) j _ hs
          simp only at s1 s2
          have j1 : (j : Int) < (n : Int) := by omega
          have j0' : (0 : Int) ≤ (j : Int) := by omega
          have WI1 := Lib.hid (fun W => (show Calls Try.prog 17 #[spV m0 m1, spV x y] W (Ret W (.bool true)) from by have := WI.out m0 m1 x y W; rwa [HW.out _ (List.mem_of_getElem? hs)] at this))
          clear hs kz0 kc0 kf0 kz1 kc1 kf1
          obtain ⟨⟨kz0, kc0, kf0⟩, ⟨kz1, kc1, kf1⟩, _⟩ := hHeldI.2
          go_wp2_with fail
          refine (WI1.out _).mono ?_
          rintro e w6 ⟨rfl, hb⟩
          replace hHeldI := (hHeldI.alloc (.cells #[.int .i64 x, .int .i64 y] 23)).next hb
          clear hb
          go_wp2_with fail
          go_roundw
          case rel => exact ⟨j + 1, by simp, by omega, hHeldI⟩
          case measure => simp [intOf]; omega
        · have j1 : ¬ (j : Int) < (n : Int) := by omega
          go_wp2_with fail
          go_ret
          exact ⟨rfl, below_then HB5.out hHeldI.1⟩

set_option maxRecDepth 100000 in
set_option maxHeartbeats 8000000 in
theorem meets_no (P : List (Int × Int)) (Q : List Int) (n : Nat) (hn : P.length = n) (hQ : Q.length = n) (hn1 : 1 ≤ n) (hn2 : n ≤ 20) (ME0 : meetR P = (0, 0, 9)) (hC : ∀ z, allB P z = false)
    (v : Value) (z0 : Int) (w : World) (GU : ∀ W, Below w.heap.size w W → Calls Try.prog 40 #[v] W fun e w' => ∃ g1 c1 v2, e = .returned (.tuple #[.slice (some ⟨g1, 0, none⟩) n c1, v2]) ∧ Below W.heap.size W w' ∧ w'.ownsRow W.heap.size 23 2 (.slice (some ⟨g1, 0, none⟩) n c1) P.length (flatS P) ∧ OwnS w' g1 c1 P ∧ w'.ownsRow W.heap.size 2 1 v2 n (Q.map (Value.int .i64)) ∧ n ≤ c1) :
    Calls Try.prog 9 #[v, .int .i64 z0] w (Ret w (.bool true)) := by
  have WK := Lib.hid (fun W => wakes_any W)
  replace GU := Lib.hid GU
  have ME := fun v W k => meetR_any P (by omega) v W k
  rw [ME0] at ME
  simp only at ME
  replace ME := Lib.hid ME
  have HA := Lib.hid (fun lo hi v W => has_any lo hi v W)
  have HN := Lib.hid hn
  have HQN := Lib.hid hQ
  have HC := Lib.hid hC
  clear ME0 hC hn hQ
  obtain ⟨j0, ji, jz0, jz1, jz2⟩ := info_parts infoI64
  obtain ⟨⟨x0, y0⟩, HS0⟩ : ∃ s, Hid (P[0]? = some s) := ⟨_, Lib.hid (List.getElem?_eq_getElem (by have := HN.out; omega))⟩
  go_enter Try.func9, Try.ntmps9
  go_wp2_with fail
  refine (WK.out _).mono ?_
  rintro e w1 ⟨rfl, hb1⟩
  have HB1 := Lib.hid hb1
  have W0S := Lib.hid hb1.size
  clear hb1
  go_wp2_with fail
  refine (GU.out _ HB1.out).mono ?_
  rintro e w2 ⟨g1, cc1, v2, rfl, hb2, ho0, ho1, ho2, hc1⟩
  have HB2 := Lib.hid (under HB1.out hb2)
  have W1S := Lib.hid hb2.size
  have O0 := Lib.hid ho0
  have O1 := Lib.hid ho1
  have HO2 := Lib.hid ho2
  have n0 : ((n : Int) == 0) = false := by rw [beq_eq_false_iff_ne]; omega
  have n1 : (0 : Int) < (n : Int) := by omega
  have n2 : 0 < n := by omega
  have RD := Lib.hid (show ReadsS w2 (.slice (some ⟨g1, 0, none⟩) n cc1) P from by have := O1.out.reads; rwa [HN.out] at this)
  clear hb2 ho0 ho1 ho2 HB1 GU WK
  go_wp2_with fail
  refine (ME.out _ _ RD.out).mono ?_
  rintro e w3 ⟨rfl, hb3⟩
  have HB3 := Lib.hid hb3
  obtain ⟨k0, k1, k2, k3, k4, _⟩ := (O1.out.below hb3) 0 _ HS0.out
  simp only [Nat.zero_mul, Nat.zero_add] at k1 k2 k3 k4
  have HO3 := Lib.hid (owns_below HO2.out hb3)
  have O3 := Lib.hid (owns_below O0.out hb3)
  have HAP := Lib.hid (owns_apart HO3.out O3.out (by decide))
  have hww : w.heap.size ≤ w1.heap.size := W0S.out
  have HB23 := Lib.hid (under HB2.out HB3.out)
  clear hb3 HO2 O0 RD
  go_wp2_with fail
  obtain ⟨N, hN⟩ : ∃ N, N = n + 3 := ⟨_, rfl⟩
  have hln : (Q ++ [z0, x0, y0]).length = N := by simp [HQN.out, hN]
  replace hN := Lib.hid hN
  replace hln := Lib.hid hln
  refine region_keeps (w0 := w) (L := [(w3.heap.size, 0, .int .i64 0), (w3.heap.size, 1, .int .i64 0), (g1, 0, .int .i64 x0), (g1, 1, .int .i64 y0)]) (by kernel_rfl) ⟨HB23.out.alloc HB23.out.size _, (show Cells [(w3.heap.size, 0, .int .i64 0), (w3.heap.size, 1, .int .i64 0), (g1, 0, .int .i64 x0), (g1, 1, .int .i64 y0)] _ from ⟨⟨by simp, by simp [go_sem], by simp [go_sem]⟩, ⟨by simp, by simp [go_sem], by simp [go_sem]⟩, ((show Keeps w3 [(g1, 0, .int .i64 x0), (g1, 1, .int .i64 y0)] w3 from ⟨Below.refl _ _, ⟨k0, k1, k3⟩, ⟨k0, k2, k4⟩, trivial⟩).alloc _).2⟩)⟩ (fun hHeld0 => ?_)
  refine wpAnyH_take (i := 0) (oi := ⟨some 33, _, _, _, _, _⟩) (v := ?_) rfl (by kernel_rfl) (by kernel_rfl) (by kernel_rfl) (fun _ _ _ h => h) (Or.inl ⟨by rfl, ?_⟩) (by assumption) ?_
  rotate_left
  · intro wq hSw; go_simp; (try with_reducible rfl)
  try simp only [Act.put, List.setIfInBounds_toArray, List.set_cons_zero, List.set_cons_succ]
  refine wpAnyH_take (i := 1) (oi := ⟨some 34, _, _, _, _, _⟩) (v := ?_) rfl (by kernel_rfl) (by kernel_rfl) (by kernel_rfl) (fun _ _ _ h => h) (Or.inl ⟨by rfl, ?_⟩) (by assumption) ?_
  rotate_left
  · intro wq hSw; go_simp; (try with_reducible rfl)
  try simp only [Act.put, List.setIfInBounds_toArray, List.set_cons_zero, List.set_cons_succ]
  refine wpAnyH_take (i := 2) (oi := ⟨some 35, _, _, _, _, _⟩) (v := ?_) rfl (by kernel_rfl) (by kernel_rfl) (by kernel_rfl) (fun _ _ _ h => h) (Or.inl ⟨by rfl, ?_⟩) (by assumption) ?_
  rotate_left
  · intro wq hSw; go_simp; (try with_reducible rfl)
  try simp only [Act.put, List.setIfInBounds_toArray, List.set_cons_zero, List.set_cons_succ]
  refine wpAnyH_take (i := 3) (oi := ⟨some 36, _, _, _, _, _⟩) (v := ?_) rfl (by kernel_rfl) (by kernel_rfl) (by kernel_rfl) (fun _ _ _ h => h) (Or.inl ⟨by rfl, ?_⟩) (by assumption) ?_
  rotate_left
  · intro wq hSw; go_simp; (try with_reducible rfl)
  try simp only [Act.put, List.setIfInBounds_toArray, List.set_cons_zero, List.set_cons_succ]
  refine wpAnyH_take (i := 4) (oi := ⟨some 37, _, _, _, _, _⟩) (v := ?_) rfl (by kernel_rfl) (by kernel_rfl) (by kernel_rfl) (fun _ _ _ h => h) (Or.inl ⟨by rfl, ?_⟩) (by assumption) ?_
  rotate_left
  · intro wq hSw; go_simp; (try with_reducible rfl)
  try simp only [Act.put, List.setIfInBounds_toArray, List.set_cons_zero, List.set_cons_succ]
  refine wpAnyH_take (i := 5) (oi := ⟨some 38, _, _, _, _, _⟩) (v := ?_) rfl (by kernel_rfl) (by kernel_rfl) (by kernel_rfl) (fun _ _ _ h => h) (Or.inl ⟨by rfl, ?_⟩) (by assumption) ?_
  rotate_left
  · intro wq hSw; obtain ⟨⟨qz0, qc0, qf0⟩, ⟨qz1, qc1, qf1⟩, ⟨qz2, qc2, qf2⟩, ⟨qz3, qc3, qf3⟩, _⟩ := hSw.2; go_simp; (try with_reducible rfl)
  try simp only [Act.put, List.setIfInBounds_toArray, List.set_cons_zero, List.set_cons_succ]
  refine wpAnyH_take (i := 6) (oi := ⟨some 39, _, _, _, _, _⟩) (v := ?_) rfl (by kernel_rfl) (by kernel_rfl) (by kernel_rfl) (fun _ _ _ h => h) (Or.inl ⟨by rfl, ?_⟩) (by assumption) ?_
  rotate_left
  · intro wq hSw; go_simp; (try with_reducible rfl)
  try simp only [Act.put, List.setIfInBounds_toArray, List.set_cons_zero, List.set_cons_succ]
  refine wpAnyH_take (i := 7) (oi := ⟨some 40, _, _, _, _, _⟩) (v := ?_) rfl (by kernel_rfl) (by kernel_rfl) (by kernel_rfl) (fun _ _ _ h => h) (Or.inl ⟨by rfl, ?_⟩) (by assumption) ?_
  rotate_left
  · intro wq hSw; go_simp; (try with_reducible rfl)
  try simp only [Act.put, List.setIfInBounds_toArray, List.set_cons_zero, List.set_cons_succ]
  refine wpAnyH_take (i := 8) (oi := ⟨some 41, _, _, _, _, _⟩) (v := ?_) rfl (by kernel_rfl) (by kernel_rfl) (by kernel_rfl) (fun _ _ _ h => h) (Or.inl ⟨by rfl, ?_⟩) (by assumption) ?_
  rotate_left
  · intro wq hSw; go_simp; (try with_reducible rfl)
  try simp only [Act.put, List.setIfInBounds_toArray, List.set_cons_zero, List.set_cons_succ]
  refine wpAnyH_take (i := 9) (oi := ⟨some 42, _, _, _, _, _⟩) (v := ?_) rfl (by kernel_rfl) (by kernel_rfl) (by kernel_rfl) (fun _ _ _ h => h) (Or.inl ⟨by rfl, ?_⟩) (by assumption) ?_
  rotate_left
  · intro wq hSw; obtain ⟨⟨qz0, qc0, qf0⟩, ⟨qz1, qc1, qf1⟩, ⟨qz2, qc2, qf2⟩, ⟨qz3, qc3, qf3⟩, _⟩ := hSw.2; go_simp; (try with_reducible rfl)
  try simp only [Act.put, List.setIfInBounds_toArray, List.set_cons_zero, List.set_cons_succ]
  refine wpAnyH_take (i := 13) (oi := ⟨some 46, _, _, _, _, _⟩) (v := ?_) rfl (by kernel_rfl) (by kernel_rfl) (by kernel_rfl) (fun _ _ _ h => h) (Or.inl ⟨by rfl, ?_⟩) (by assumption) ?_
  rotate_left
  · intro wq hSw; go_simp; (try with_reducible rfl)
  try simp only [Act.put, List.setIfInBounds_toArray, List.set_cons_zero, List.set_cons_succ]
  refine wpAnyH_ready (rs := [10]) (by kernel_rfl) (by simp) ?_
  refine AllReadyH.cons (o := ⟨some 43, _, _, _, _, _⟩) rfl (fun K hK => ?_) AllReadyH.nil
  go_simp
  refine hK.out _ _ (by first | exact hHeld0.alloc _ | exact (hHeld0.alloc _).drew) (fun hHeld1 => ?_)
  clear hK K
  try clear hb
  try simp only [Act.put, List.setIfInBounds_toArray, List.set_cons_zero, List.set_cons_succ]
  refine wpAnyH_ready (rs := [11]) (by kernel_rfl) (by simp) ?_
  refine AllReadyH.cons (o := ⟨some 44, _, _, _, _, _⟩) rfl (fun K hK => ?_) AllReadyH.nil
  (refine if_wanted rfl ?_; refine wp_append_own _ (.tmp 33) (.tmp 43) 63 rfl w1.heap.size 2 j0 (.int .i64 0) 1 8 Try.underlying63 ji jz0 jz1 jz2 rfl (by decide) _ _ _ rfl (owns_below HO3.out (by go_grown)) ⟨w3.heap.size + 1, 0, none⟩ 3 3 [.int .i64 z0, .int .i64 x0, .int .i64 y0] rfl rfl (new_cells3 (by simp)) (by intro u hu; simp at hu; rcases hu with rfl | rfl | rfl <;> rfl) (by unfold maxLen; omega) (by omega) (Nat.le_trans W1S.out (Nat.le_trans HB3.out.size (by simp <;> omega))) (fun v5 w5 hown5 hgrow5 _ => ?_); have O5 := Lib.hid (owns_other (owns_below O3.out (by go_grown)) (owns_below HO3.out (by go_grown)) (by decide) hgrow5); obtain ⟨g3, cc3, hv5, o3, _⟩ := ownI_of (l := Q ++ [z0, x0, y0]) (by rw [hln.out, hN.out, List.map_append]; exact hown5) (by simp); rw [hln.out] at hv5; subst hv5)
  refine hK.out _ _ (((hHeld1).grows (owns_below HO3.out (by go_grown)) hww (by intro q hq; simp at hq; rcases hq with rfl | rfl | rfl | rfl <;> first | exact owns_lt HO3.out _ (Nat.le_refl _) | exact HAP.out) hgrow5)) (fun hHeld2 => ?_)
  clear hK K
  try clear hb
  try simp only [Act.put, List.setIfInBounds_toArray, List.set_cons_zero, List.set_cons_succ]
  refine wpAnyH_take (i := 12) (oi := ⟨some 45, _, _, _, _, _⟩) (v := ?_) rfl (by kernel_rfl) (by kernel_rfl) (by kernel_rfl) (fun _ _ _ h => h) (Or.inl ⟨by rfl, ?_⟩) (by assumption) ?_
  rotate_left
  · intro wq hSw; go_simp; (try with_reducible rfl)
  try simp only [Act.put, List.setIfInBounds_toArray, List.set_cons_zero, List.set_cons_succ]
  refine wpAnyH_done (by kernel_rfl) ?_ _
  have hHeld := hHeld2
  obtain ⟨⟨kz0, kc0, kf0⟩, ⟨kz1, kc1, kf1⟩, ⟨kz2, kc2, kf2⟩, ⟨kz3, kc3, kf3⟩, _⟩ := hHeld.2
  have S5 := Lib.hid (ownS_own O5.out (by rw [HN.out]; omega))
  have I5 := Lib.hid o3
  have HL := hln
  have hNN : N ≤ 23 := by have := hN.out; omega
  have hM : Keeps w5 [(w3.heap.size, 0, .int .i64 0), (w3.heap.size, 1, .int .i64 0)] w5 := ⟨Below.refl _ _, hHeld.2.1, hHeld.2.2.1, trivial⟩
  have HB5 := Lib.hid hHeld.1
  clear hown5 hgrow5 O5 hln hN o3 hHeld hHeld0 hHeld1 hHeld2 O3 HO3 HB23 HB3 HB2 W0S W1S HAP hww k0 k1 k2 k3 k4
  generalize Q ++ [z0, x0, y0] = L at *
  go_wp2_with fail
  go_loopw [46] (fun i wr => ∃ k : Nat, i = .int .i64 k ∧ k ≤ N ∧ Keeps w5 [(w3.heap.size, 0, .int .i64 0), (w3.heap.size, 1, .int .i64 0)] wr) (fun i _ => N - (intOf i).toNat)
  case atStart => exact ⟨0, rfl, by omega, hM⟩
  case round =>
    obtain ⟨k, rfl, hkN, hHeld⟩ := hrel
    by_cases gk : k < N
    · obtain ⟨z, hz⟩ : ∃ z, L[k]? = some z := ⟨_, List.getElem?_eq_getElem (by have := HL.out; omega)⟩
      obtain ⟨q0, q1, q2, q3⟩ := (I5.out.below hHeld.1) k z hz
      have i1 : (k : Int) < (N : Int) := by omega
      have i0 : (0 : Int) ≤ (k : Int) := by omega
      have hkc : (k : Int) < (cc3 : Int) := by have := HL.out; omega
      clear hz
      go_wp2_with fail
      obtain ⟨wo, rfl⟩ : ∃ wo : World, wo = wr := ⟨_, rfl⟩
      go_loopw [11, 52] (fun b i wi => ∃ j : Nat, b = .bool (allB (P.take j) z) ∧ i = .int .i64 j ∧ j ≤ n ∧ Keeps w5 [(w3.heap.size, 0, .int .i64 0), (w3.heap.size, 1, .int .i64 0)] wi) (fun _ i _ => n - (intOf i).toNat)
      case atStart => exact ⟨0, rfl, rfl, by omega, hHeld⟩
      case round =>
        obtain ⟨j, rfl, rfl, hjn, hHeldI⟩ := hrel
        by_cases gj : j < n
        · obtain ⟨⟨x, y⟩, hs⟩ : ∃ s, P[j]? = some s := ⟨_, List.getElem?_eq_getElem (by have := HN.out; omega)⟩
          obtain ⟨s0, s1, s2, s3, s4, s5⟩ := (S5.out.below hHeldI.1) j _ hs
          simp only at s1 s2
          have j1 : (j : Int) < (n : Int) := by omega
          have j0' : (0 : Int) ≤ (j : Int) := by omega
          have EN := Lib.hid (allB_next hs z)
          simp only at EN
          have HS1 := Lib.hid (fun W => HA.out x y z W)
          clear hs
          generalize allB (P.take j) z = bp at *
          generalize (decide (x ≤ z) && decide (z ≤ y)) = bh at *
          cases bp
          · go_wp2_with fail
            go_roundw
            case rel => exact ⟨j + 1, by rw [EN.out]; rfl, by simp, by omega, hHeldI.alloc _⟩
            case measure => simp [intOf]; omega
          · go_wp2_with fail
            refine (HS1.out _).mono ?_
            rintro e w6 ⟨rfl, hb⟩
            replace hHeldI := (hHeldI.alloc (.cells #[.int .i64 x, .int .i64 y] 23)).next hb
            clear hb
            go_wp2_with fail
            go_roundw
            case rel => exact ⟨j + 1, by rw [EN.out]; rfl, by simp, by omega, hHeldI⟩
            case measure => simp [intOf]; omega
        · have j1 : ¬ (j : Int) < (n : Int) := by omega
          have ET : P.take j = P := List.take_of_length_le (by have := HN.out; omega)
          rw [ET]
          clear ET
          obtain ⟨⟨kz0, kc0, kf0⟩, ⟨kz1, kc1, kf1⟩, _⟩ := hHeldI.2
          rw [HC.out z]
          go_wp2_with fail
          go_roundw
          case rel => exact ⟨k + 1, by simp, by omega, hHeldI⟩
          case measure => simp [intOf]; omega
    · have i1 : ¬ (k : Int) < (N : Int) := by omega
      obtain ⟨⟨kz0, kc0, kf0⟩, ⟨kz1, kc1, kf1⟩, _⟩ := hHeld.2
      go_wp2_with fail
      go_ret
      exact ⟨rfl, below_then HB5.out hHeld.1⟩
theorem guesses_own (G : List (Int × Int × Int)) (hG : OkG G) (hl : G.length ≤ 9223372036854775807) (v : Value) (W : World) (h : ReadsG W v G) (hne : keptG G ≠ []) :
    Calls Try.prog 40 #[v] W fun e w' => ∃ g1 c1 v2, e = .returned (.tuple #[.slice (some ⟨g1, 0, none⟩) (spansG (keptG G)).length c1, v2]) ∧ Below W.heap.size W w' ∧ w'.ownsRow W.heap.size 23 2 (.slice (some ⟨g1, 0, none⟩) (spansG (keptG G)).length c1) (spansG (keptG G)).length (flatS (spansG (keptG G))) ∧ OwnS w' g1 c1 (spansG (keptG G)) ∧ w'.ownsRow W.heap.size 2 1 v2 (spansG (keptG G)).length ((numsG (keptG G)).map (Value.int .i64)) ∧ (spansG (keptG G)).length ≤ c1 := by
  refine (guesses_any G hG hl v W h).mono ?_
  rintro e w' ⟨v1, v2, rfl, hb, h1, h2⟩
  have n2 : (numsG (keptG G)).length = (spansG (keptG G)).length := by simp [numsG, spansG]
  have l0 : 0 < (keptG G).length := List.length_pos_iff.2 hne
  have l1 : 0 < (spansG (keptG G)).length := by unfold spansG; rwa [List.length_map]
  rw [n2] at h2
  have h1' := h1
  obtain ⟨g1, c1, rfl, o1, _⟩ := ownS_of h1 (List.ne_nil_of_length_pos l1)
  obtain ⟨_, _, _, _, _, k⟩ := o1 0 _ (List.getElem?_eq_getElem l1)
  exact ⟨g1, c1, v2, rfl, hb, h1', o1, h2, k⟩
theorem meets_any (G : List (Int × Int × Int)) (hG : OkG G) (hl : G.length ≤ 9223372036854775807) (v : Value) (w : World) (h : ReadsG w v G) (z : Int) : Calls Try.prog 9 #[v, .int .i64 z] w (Ret w (.bool true)) := by
  by_cases hne : keptG G = []
  · exact meets_none v _ w (fun W hW => by have := guesses_any G hG hl v W (h.below hW); rwa [hne] at this)
  · obtain ⟨s0, t0, e⟩ := kept_cons G hne
    have hR := right_kept G
    have L := keptG_length G
    have hn : (spansG (keptG G)).length ≤ 20 := by unfold spansG; rw [List.length_map]; exact L
    have hn1 : 1 ≤ (spansG (keptG G)).length := by rw [e]; simp
    obtain ⟨a0, a1, b0, b1, _, _, _, e4, hE⟩ := ends_of s0 t0
    rw [← e] at hE
    have hM : meetR (spansG (keptG G)) = if a1 < b0 then (0, 0, 9) else (b0, a1, 0) := by
      unfold meetR
      rw [badS_good hR, e, if_neg (by simp), if_neg (by simp), e4]
    have hC := allB_ends hE
    have GU := fun W hW => guesses_own G hG hl v W (ReadsG.below h hW) hne
    by_cases g : a1 < b0
    · rw [if_pos g] at hM
      refine meets_no _ _ _ rfl (pair_kept G).1 hn1 hn hM (fun z => ?_) v z w GU
      rw [hC z, Bool.and_eq_false_iff, decide_eq_false_iff_not, decide_eq_false_iff_not]
      omega
    · rw [if_neg g] at hM
      refine meets_yes _ _ _ rfl (pair_kept G).1 hn1 hn b0 a1 hM hC (fun s hs => ?_) v z w GU
      have h1 := hE.all s hs
      have h2 := hR s hs
      unfold withinB
      exact decide_eq_true ⟨by omega, h2, by omega, by omega⟩
end Go.Proofs.Ytmnndbafljngiaa
