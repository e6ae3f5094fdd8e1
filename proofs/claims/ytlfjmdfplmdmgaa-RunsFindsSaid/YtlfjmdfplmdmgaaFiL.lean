/-
  Layer 7: the law RunsFinds holds of every input. Conditions: those of the law's row.
-/
import Derived.Test.YtlfjmdfplmdmgaaRfS
import Derived.Test.YtlfjmdfplmdmgaaBackL
namespace Go.Proofs.Ytlfjmdfplmdmgaa
open Go.RowKit Go.Shelf

theorem below_none {l : List Int} {t : Int} (h : ∀ x ∈ l, ¬ x < t) : belowN l t = 0 := by
  unfold belowN
  rw [List.length_eq_zero_iff, List.filter_eq_nil_iff]
  intro x hx
  simpa using h x hx
theorem find_below : ∀ (l : List Int) (k : Nat) (t : Int), l.Pairwise (· < ·) → findF k l t = if l[belowN l t]? = some t then some (k + belowN l t) else none
  | [], k, t, _ => by simp [findF, belowN]
  | x :: l, k, t, hp => by
    obtain ⟨h1, h2⟩ := List.pairwise_cons.1 hp
    rcases Int.lt_trichotomy x t with g | g | g
    · have e : belowN (x :: l) t = belowN l t + 1 := by
        unfold belowN
        rw [List.filter_cons, if_pos (decide_eq_true g), List.length_cons]
      rw [findF, if_neg (by omega), if_neg (by omega), find_below l (k + 1) t h2, e, List.getElem?_cons_succ]
      split
      · congr 1; omega
      · rfl
    · subst g
      have e : belowN (x :: l) x = 0 := below_none (fun y hy => by
        rcases List.mem_cons.1 hy with rfl | hy
        · omega
        · have := h1 y hy; omega)
      rw [findF, if_pos rfl, e]
      simp
    · have e : belowN (x :: l) t = 0 := below_none (fun y hy => by
        rcases List.mem_cons.1 hy with rfl | hy
        · omega
        · have := h1 y hy; omega)
      rw [findF, if_neg (by omega), if_pos g, e, List.getElem?_cons_zero, if_neg (by intro h; injection h with h; omega)]
/-- What At answers of a place. -/
def AtF (T : List Int) (N : Nat) (i tv cv : Int) : Prop := (i < 0 ∧ tv = 0 ∧ cv = 4) ∨ (¬ i < 0 ∧ (N : Int) ≤ i ∧ tv = 0 ∧ cv = 4) ∨ (∃ q : Nat, i = (q : Int) ∧ q < N ∧ T[q]? = some tv ∧ cv = 0)
/-- What Find answers of a time. -/
def FindIs (T : List Int) (N b : Nat) (a fn : Int) (fb : Bool) : Prop := (fb = true ∧ fn = (b : Int) ∧ b < N ∧ T[b]? = some a) ∨ (fb = false ∧ fn = 0 ∧ ¬ b < N) ∨ (fb = false ∧ fn = 0 ∧ b < N ∧ ∃ z, T[b]? = some z ∧ ¬ z = a)

set_option maxRecDepth 100000 in
set_option maxHeartbeats 4000000 in
theorem finds_bad (m : List Rn) (i a b : Int) (v : Value) (w : World)
    (WK : Hid (Calls Try.prog 11 #[] w (Ret w (.bool true)))) (OW : Hid (∀ W, Below w.heap.size w W → Calls Try.prog 12 #[v] W (LaidR W m)))
    (AT : Hid (∀ v W, ReadsR W v m → Calls Try.prog 23 #[v, .int .i64 i] W (Ret W (.tuple #[.int .i64 0, .int .i64 170]))))
    (FI : Hid (∀ v W, ReadsR W v m → Calls Try.prog 24 #[v, .int .i64 a] W (Ret W (.tuple #[.int .i64 0, .bool false]))))
    (CL : Hid (∀ v W, ReadsR W v m → Calls Try.prog 25 #[v, .int .i64 a, .int .i64 b] W (Ret W (.tuple #[.int .i64 0, .int .i64 0]))))
    (RG : Hid (∀ v W, ReadsR W v m → Calls Try.prog 13 #[v] W (Ret W (.bool false)))) :
    Calls Try.prog 5 #[v, .int .i64 i, .int .i64 a, .int .i64 b] w (Ret w (.bool true)) := by
  go_enter Try.func5, Try.ntmps5
  go_wp2_with fail
  refine WK.out.mono ?_
  rintro e w1 ⟨rfl, hb1⟩
  go_wp2_with fail
  refine (OW.out _ hb1).mono ?_
  rintro e w2 ⟨v2, rfl, hb2, ho2⟩
  have H2 := Lib.hid (readsR_own ho2)
  have hB2 := under hb1 hb2
  clear ho2 hb1 hb2
  go_wp2_with fail
  refine (AT.out _ _ H2.out).mono ?_
  rintro e w3 ⟨rfl, hb3⟩
  have hB3 := under hB2 hb3
  have H3 := Lib.hid (H2.out.below hb3)
  clear hB2 H2 hb3
  go_wp2_with fail
  refine (FI.out _ _ H3.out).mono ?_
  rintro e w4 ⟨rfl, hb4⟩
  have hB4 := under hB3 hb4
  have H4 := Lib.hid (H3.out.below hb4)
  clear hB3 H3 hb4
  go_wp2_with fail
  refine (CL.out _ _ H4.out).mono ?_
  rintro e w5 ⟨rfl, hb5⟩
  have hB5 := under hB4 hb5
  have H5 := Lib.hid (H4.out.below hb5)
  clear hB4 H4 hb5
  go_wp2_with fail
  refine (RG.out _ _ H5.out).mono ?_
  rintro e w6 ⟨rfl, hb6⟩
  go_wp2_with fail
  go_ret
  exact ⟨rfl, under hB5 hb6⟩
set_option maxRecDepth 100000 in
set_option maxHeartbeats 4000000 in
theorem finds_good (m : List Rn) (T : List Int) (N : Nat) (hTN : T.length = N) (_ : 1 ≤ N) (_ : N ≤ 256) (i a b tv cv fn : Int) (fb : Bool) (nb nu : Nat) (hnb : nb ≤ N) (AF : Hid (AtF T N i tv cv)) (FF : Hid (FindIs T N nb a fn fb)) (v : Value) (w : World)
    (WK : Hid (Calls Try.prog 11 #[] w (Ret w (.bool true)))) (OW : Hid (∀ W, Below w.heap.size w W → Calls Try.prog 12 #[v] W (LaidR W m)))
    (AT : Hid (∀ v W, ReadsR W v m → Calls Try.prog 23 #[v, .int .i64 i] W (Ret W (.tuple #[.int .i64 tv, .int .i64 cv]))))
    (FI : Hid (∀ v W, ReadsR W v m → Calls Try.prog 24 #[v, .int .i64 a] W (Ret W (.tuple #[.int .i64 fn, .bool fb]))))
    (CL : Hid (∀ v W, ReadsR W v m → Calls Try.prog 25 #[v, .int .i64 a, .int .i64 b] W (Ret W (.tuple #[.int .i64 (nb : Int), .int .i64 (max (nb : Int) (nu : Int))]))))
    (RG : Hid (∀ v W, ReadsR W v m → Calls Try.prog 13 #[v] W (Ret W (.bool true))))
    (TD : Hid (∀ v W, ReadsR W v m → Calls Try.prog 17 #[v] W (LaidI W T)))
    (BL : Hid (∀ v W, Reads .i64 W v T → Calls Try.prog 26 #[v, .int .i64 a] W (Ret W (.int .i64 (nb : Int)))))
    (UP : Hid (∀ v W, Reads .i64 W v T → Calls Try.prog 27 #[v, .int .i64 b] W (Ret W (.int .i64 (nu : Int))))) :
    Calls Try.prog 5 #[v, .int .i64 i, .int .i64 a, .int .i64 b] w (Ret w (.bool true)) := by
  have t1 : ((nb : Int) != (nb : Int)) = false := by simp
  go_enter Try.func5, Try.ntmps5
  go_wp2_with fail
  refine WK.out.mono ?_
  rintro e w1 ⟨rfl, hb1⟩
  go_wp2_with fail
  refine (OW.out _ hb1).mono ?_
  rintro e w2 ⟨v2, rfl, hb2, ho2⟩
  have H2 := Lib.hid (readsR_own ho2)
  have hB2 := under hb1 hb2
  clear ho2 hb1 hb2
  go_wp2_with fail
  refine (AT.out _ _ H2.out).mono ?_
  rintro e w3 ⟨rfl, hb3⟩
  have hB3 := under hB2 hb3
  have H3 := Lib.hid (H2.out.below hb3)
  clear hB2 H2 hb3
  go_wp2_with fail
  refine (FI.out _ _ H3.out).mono ?_
  rintro e w4 ⟨rfl, hb4⟩
  have hB4 := under hB3 hb4
  have H4 := Lib.hid (H3.out.below hb4)
  clear hB3 H3 hb4
  go_wp2_with fail
  refine (CL.out _ _ H4.out).mono ?_
  rintro e w5 ⟨rfl, hb5⟩
  have hB5 := under hB4 hb5
  have H5 := Lib.hid (H4.out.below hb5)
  clear hB4 H4 hb5
  go_wp2_with fail
  refine (RG.out _ _ H5.out).mono ?_
  rintro e w6 ⟨rfl, hb6⟩
  have hB6 := under hB5 hb6
  have H6 := Lib.hid (H5.out.below hb6)
  clear hB5 H5 hb6
  go_wp2_with fail
  refine (TD.out _ _ H6.out).mono ?_
  rintro e w7 ⟨v7, rfl, hb7, ho7⟩
  have hr7 := reads_own (k := .i64) ho7
  obtain ⟨A7, c7, rfl, _, hk7⟩ := id hr7
  rw [hTN] at hr7 ⊢
  have hB7 := under hB6 hb7
  have H7 := Lib.hid hr7
  have K7 := Lib.hid hk7
  clear hB6 H6 hb7 ho7 hr7 hk7 WK OW AT FI CL RG TD
  rcases AF.out with ⟨d1, rfl, rfl⟩ | ⟨d1, d2, rfl, rfl⟩ | ⟨q, rfl, d1, d2, rfl⟩
  case' inr.inr =>
    obtain ⟨bb, off, hbe, hbw, hc1⟩ := K7.out q _ d2
    subst hbe
    have q1 : (q : Int) < (N : Int) := by omega
    have q0 : (0 : Int) ≤ (q : Int) := by omega
    have t2 : (tv != tv) = false := by simp
    clear d2
  all_goals
    clear AF
    go_wp2_with fail
    refine (BL.out _ _ H7.out).mono ?_
    rintro e w8 ⟨rfl, hb8⟩
    have hB8 := under hB7 hb8
    have H8 := Lib.hid (H7.out.below hb8)
    clear hB7
    rcases FF.out with ⟨rfl, rfl, g1, g2⟩ | ⟨rfl, rfl, g1⟩ | ⟨rfl, rfl, g1, z, g2, g3⟩
    · obtain ⟨b2, off2, hbe, hbw2, hc2⟩ := K7.out nb _ g2
      cases hbe
      have c2 := (hb8.cell (p := ⟨_, _, none⟩) hbw2).trans hc2
      have n1 : (nb : Int) < (N : Int) := by omega
      have n0 : (0 : Int) ≤ (nb : Int) := by omega
      have t3 : (a == a) = true := by simp
      clear g2 hc2 K7 FF
      go_wp2_with fail
      refine (UP.out _ _ H8.out).mono ?_
      rintro e w9 ⟨rfl, hb9⟩
      have t4 : (max (nb : Int) (nu : Int) == max (nb : Int) (nu : Int)) = true := by simp
      go_wp2_with fail
      go_ret
      exact ⟨rfl, under hB8 hb9⟩
    · have n1 : ¬ (nb : Int) < (N : Int) := by omega
      clear K7 FF
      go_wp2_with fail
      refine (UP.out _ _ H8.out).mono ?_
      rintro e w9 ⟨rfl, hb9⟩
      go_wp2_with fail
      go_ret
      exact ⟨rfl, under hB8 hb9⟩
    · obtain ⟨b2, off2, hbe, hbw2, hc2⟩ := K7.out nb _ g2
      cases hbe
      have c2 := (hb8.cell (p := ⟨_, _, none⟩) hbw2).trans hc2
      have n1 : (nb : Int) < (N : Int) := by omega
      have n0 : (0 : Int) ≤ (nb : Int) := by omega
      have t3 : (z == a) = false := beq_eq_false_iff_ne.2 g3
      clear g2 hc2 K7 FF
      go_wp2_with fail
      refine (UP.out _ _ H8.out).mono ?_
      rintro e w9 ⟨rfl, hb9⟩
      go_wp2_with fail
      go_ret
      exact ⟨rfl, under hB8 hb9⟩
theorem finds_any (l : List Rn) (hl : l.length ≤ 9223372036854775807) (i a b : Int) (v : Value) (w : World) (h : ReadsR w v l) : Calls Try.prog 5 #[v, .int .i64 i, .int .i64 a, .int .i64 b] w (Ret w (.bool true)) := by
  have WK := Lib.hid (wakes_any w)
  have OW := Lib.hid (fun W (hb : Below w.heap.size w W) => own_any l hl v W (h.below hb))
  have hml : (l.take 300).length ≤ 1000000 := by rw [List.length_take]; omega
  generalize l.take 300 = m at *
  have AT := Lib.hid (fun v W hr => atA_any m hml i v W hr)
  have FI := Lib.hid (fun v W hr => findA_any m hml a v W hr)
  have CL := Lib.hid (fun v W hr => clipA_any m hml a b v W hr)
  have RG := Lib.hid (fun v W hr => refRight_any m hml v W hr)
  cases gk : okB m
  · have e1 : valA m i = 0 := by unfold valA codeA; rw [gk]; rfl
    have e2 : codeA m i = 170 := by unfold codeA; rw [gk]; rfl
    have e3 : foundN m a = 0 := by unfold foundN; rw [gk]; rfl
    have e4 : foundB m a = false := by unfold foundB; rw [gk]; rfl
    have e5 : clipL m a = 0 := by unfold clipL; rw [gk]; rfl
    have e6 : clipH m a b = 0 := by unfold clipH; rw [gk]; rfl
    rw [e1, e2] at AT
    rw [e3, e4] at FI
    rw [e5, e6] at CL
    rw [gk] at RG
    exact finds_bad m i a b v w WK OW AT FI CL RG
  · obtain ⟨f1, f2, f3, f4⟩ := okB_facts gk
    have h1c : ∀ r ∈ m, 1 ≤ r.c := fun r hr => (f2 r hr).1
    have hnn := timesR_length (l := m) (fun r hr => by have := h1c r hr; omega)
    obtain ⟨g1, g2, g3⟩ := (areB_iff _).1 (times_are gk)
    have e5 : clipL m a = (belowN (timesR m) a : Int) := by unfold clipL; rw [gk]; rfl
    have e6 : clipH m a b = max (belowN (timesR m) a : Int) (uptoN (timesR m) b : Int) := by unfold clipH; rw [gk]; rfl
    rw [e5, e6] at CL
    rw [gk] at RG
    refine finds_good m (timesR m) (timesR m).length rfl g1 g2 i a b (valA m i) (codeA m i) (foundN m a) (foundB m a) (belowN (timesR m) a) (uptoN (timesR m) b) (belowN_le _ _) (Lib.hid ?_) (Lib.hid ?_) v w WK OW AT FI CL RG (Lib.hid fun v W hr => ?_) (Lib.hid fun v W hr => refBelow_any (timesR m) (by omega) a v W hr) (Lib.hid fun v W hr => refUpto_any (timesR m) (by omega) b v W hr)
    · unfold AtF
      by_cases c1 : i < 0
      · have e : codeA m i = 4 := by unfold codeA; rw [gk, if_pos rfl, if_neg (by omega)]
        exact .inl ⟨c1, by unfold valA; rw [e]; rfl, e⟩
      · by_cases c2 : ((timesR m).length : Int) ≤ i
        · have e : codeA m i = 4 := by unfold codeA; rw [gk, if_pos rfl, if_neg (by omega)]
          exact .inr (.inl ⟨c1, c2, by unfold valA; rw [e]; rfl, e⟩)
        · have e : codeA m i = 0 := by unfold codeA; rw [gk, if_pos rfl, if_pos (by omega)]
          have e2 : valA m i = timeAt m i := by unfold valA; rw [e]; rfl
          exact .inr (.inr ⟨i.toNat, by omega, by omega, by rw [e2]; exact times_get h1c (by omega) (by omega), e⟩)
    · unfold FindIs foundN foundB
      rw [gk, find_below _ 0 a g3.2]
      generalize belowN (timesR m) a = n
      by_cases c1 : n < (timesR m).length
      · obtain ⟨z, hz⟩ : ∃ z, (timesR m)[n]? = some z := ⟨_, List.getElem?_eq_getElem c1⟩
        by_cases c2 : z = a
        · subst c2
          rw [if_pos hz]
          exact .inl ⟨rfl, by simp, c1, hz⟩
        · rw [if_neg (by rw [hz]; intro h; injection h with h; exact c2 h)]
          exact .inr (.inr ⟨rfl, rfl, c1, z, hz, c2⟩)
      · rw [if_neg (by rw [List.getElem?_eq_none (by omega)]; intro h; cases h)]
        exact .inr (.inl ⟨rfl, rfl, c1⟩)
    · have := refTimes_any m hml v W hr; rwa [timesD_ok gk] at this
end Go.Proofs.Ytlfjmdfplmdmgaa
