/-
  Layer 7: the law RunsClipped holds of every input. Conditions: those of the law's row.
-/
import Derived.Test.YtlfjmdfplmdmgaaLwB
import Derived.Test.YtlfjmdfplmdmgaaRmC
namespace Go.Proofs.Ytlfjmdfplmdmgaa
open Go.RowKit Go.Shelf

theorem below_iff : ∀ {l : List Int} {k : Nat} {t a : Int}, l.Pairwise (· < ·) → l[k]? = some t → (t < a ↔ k < belowN l a)
  | [], k, t, a, _, h => by simp at h
  | x :: l, k, t, a, hp, h => by
    obtain ⟨h1, h2⟩ := List.pairwise_cons.1 hp
    by_cases g : x < a
    · have e : belowN (x :: l) a = belowN l a + 1 := by unfold belowN; rw [List.filter_cons, if_pos (by simpa using g)]; rfl
      cases k with
      | zero => simp at h; subst h; rw [e]; exact ⟨fun _ => Nat.succ_pos _, fun _ => g⟩
      | succ k => rw [e]; have := below_iff (a := a) h2 (by simpa using h); omega
    · have e : belowN (x :: l) a = 0 := by
        unfold belowN
        rw [List.length_eq_zero_iff, List.filter_eq_nil_iff]
        intro y hy
        rcases List.mem_cons.1 hy with rfl | hy
        · simpa using g
        · have := h1 y hy
          simp; omega
      rw [e]
      have hx : x ≤ t := by
        rcases List.mem_cons.1 (List.mem_of_getElem? h) with rfl | ht
        · exact Int.le_refl _
        · have := h1 t ht; omega
      omega
theorem upto_iff : ∀ {l : List Int} {k : Nat} {t b : Int}, l.Pairwise (· < ·) → l[k]? = some t → (t ≤ b ↔ k < uptoN l b)
  | [], k, t, a, _, h => by simp at h
  | x :: l, k, t, b, hp, h => by
    obtain ⟨h1, h2⟩ := List.pairwise_cons.1 hp
    by_cases g : x ≤ b
    · have e : uptoN (x :: l) b = uptoN l b + 1 := by unfold uptoN; rw [List.filter_cons, if_pos (by simpa using g)]; rfl
      cases k with
      | zero => simp at h; subst h; rw [e]; exact ⟨fun _ => Nat.succ_pos _, fun _ => g⟩
      | succ k => rw [e]; have := upto_iff (b := b) h2 (by simpa using h); omega
    · have e : uptoN (x :: l) b = 0 := by
        unfold uptoN
        rw [List.length_eq_zero_iff, List.filter_eq_nil_iff]
        intro y hy
        rcases List.mem_cons.1 hy with rfl | hy
        · simpa using g
        · have := h1 y hy
          simp; omega
      rw [e]
      have hx : x ≤ t := by
        rcases List.mem_cons.1 (List.mem_of_getElem? h) with rfl | ht
        · exact Int.le_refl _
        · have := h1 t ht; omega
      omega
theorem take_len {α : Type} {l : List α} {n : Nat} : (l.take n).length ≤ n := by rw [List.length_take]; omega
set_option maxRecDepth 100000 in
set_option maxHeartbeats 2000000 in
theorem clipped_any (l : List Rn) (hl : l.length ≤ 9223372036854775807) (a b : Int) (v : Value) (w : World) (h : ReadsR w v l) : Calls Try.prog 9 #[v, .int .i64 a, .int .i64 b] w (Ret w (.bool true)) := by
  have WK := Lib.hid (wakes_any w)
  have OW := Lib.hid (fun W (hb : Below w.heap.size w W) => own_any l hl v W (h.below hb))
  have hml : (l.take 300).length ≤ 1000000 := Nat.le_trans take_len (by decide)
  obtain ⟨A, c, rfl, _, _⟩ := h
  generalize l.take 300 = m at *
  have CL := Lib.hid (fun v W (hr : ReadsR W v m) => clipA_any m hml a b v W hr)
  have TI := Lib.hid (fun v W (hr : ReadsR W v m) => timesA_any m hml v W hr)
  cases gk : okB m
  · have HC := Lib.hid (And.intro (show clipL m a = 0 by simp [clipL, gk]) (show clipH m a b = 0 by simp [clipH, gk]))
    generalize clipL m a = x at *
    generalize clipH m a b = y at *
    obtain ⟨rfl, rfl⟩ := HC.out
    have TI2 : Hid (∀ v W, ReadsR W v m → Calls Try.prog 14 #[v] W (ErrR W 170)) := Lib.hid (fun v W hr => (TI.out v W hr).mono fun e w' hh => by unfold TimesRes at hh; rwa [gk] at hh)
    clear gk TI HC
    go_enter Try.func9, Try.ntmps9
    go_wp2_with fail
    refine WK.out.mono ?_
    rintro e w1 ⟨rfl, hb1⟩
    go_wp2_with fail
    refine (OW.out _ hb1).mono ?_
    rintro e w2 ⟨v2, rfl, hb2, ho2⟩
    have hr2 := readsR_own ho2
    have hb12 := under hb1 hb2
    obtain ⟨A2, c2, e2, _⟩ := id hr2
    subst e2
    have H2 := Lib.hid hr2
    clear hr2 ho2 hb1 hb2
    go_wp2_with fail
    refine (CL.out _ _ H2.out).mono ?_
    rintro e w3 ⟨rfl, hb3⟩
    have hb13 := under hb12 hb3
    have H3 := Lib.hid (H2.out.below hb3)
    go_wp2_with fail
    refine (TI2.out _ _ H3.out).mono ?_
    rintro e w4 ⟨rfl, hb4⟩
    go_wp2_with fail
    go_ret
    exact ⟨rfl, under hb13 hb4⟩
  · have hA := times_are gk
    obtain ⟨k1, k2, hU⟩ := (areB_iff _).1 hA
    have TI2 : Hid (∀ v W, ReadsR W v m → Calls Try.prog 14 #[v] W (GotI W (timesR m))) := Lib.hid (fun v W hr => (TI.out v W hr).mono fun e w' hh => by unfold TimesRes at hh; rwa [gk] at hh)
    have HC := Lib.hid (And.intro (show clipL m a = (belowN (timesR m) a : Int) by simp [clipL, gk]) (show clipH m a b = ((max (belowN (timesR m) a) (uptoN (timesR m) b) : Nat) : Int) by simp [clipH, gk]; omega))
    have HI : Hid (∀ k t, (timesR m)[k]? = some t → ((a ≤ t ∧ t ≤ b) ↔ (belowN (timesR m) a ≤ k ∧ k < max (belowN (timesR m) a) (uptoN (timesR m) b)))) := Lib.hid (fun k t hk => by
      have h1 := below_iff (a := a) hU.2 hk
      have h2 := upto_iff (b := b) hU.2 hk
      omega)
    have hn1 := belowN_le (timesR m) a
    have hn2 := uptoN_le (timesR m) b
    have hM : max (belowN (timesR m) a) (uptoN (timesR m) b) ≤ (timesR m).length := by omega
    have hnM : belowN (timesR m) a ≤ max (belowN (timesR m) a) (uptoN (timesR m) b) := by omega
    generalize clipL m a = x at *
    generalize clipH m a b = y at *
    obtain ⟨rfl, rfl⟩ := HC.out
    clear hn1 hn2 HC hA hU TI gk
    generalize max (belowN (timesR m) a) (uptoN (timesR m) b) = M at *
    generalize belowN (timesR m) a = n at *
    generalize timesR m = T at *
    have z1 : (0 : Int) ≤ (n : Int) := by omega
    have z2 : (n : Int) ≤ (M : Int) := by omega
    have z3 : (M : Int) ≤ (T.length : Int) := by omega
    go_enter Try.func9, Try.ntmps9
    go_wp2_with fail
    refine WK.out.mono ?_
    rintro e w1 ⟨rfl, hb1⟩
    go_wp2_with fail
    refine (OW.out _ hb1).mono ?_
    rintro e w2 ⟨v2, rfl, hb2, ho2⟩
    have hr2 := readsR_own ho2
    have hb12 := under hb1 hb2
    obtain ⟨A2, c2, e2, _⟩ := id hr2
    subst e2
    have H2 := Lib.hid hr2
    clear hr2 ho2 hb1 hb2
    go_wp2_with fail
    refine (CL.out _ _ H2.out).mono ?_
    rintro e w3 ⟨rfl, hb3⟩
    have hb13 := under hb12 hb3
    have H3 := Lib.hid (H2.out.below hb3)
    go_wp2_with fail
    refine (TI2.out _ _ H3.out).mono ?_
    rintro e w4 ⟨u, rfl, hb4, ho4⟩
    have hb14 := under hb13 hb4
    obtain ⟨A4, c4, rfl, hc4, hk4⟩ := reads_own ho4
    have HK := Lib.hid hk4
    clear ho4 hk4 hb13 hb3 hb4 hb12 WK OW CL TI2 H2 H3
    go_wp2_with fail
    go_loopw [53] (fun i wr => ∃ k : Nat, i = .int .i64 k ∧ k ≤ T.length ∧ Below w.heap.size w wr ∧ Below w4.heap.size w4 wr) (fun i _ => T.length - (intOf i).toNat)
    case atStart => exact ⟨0, rfl, by omega, hb14, Below.refl _ _⟩
    case round =>
      obtain ⟨k, rfl, hkl, hB, hB4⟩ := hrel
      by_cases gk : k < T.length
      · obtain ⟨t, hx⟩ : ∃ s, T[k]? = some s := ⟨_, List.getElem?_eq_getElem gk⟩
        obtain ⟨bb, off, rfl, hbw, hc1⟩ := HK.out k _ hx
        have c1 := (hB4.cell (p := ⟨bb, off + k, none⟩) hbw).trans hc1
        have i1 : (k : Int) < (T.length : Int) := by omega
        have i0 : (0 : Int) ≤ (k : Int) := by omega
        have hI := HI.out k t hx
        clear hc1 hx
        by_cases gi : a ≤ t ∧ t ≤ b
        · obtain ⟨q1, q2⟩ := hI.1 gi
          obtain ⟨q3, q4⟩ := gi
          have q5 : (n : Int) ≤ (k : Int) := by omega
          have q6 : (k : Int) < (M : Int) := by omega
          clear hI
          go_wp2_with fail
          go_roundw
          case rel => exact ⟨k + 1, by simp, gk, hB, hB4⟩
          case measure => exact index_less7 gk
        · have hno : ¬ (n ≤ k ∧ k < M) := fun hh => gi (hI.2 hh)
          clear hI
          have r1 : ¬ a ≤ t ∨ (a ≤ t ∧ ¬ t ≤ b) := by omega
          have r2 : ¬ (n : Int) ≤ (k : Int) ∨ ((n : Int) ≤ (k : Int) ∧ ¬ (k : Int) < (M : Int)) := by omega
          clear gi hno
          rcases r1 with r1 | ⟨r1, r3⟩ <;> rcases r2 with r2 | ⟨r2, r4⟩
          all_goals
            go_wp2_with fail
            go_roundw
            case rel => exact ⟨k + 1, by simp, gk, hB, hB4⟩
            case measure => exact index_less7 gk
      · have i1 : ¬ (k : Int) < (T.length : Int) := by omega
        go_wp2_with fail
        go_ret
        exact ⟨rfl, hB⟩
end Go.Proofs.Ytlfjmdfplmdmgaa
