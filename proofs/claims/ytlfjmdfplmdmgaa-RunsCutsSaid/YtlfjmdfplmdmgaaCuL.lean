/-
  Layer 7: the law RunsCuts holds of every input. Conditions: those of the law's row.
-/
import Derived.Test.YtlfjmdfplmdmgaaCuA
import Derived.Test.YtlfjmdfplmdmgaaCuB
import Derived.Test.YtlfjmdfplmdmgaaCuC
namespace Go.Proofs.Ytlfjmdfplmdmgaa
open Go.RowKit Go.Shelf

theorem timesD_256 (l : List Rn) : (timesD l).length ≤ 256 := by
  have key : ∀ (l : List Rn) (n : Int), smallAll n l = true → ((timesR l).length : Int) + n ≤ 256 ∨ l = [] := by
    intro l
    induction l with
    | nil => intro n _; exact .inr rfl
    | cons r l ih =>
      intro n h
      simp only [smallAll, Bool.and_eq_true] at h
      obtain ⟨h1, h2⟩ := h
      have h3 := of_decide_eq_true h1
      left
      rw [timesR, List.length_append, steps_length]
      rcases ih _ h2 with h4 | h4
      · omega
      · subst h4; simp [timesR]; omega
  unfold timesD
  split
  · next h =>
    rcases key l 0 h with h4 | h4
    · omega
    · subst h4; simp [timesR]
  · simp
theorem err_res {W : World} {c : Int} {L : List Rn} {e : Ending} {w' : World} (hc : ¬ c = 0) (h : ErrR W c e w') : Res W c L e w' := by unfold Res; rwa [if_neg hc]
theorem got_res {W : World} {L : List Rn} {e : Ending} {w' : World} (h : GotR W L e w') : Res W 0 L e w' := by unfold Res; rwa [if_pos rfl]
theorem cuts_any (l' m' : List Rn) (hl : l'.length ≤ 9223372036854775807) (hm : m'.length ≤ 9223372036854775807) (i j : Int) (vx vy : Value) (w : World) (hx : ReadsR w vx l') (hy : ReadsR w vy m') : Calls Try.prog 6 #[vx, vy, .int .i64 i, .int .i64 j] w (Ret w (.bool true)) := by
  have WK := Lib.hid (wakes_any w)
  have OX := Lib.hid (fun W (hb : Below w.heap.size w W) => own_any l' hl vx W (hx.below hb))
  have OY := Lib.hid (fun W (hb : Below w.heap.size w W) => own_any m' hm vy W (hy.below hb))
  have hml : (l'.take 300).length ≤ 1000000 := by rw [List.length_take]; omega
  have hmm : (m'.take 300).length ≤ 1000000 := by rw [List.length_take]; omega
  generalize l'.take 300 = l at *
  generalize m'.take 300 = m at *
  have RL := Lib.hid (fun v W hr => refRight_any l hml v W hr)
  have RM := Lib.hid (fun v W hr => refRight_any m hmm v W hr)
  cases gl : okB l with
  | false =>
    rw [gl] at RL
    refine cuts_bad l m i j (okB m) vx vy w WK OX OY (Lib.hid fun v W hr => (cutA_any l hml i j v W hr).mono fun e w' hh => ?_) (Lib.hid fun v W hr => (piecesA_any l hml i j v W hr).mono fun e w' hh => ?_) (Lib.hid fun v u W hr hr2 => (joinA_any l m hml hmm v u W hr hr2).mono fun e w' hh => ?_) RL RM
    · have e5 : codeP l i j = 170 := by unfold codeP; rw [gl]; rfl
      rw [e5] at hh; exact res_err hh (by decide)
    · have e5 : codeP l i j = 170 := by unfold codeP; rw [gl]; rfl
      rw [e5] at hh; exact res_err hh (by decide)
    · have e5 : codeJ l m = 170 := by unfold codeJ; rw [gl]; rfl
      rw [e5] at hh; exact res_err hh (by decide)
  | true =>
    obtain ⟨f1, f2, f3, f4⟩ := okB_facts gl
    have hl1 : ∀ r ∈ l, 1 ≤ r.c := fun r hr => (f2 r hr).1
    have nl := timesR_length (l := l) (fun r hr => by have := hl1 r hr; omega)
    have aT := times_are gl
    obtain ⟨a1, a2, a3⟩ := (areB_iff _).1 aT
    rw [gl] at RL
    have TL := Lib.hid (fun v W hr => refTimes_any l hml v W hr)
    rw [timesD_ok gl] at TL
    have TM := Lib.hid (fun v W hr => refTimes_any m hmm v W hr)
    have EQ : Hid (∀ X : List Rn, X.length ≤ 1000000 → ∀ v u W, ReadsR W v X → ReadsR W u X → Calls Try.prog 19 #[v, u] W (Ret W (.bool true))) := Lib.hid (fun X hX v u W h1 h2 => equalR X (by omega) v u W h1 h2)
    have JO := Lib.hid (fun v u W hr hr2 => joinA_any l m hml hmm v u W hr hr2)
    obtain ⟨U, hU⟩ : ∃ U, timesD m = U := ⟨_, rfl⟩
    rw [hU] at TM
    have hU1 : U.length ≤ 256 := by rw [← hU]; exact timesD_256 m
    have hlen : (timesR l ++ U).length ≤ 1000000 := by rw [List.length_append]; omega
    obtain ⟨B, hB⟩ : ∃ B : List Rn, B = if areB (timesR l ++ U) = true then laidR (timesR l ++ U) else [] := ⟨_, rfl⟩
    have hBl : B.length ≤ 1000000 := by
      rw [hB]
      split
      · next h => have := (okB_facts (laid_are h).1).2.2.2; omega
      · simp
    have RI := Lib.hid (fun v W hr => refRising_any (timesR l ++ U) hlen v W hr)
    have RB : Hid (areB (timesR l ++ U) = true → ∀ v W, Reads .i64 W v (timesR l ++ U) → Calls Try.prog 22 #[v] W (LaidR W B)) := Lib.hid (fun h v W hr => by
      have := refOf_any (timesR l ++ U) h v W hr
      rwa [hB, if_pos h])
    have key : ∃ cj : Int, ((cj = 170 ∧ okB m = false) ∨ (cj = 2 ∧ okB m = true ∧ areB (timesR l ++ U) = false ∧ 1 ≤ U.length) ∨ (cj = 0 ∧ okB m = true ∧ areB (timesR l ++ U) = true ∧ 1 ≤ U.length)) ∧ Hid (∀ v u W, ReadsR W v l → ReadsR W u m → Calls Try.prog 30 #[v, u] W (Res W cj B)) := by
      cases gm : okB m with
      | false =>
        refine ⟨170, .inl ⟨rfl, rfl⟩, Lib.hid fun v u W hr hr2 => (joinA_any l m hml hmm v u W hr hr2).mono fun e w' hh => ?_⟩
        have e5 : codeJ l m = 170 := by unfold codeJ; rw [gl, gm]; rfl
        rw [e5] at hh
        exact err_res (by decide) (res_err hh (by decide))
      | true =>
        have u1 : U = timesR m := by rw [← hU]; exact timesD_ok gm
        have u2 : 1 ≤ U.length := by rw [u1]; exact ((areB_iff _).1 (times_are gm)).1
        have ja := join_are gl gm
        rw [← u1] at ja
        by_cases c : codeJ l m = 0
        · have ja1 : areB (timesR l ++ U) = true := by rw [ja]; exact decide_eq_true c
          refine ⟨0, .inr (.inr ⟨rfl, rfl, ja1, u2⟩), Lib.hid fun v u W hr hr2 => (joinA_any l m hml hmm v u W hr hr2).mono fun e w' hh => ?_⟩
          rw [c, ← u1] at hh
          rw [hB, if_pos ja1]
          exact got_res (res_ok hh rfl)
        · have ja1 : areB (timesR l ++ U) = false := by rw [ja]; exact decide_eq_false c
          have e5 : codeJ l m = 2 := by
            unfold codeJ at c ⊢
            rw [gl, gm] at c ⊢
            simp only [Bool.and_self, if_true] at c ⊢
            by_cases g : (behindL l m && decide (totalR l + totalR m ≤ 256)) = true
            · rw [if_pos g] at c; exact absurd rfl c
            · rw [if_neg g]
          refine ⟨2, .inr (.inl ⟨rfl, rfl, ja1, u2⟩), Lib.hid fun v u W hr hr2 => (joinA_any l m hml hmm v u W hr hr2).mono fun e w' hh => ?_⟩
          rw [e5] at hh
          exact err_res (by decide) (res_err hh (by decide))
    obtain ⟨cj, hcj, JO⟩ := key
    by_cases hp : 0 ≤ i ∧ i < j ∧ j ≤ totalR l
    · obtain ⟨p1, p2, p3⟩ := hp
      have e5 : codeP l i j = 0 := by unfold codeP; rw [gl, if_pos rfl, if_pos ⟨p1, p2, p3⟩]
      obtain ⟨k1, k2, k3⟩ := pieces_facts f2 p1 p2 p3
      have hI : i.toNat < j.toNat := by omega
      have hJ : j.toNat ≤ (timesR l).length := by omega
      have am := areB_mid aT hI hJ
      have ek : (j - i).toNat = j.toNat - i.toNat := by omega
      rw [ek] at k1
      have hC := (okB_facts (laid_are am).1).2.2.2
      refine cuts_in l m (timesR l) U (timesR l).length U.length rfl a1 a2 rfl hU1 i j i.toNat j.toNat (by omega) (by omega) hI hJ (laidR (((timesR l).drop i.toNat).take (j.toNat - i.toNat))) (piecesR l i j) cj (okB m) (areB (timesR l ++ U)) vx vy w hcj B WK OX OY (join_cut hml e5 (by rw [k1])) (join_pieces hml e5 rfl) JO RL RM TL TM RI RB EQ hBl (by omega) (by omega) (Lib.hid fun v W hr => refOf_any _ am v W hr) (Lib.hid fun v W hr => ?_)
      rw [pieces_pcs l i j hl1 p1 p2 p3]
      exact refPieces_any l f2 f3 f4 i j p1 p2 p3 v W hr
    · have e5 : codeP l i j = 2 := by unfold codeP; rw [gl, if_pos rfl, if_neg hp]
      refine cuts_out l m (timesR l) U (timesR l).length U.length rfl a1 a2 rfl hU1 i j (by omega) cj (okB m) (areB (timesR l ++ U)) vx vy w hcj B WK OX OY (Lib.hid fun v W hr => (cutA_any l hml i j v W hr).mono fun e w' hh => ?_) (Lib.hid fun v W hr => (piecesA_any l hml i j v W hr).mono fun e w' hh => ?_) JO RL RM TL TM RI RB EQ hBl
      · rw [e5] at hh; exact res_err hh (by decide)
      · rw [e5] at hh; exact res_err hh (by decide)
end Go.Proofs.Ytlfjmdfplmdmgaa
