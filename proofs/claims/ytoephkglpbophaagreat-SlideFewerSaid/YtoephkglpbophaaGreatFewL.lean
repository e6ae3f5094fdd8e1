/-
  The law SlideFewer. Conditions: those written at each fact.
-/
import Derived.Test.YtoephkglpbophaaGreatSwQ
import Derived.Test.YtoephkglpbophaaGreatSwR
import Derived.Test.YtoephkglpbophaaGreatSlM
import Derived.Test.YtoephkglpbophaaGreatHA
import Derived.Test.YtoephkglpbophaaGreatBA
/-
  Layer 9: the law SwingFits's walk. Conditions: those written at each fact.
-/
namespace Go.Proofs.YtoephkglpbophaaGreat.P9
open Go.RowKit Go.Shelf Go.Proofs.YtoephkglpbophaaGreat.P8

theorem firX_v {b0 : Bd} {l : List Bd} : (firX (b0 :: l)).v = mid b0 := (tv_fold _ _).2
theorem fit_line {b0 : Bd} {l : List Bd} (hk : okD (b0 :: l) = true) : lineB (mid b0) 0 (flatN (firX (b0 :: l))) (flatE (firX (b0 :: l))) = true := by
  obtain ⟨hR, _⟩ := okD_times hk
  have hf := flat_ok (firX_ok (okD_ne hk) hR)
  exact line_ok (hR b0 (List.mem_cons_self ..)) hf.1 hf.2
/-- What is fitted to the first part goes through it. -/
theorem part_thr {b0 : Bd} {l : List Bd} (hk : okD (b0 :: l) = true) (hk2 : okD ((b0 :: l).take (firN (b0 :: l))) = true) :
    thrB (mid b0) 0 (flatN (firX (b0 :: l))) (flatE (firX (b0 :: l))) ((b0 :: l).take (firN (b0 :: l))) = true := by
  obtain ⟨hR, _⟩ := okD_times hk
  have h0 := open_ok (hR b0 (List.mem_cons_self ..))
  have hok := firX_ok (okD_ne hk) hR
  have hd := ((slopeB_iff _ _).1 (flat_ok hok).1).2.2.1
  have hin := flat_in (firX_open (okD_ne hk))
  have hfold := (in_fold _ h0 (fun b hb => hR b (List.mem_of_mem_take hb)) hd).1 hin
  have e1 := firN_cons b0 l
  rw [e1, List.take_succ_cons] at hk2 ⊢
  refine (thr_iff hk2 (fit_line hk)).2 fun b hb ht => ?_
  refine hfold.2 b ?_ ht
  show b ∈ (b0 :: l).take (firN (b0 :: l))
  rw [e1, List.take_succ_cons]
  exact hb
end Go.Proofs.YtoephkglpbophaaGreat.P9

/-
  Layer 9: parts of bands: none could be longer. Conditions: those written at each fact.
-/
namespace Go.Proofs.YtoephkglpbophaaGreat.P9
open Go.RowKit Go.Shelf Go.Proofs.YtoephkglpbophaaGreat.P8

/-- The line of the first part goes through it. -/
theorem line_thr {r : List Bd} (hk : okD r = true) : thrB (firX r).v 0 (flatN (firX r)) (flatE (firX r)) (r.take (firN r)) = true := by
  obtain ⟨b0, l, rfl⟩ := List.exists_cons_of_ne_nil (okD_ne hk)
  rw [firX_v]
  exact part_thr hk (okD_take hk (firN_le (okD_ne hk)).1)
end Go.Proofs.YtoephkglpbophaaGreat.P9

/-
  Layer 10: no more parts than of constants, or of lines through middles; parts of parts. Conditions: those written at each fact.
-/
namespace Go.Proofs.YtoephkglpbophaaGreat.P10
open Go.RowKit Go.Shelf Go.Proofs.YtoephkglpbophaaGreat.P8

theorem covJoin : ∀ {l1 l2 : List Bd} {a b : Nat}, Cov l1 a → Cov l2 b → Cov (l1 ++ l2) (a + b) := by
  intro l1 l2 a b h
  induction h with
  | nil => intro h2; simpa using h2
  | @cons l m p h1 h2 h3 h4 ih =>
    intro hb
    rw [show m + 1 + b = (m + b) + 1 by omega]
    refine .cons p h1 (by rw [List.length_append]; omega) ?_ ?_
    · rw [List.take_append_of_le_length h2]; exact h3
    · rw [List.drop_append_of_le_length h2]; exact ih hb
/-- Wherever they are parted, one more will do. -/
theorem covPart : ∀ {l : List Bd} {m : Nat}, Cov l m → ∀ k, k ≤ l.length → ∃ i j, Cov (l.take k) i ∧ Cov (l.drop k) j ∧ i + j ≤ m + 1 := by
  intro l m h
  induction h with
  | nil => intro k _; exact ⟨0, 0, by simpa using Cov.nil, by simpa using Cov.nil, by omega⟩
  | @cons l m p h1 h2 h3 h4 ih =>
    intro k hk
    by_cases g0 : k = 0
    · subst g0
      exact ⟨0, m + 1, by rw [List.take_zero]; exact .nil, by rw [List.drop_zero]; exact .cons p h1 h2 h3 h4, by omega⟩
    by_cases g : p ≤ k
    · obtain ⟨i, j, a1, a2, a3⟩ := ih (k - p) (by rw [List.length_drop]; omega)
      refine ⟨i + 1, j, ?_, ?_, by omega⟩
      · refine .cons p h1 (by rw [List.length_take]; omega) ?_ ?_
        · rw [List.take_take, Nat.min_eq_left g]; exact h3
        · rw [List.drop_take]; exact a1
      · rw [List.drop_drop, show p + (k - p) = k by omega] at a2; exact a2
    · refine ⟨1, m + 1, ?_, ?_, by omega⟩
      · refine .cons (m := 0) k (by omega) (by rw [List.length_take]; omega) ?_ ?_
        · rw [List.take_take, Nat.min_self]
          refine h3.sub (fun b hb => ?_)
          rw [show l.take k = (l.take p).take k by rw [List.take_take, Nat.min_eq_left (by omega)]] at hb
          exact List.mem_of_mem_take hb
        · rw [List.drop_of_length_le (by rw [List.length_take]; omega)]; exact .nil
      · refine .cons (p - k) (by omega) (by rw [List.length_drop]; omega) ?_ ?_
        · refine h3.sub (fun b hb => ?_)
          rw [show (l.drop k).take (p - k) = (l.take p).drop k by rw [List.drop_take]] at hb
          exact List.mem_of_mem_drop hb
        · rw [List.drop_drop, show k + (p - k) = p by omega]; exact h4
theorem const_goes {l : List Bd} {v : Int} (h : Thru l v) : Goes l := ⟨0, v, 0, 1, Int.le_refl _, fun b hb => by
  have := h b hb
  simp only [Int.mul_one, Int.zero_mul, Int.add_zero]
  exact this⟩
theorem cov_const {l : List Bd} {m : Nat} (h : P8.Cov l m) : Cov l m := by
  induction h with
  | nil => exact .nil
  | cons p v h1 h2 h3 h4 ih => exact .cons p h1 h2 (const_goes h3) ih
theorem swing_goes {l : List Bd} {v n d : Int} (h : P9.thrB v 0 n d l = true) : Goes l := by
  unfold P9.thrB at h
  rw [Bool.and_eq_true] at h
  obtain ⟨hk, hg⟩ := h
  have hb := List.all_eq_true.1 hg
  obtain ⟨x, q, e⟩ := List.exists_cons_of_ne_nil (okD_ne hk)
  have hx := hb x (by rw [e]; simp)
  unfold wnB at hx
  rw [Bool.and_eq_true, Bool.and_eq_true] at hx
  have hd := ((slopeB_iff _ _).1 ((lineB_iff _ _ _ _).1 hx.1.1).1).2.2.1
  refine ⟨P9.headT l, v * d, n, d, hd, fun b hb' => ?_⟩
  have h2 := hb b hb'
  unfold wnB exV at h2
  simp only [Bool.and_eq_true, decide_eq_true_eq] at h2
  omega
theorem cov_swing : ∀ (n : Nat) (l : List Bd), l.length ≤ n → (l ≠ [] → okD l = true) → Cov l (P9.partsS l).length
  | n, [], _, _ => by rw [P9.partsS_nil]; exact .nil
  | 0, _ :: _, h, _ => by simp at h
  | n + 1, b :: t, h, hk => by
    have hne : b :: t ≠ [] := by simp
    have hok := hk hne
    obtain ⟨h1, h2⟩ := P9.firN_le hne
    rw [P9.partsS_next hne, List.length_cons]
    refine .cons (P9.firN (b :: t)) h1 h2 (swing_goes (P9.line_thr hok)) ?_
    refine cov_swing n _ (by rw [List.length_drop]; rw [List.length_cons] at *; omega) (fun hne2 => okD_drop hok ?_)
    have := List.length_pos_iff.2 hne2
    rw [List.length_drop] at this
    omega
structure FewOk (m : List Bd) : Prop where
  const : (cutN m).length ≤ (P8.cutN m).length
  swing : (cutN m).length ≤ (P9.partsS m).length
  one : m.length = 1 → (cutN m).length = 1
  part : ∀ k, 1 ≤ k → k < m.length → (cutN m).length ≤ (cutN (m.take k)).length + (cutN (m.drop k)).length ∧ (cutN (m.take k)).length + (cutN (m.drop k)).length ≤ (cutN m).length + 1
theorem few_ok {m : List Bd} (hk : okD m = true) : FewOk m := by
  have hR := row_ok hk
  refine ⟨least_cut (cov_const (P8.cov_cut hR.1)) hR, least_cut (cov_swing m.length m (Nat.le_refl _) (fun _ => hk)) hR, fun h => ?_, fun k k1 k2 => ⟨?_, ?_⟩⟩
  · have h1 := cut_le _ m (Nat.le_refl _)
    have h2 : cutN m ≠ [] := by rw [cutN_next (okD_ne hk)]; simp
    have := List.length_pos_iff.2 h2
    omega
  · have := covJoin (cov_cut (hR.take k)) (cov_cut (hR.drop k))
    rw [List.take_append_drop] at this
    exact least_cut this hR
  · obtain ⟨i, j, a1, a2, a3⟩ := covPart (cov_cut hR) k (by omega)
    have b1 := least_cut a1 (hR.take k)
    have b2 := least_cut a2 (hR.drop k)
    omega
end Go.Proofs.YtoephkglpbophaaGreat.P10

namespace Go.Proofs.YtoephkglpbophaaGreat.P10
open Go.RowKit Go.Shelf Go.Proofs.YtoephkglpbophaaGreat.P8

theorem rowLen {w : World} {B : Nat} {e : TypeId} {s n k c : Nat} {A : Option Addr} {xs : List Value} (h : w.ownsRow B e s (.slice A n c) k xs) : n = k := by
  rcases h.2 with ⟨e1, e2⟩ | ⟨g, cap, cur, e1, _⟩
  · simp only [Value.slice.injEq] at e1; omega
  · simp only [Value.slice.injEq] at e1; omega
theorem few_at {y : Int} {j n : Nat} (h : n = j + 1) (h1 : 1 ≤ j) (h2 : n ≤ 256) : ∃ K : Nat, (1 ≤ K ∧ K < n) ∧ wrap64 (1 + max y 0 % (j : Int)) = (K : Int) ∧ IntKind.i64.wrap (1 + max y 0 % (j : Int)) = (K : Int) := by
  have a1 := Int.emod_nonneg (max y 0) (show (j : Int) ≠ 0 by omega)
  have a2 := Int.emod_lt_of_pos (max y 0) (show 0 < (j : Int) by omega)
  refine ⟨(1 + max y 0 % (j : Int)).toNat, by omega, ?_, ?_⟩
  · rw [i64_keeps (by omega) (by omega)]; omega
  · rw [IntKind.wrap_i64]; omega
set_option maxRecDepth 100000 in
set_option maxHeartbeats 8000000 in
theorem lawFewer_any (l : List Bd) (hl : l.length ≤ 9223372036854775807) (y : Int) (v : Value) (w : World) (h : ReadsD w v l) : Calls Tryz.prog 3 #[v, .int .i64 y] w (Ret w (.bool true)) := by
  have WK := Lib.hid wakes_any
  have FW := Lib.hid (fun W (hb : Below w.heap.size w W) => (show Calls Tryz.prog 5 #[v, .int .i64 256] W (LaidD W (l.take 256)) from few_any l hl 256 (by decide) v W (h.below hb)))
  obtain ⟨A, c, rfl, _, _⟩ := h
  have hml : (l.take 256).length ≤ 256 := by rw [List.length_take]; omega
  generalize l.take 256 = m at *
  go_enter Tryz.func3, Tryz.ntmps3
  go_wp2_with fail
  refine (WK.out _).mono ?_
  rintro en w1 ⟨rfl, hb1⟩
  go_wp2_with fail
  refine (FW.out w1 hb1).mono ?_
  rintro en w2 hh
  obtain ⟨hb2, A2, c2, rfl, hc2, hr2⟩ := hh.open
  have HB2 := Lib.hid (under hb1 hb2)
  have BC := Lib.hid (bcheck_any m (by omega) _ w2 hr2)
  clear hh hb1 hb2 WK FW
  cases gk : okD m
  · rw [gk] at BC
    simp only [Bool.false_eq_true, if_false] at BC
    clear gk hr2
    go_wp2_with fail
    refine BC.out.mono ?_
    rintro en w3 ⟨rfl, hb3⟩
    go_wp2_with fail
    go_ret
    exact ⟨rfl, under HB2.out hb3⟩
  rw [gk] at BC
  simp only [if_true] at BC
  have hne := okD_ne gk
  obtain ⟨bb, off, rfl⟩ := readsD_some hr2 hne
  have HK := Lib.hid gk
  have H2 := Lib.hid hr2
  have FO := Lib.hid (few_ok gk)
  have CS := Lib.hid (fun W (hb : Below w2.heap.size w2 W) => cut_any m (by omega) _ W (H2.out.below hb))
  have CP := Lib.hid (fun W (hb : Below w2.heap.size w2 W) => P8.cut_any m (by omega) _ W (H2.out.below hb))
  have CW := Lib.hid (fun W (hb : Below w2.heap.size w2 W) => P9.pubI_any m (by omega) _ W (H2.out.below hb))
  have e1 : codeS m = 0 ∧ rowS m = cutN m := by simp [codeS, rowS, gk]
  have e2 : P8.codeK m = 0 ∧ P8.cutR m = P8.cutD m := by simp [P8.codeK, P8.cutR, gk]
  have e3 : P9.codeS m = 0 ∧ P9.rowS m = P9.partsS m := by simp [P9.codeS, P9.rowS, gk]
  rw [e1.1, e1.2] at CS
  rw [e2.1, e2.2] at CP
  rw [e3.1, e3.2] at CW
  have q1 : ¬ ((P8.cutD m).length : Int) < ((cutN m).length : Int) := by
    have := (few_ok gk).const
    rw [P8.cutD_eq, List.length_map]
    omega
  have q2 : ¬ ((P9.partsS m).length : Int) < ((cutN m).length : Int) := by
    have := (few_ok gk).swing
    omega
  have qP : (cutN m).length ≤ 256 := Nat.le_trans (cut_le _ m (Nat.le_refl _)) hml
  clear gk hr2 e1 e2 e3
  go_wp2_with fail
  refine BC.out.mono ?_
  rintro en w3 ⟨rfl, hb3⟩
  have HB3 := Lib.hid hb3
  clear hb3 BC
  go_wp2_with fail
  refine (CS.out _ HB3.out).mono ?_
  rintro en w4 ⟨hb4, A4, n4, c4, rfl, ho4⟩
  obtain rfl := rowLen ho4
  have HB4 := Lib.hid (under HB3.out hb4)
  clear ho4 hb4 CS HB3
  go_wp2_with fail
  refine (CP.out _ HB4.out).mono ?_
  rintro en w5 ⟨hb5, A5, n5, c5, rfl, ho5⟩
  obtain rfl := rowLen ho5
  have HB5 := Lib.hid (under HB4.out hb5)
  clear ho5 hb5 CP HB4
  go_wp2_with fail
  refine (CW.out _ HB5.out).mono ?_
  rintro en w6 ⟨hb6, A6, n6, c6, rfl, ho6⟩
  obtain rfl := rowLen ho6
  have HB6 := Lib.hid (under HB5.out hb6)
  clear ho6 hb6 CW HB5
  by_cases g1 : m.length = 1
  · have i5 : ((m.length : Int) == 1) = true := beq_iff_eq.2 (by omega)
    have i6 : (((cutN m).length : Int) == 1) = true := beq_iff_eq.2 (by rw [FO.out.one g1]; rfl)
    have i7 := FO.out.one g1
    generalize (cutN m).length = P at *
    clear FO
    go_wp2_with fail
    go_ret
    exact ⟨by simp, under HB2.out HB6.out⟩
  have i5 : ((m.length : Int) == 1) = false := beq_eq_false_iff_ne.2 (by omega)
  obtain ⟨j, hj⟩ : ∃ j, m.length = j + 1 := ⟨m.length - 1, by have := List.length_pos_iff.2 hne; omega⟩
  obtain ⟨K, ⟨k1, k2⟩, e4, e5⟩ := few_at (y := y) hj (by omega) hml
  have j1 : wrap64 ((m.length : Int) - 1) = (j : Int) := (i64_keeps (by omega) (by omega)).trans (by omega)
  have j2 : IntKind.i64.wrap ((m.length : Int) - 1) = (j : Int) := by rw [IntKind.wrap_i64]; omega
  have j3 : ¬ (j : Int) = 0 := by omega
  have n1 : (0 : Int) ≤ (K : Int) := by omega
  have n2 : (K : Int) ≤ (m.length : Int) := by omega
  have n3 : (K : Int) ≤ (c2 : Int) := by omega
  obtain ⟨p1, p2⟩ := FO.out.part K k1 k2
  have l1 : (cutN (m.take K)).length ≤ 256 := by have := cut_le _ (m.take K) (Nat.le_refl _); rw [List.length_take] at this; omega
  have l2 : (cutN (m.drop K)).length ≤ 256 := by have := cut_le _ (m.drop K) (Nat.le_refl _); rw [List.length_drop] at this; omega
  have hk1 := okD_take HK.out k1
  have hk2 := okD_drop HK.out k2
  have CA := Lib.hid (fun W (hb : Below w2.heap.size w2 W) => cut_any (m.take K) (by rw [List.length_take]; omega) _ W ((H2.out.below hb).front K (by omega)))
  have CB := Lib.hid (fun W (hb : Below w2.heap.size w2 W) => cut_any (m.drop K) (by rw [List.length_drop]; omega) _ W ((H2.out.below hb).back K (by omega)))
  have e1 : codeS (m.take K) = 0 ∧ rowS (m.take K) = cutN (m.take K) := by simp [codeS, rowS, hk1]
  have e2 : codeS (m.drop K) = 0 ∧ rowS (m.drop K) = cutN (m.drop K) := by simp [codeS, rowS, hk2]
  rw [e1.1, e1.2] at CA
  rw [e2.1, e2.2] at CB
  have HP := Lib.hid (And.intro p1 (And.intro p2 (And.intro l1 (And.intro l2 qP))))
  have HCY := Lib.hid (show ¬ c2 = K ∧ ¬ K = c2 from ⟨by omega, by omega⟩)
  clear e1 e2 hk1 hk2 hj HK H2 FO k1 p1 p2 l1 l2 k2 qP e5 j2 hml i5
  go_wp2_with fail
  refine (CA.out _ HB6.out).mono ?_
  rintro en w7 ⟨hb7, A7, n7, c7, rfl, ho7⟩
  obtain rfl := rowLen ho7
  have HB7 := Lib.hid (under HB6.out hb7)
  clear ho7 hb7 CA HB6
  obtain ⟨hcy, hcz⟩ := HCY.out
  clear HCY
  go_wp2_with fail
  refine (CB.out _ HB7.out).mono ?_
  rintro en w8 ⟨hb8, A8, n8, c8, rfl, ho8⟩
  obtain rfl := rowLen ho8
  have HBW := Lib.hid (under HB2.out (under HB7.out hb8))
  clear ho8 hb8 CB HB7
  obtain ⟨p1, p2, l1, l2, qP⟩ := HP.out
  clear HP hcy hcz e4 j1 j3 n1 n2 n3 g1
  generalize (cutN (m.take K)).length = Pa at *
  generalize (cutN (m.drop K)).length = Pb at *
  generalize (cutN m).length = P at *
  have r5 : (P : Int) ≤ (Pa : Int) + (Pb : Int) := by omega
  have r6 : (Pa : Int) + (Pb : Int) ≤ (P : Int) + 1 := by omega
  clear p1 p2
  go_wp2_with fail
  go_ret
  exact ⟨by simp, HBW.out⟩
end Go.Proofs.YtoephkglpbophaaGreat.P10
