/-
  The law SwingParts. Conditions: those written at each fact.
-/
import Derived.Test.YtjioljgojfcckaaGreatSwQ
import Derived.Test.YtjioljgojfcckaaGreatSwR
import Derived.Test.YtjioljgojfcckaaGreatSwZ
import Derived.Test.YtjioljgojfcckaaGreatLdC
import Derived.Test.YtjioljgojfcckaaGreatDcA
/-
  Layer 9: the law SwingFits's walk. Conditions: those written at each fact.
-/
namespace Go.Proofs.YtjioljgojfcckaaGreat.P9
open Go.RowKit Go.Shelf Go.Proofs.YtjioljgojfcckaaGreat.P8

theorem firX_v {b0 : Bd} {l : List Bd} : (firX (b0 :: l)).v = mid b0 := (tv_fold _ _).2
end Go.Proofs.YtjioljgojfcckaaGreat.P9

/-
  Layer 9: parts of bands: none could be longer. Conditions: those written at each fact.
-/
namespace Go.Proofs.YtjioljgojfcckaaGreat.P9
open Go.RowKit Go.Shelf Go.Proofs.YtjioljgojfcckaaGreat.P8

theorem flatX_at : ∀ (l : List (List Bd × Dr)) (i : Nat) (p : List Bd × Dr), l[i]? = some p → (flatX l)[i * 4]? = some (.int .i64 p.2.v) ∧ (flatX l)[i * 4 + 1]? = some (.int .i64 0) ∧ (flatX l)[i * 4 + 2]? = some (.int .i64 (flatN p.2)) ∧ (flatX l)[i * 4 + 3]? = some (.int .i64 (flatE p.2))
  | [], i, p, h => by simp at h
  | q :: l, 0, p, h => by simp at h; subst h; simp [flatX]
  | q :: l, i + 1, p, h => by
    obtain ⟨h0, h1, h2, h3⟩ := flatX_at l i p (by simpa using h)
    rw [show (i + 1) * 4 = i * 4 + 1 + 1 + 1 + 1 by omega, show i * 4 + 1 + 1 + 1 + 1 + 1 = i * 4 + 1 + 1 + 1 + 1 + 1 by rfl]
    refine ⟨?_, ?_, ?_, ?_⟩
    · simpa [flatX] using h0
    · simpa [flatX] using h1
    · simpa [flatX] using h2
    · simpa [flatX] using h3
end Go.Proofs.YtjioljgojfcckaaGreat.P9

/-
  The document's own answers for layer 9: Through. Conditions: those written at each fact.
-/
namespace Go.Proofs.YtjioljgojfcckaaGreat.P9
open Go.RowKit Go.Shelf Go.Proofs.YtjioljgojfcckaaGreat.P8

end Go.Proofs.YtjioljgojfcckaaGreat.P9

/-
  The document's own answers for layer 9: First; rows of lines that are the same. Conditions: those written at each fact.
-/
namespace Go.Proofs.YtjioljgojfcckaaGreat.P9
open Go.RowKit Go.Shelf Go.Proofs.YtjioljgojfcckaaGreat.P8

/-- A row of the call's own stands while one of other cells grows. -/
theorem rows_apart {w w' : World} {B B' : Nat} {e e' : TypeId} {s s' n n' : Nat} {v v' : Value} {xs xs' : List Value} (h : w.ownsRow B e s v n xs) (k : w.ownsRow B' e' s' v' n' xs') (he : e ≠ e') (hg : w.grownBy w' v'.ownBlock) : w'.ownsRow B e s v n xs := by
  obtain ⟨h1, h2⟩ := h
  refine ⟨h1, ?_⟩
  rcases h2 with h2 | ⟨g, cap, cur, y1, y2, y3, y4⟩
  · exact .inl h2
  · refine .inr ⟨g, cap, cur, y1, y2, (hg.block g (Array.getElem?_eq_some_iff.1 y3).1 (fun hx => ?_)).trans y3, y4⟩
    obtain ⟨_, k2⟩ := k
    rcases k2 with ⟨rfl, _⟩ | ⟨g', cap', cur', z1, _, z3, _⟩
    · cases hx
    · rw [z1] at hx
      injection hx with hx
      change g = g' at hx
      subst hx
      rw [y3] at z3
      injection z3 with z3
      injection z3 with _ z3 _
      exact he z3
theorem row_is {w : World} {B : Nat} {e : TypeId} {s n : Nat} {v : Value} {xs : List Value} (h : w.ownsRow B e s v n xs) : ∃ A c, v = .slice A n c := by
  rcases h.2 with ⟨e1, e2⟩ | ⟨g, cap, cur, e1, _⟩
  · subst e2; exact ⟨_, _, e1⟩
  · exact ⟨_, _, e1⟩
set_option maxRecDepth 100000 in
set_option maxHeartbeats 2000000 in
theorem refFirst_any (b0 : Bd) (t : List Bd) (hk : okD (b0 :: t) = true) (v : Value) (w : World) (h : ReadsD w v (b0 :: t)) : Calls Tryz.prog 16 #[v] w (Ret w (.int .i64 (firN (b0 :: t)))) := by
  have hl := (okD_facts hk).2.1
  have hr := h
  obtain ⟨A, c, rfl, hc, _⟩ := h
  have SW := Lib.hid (fun (n : Nat) (h1 : 1 ≤ n) (h2 : n ≤ (b0 :: t).length) W (hb : Below w.heap.size w W) => (show Calls Tryz.prog 12 #[.slice A n c] W (Ret W (.bool (!shutD (fD (open0 b0) ((b0 :: t).take n))))) from by
    obtain ⟨n', rfl⟩ : ∃ n', n = n' + 1 := ⟨n - 1, by omega⟩
    obtain ⟨hR, hT⟩ := okD_times (okD_take hk h1)
    have := refSwing_any b0 (t.take n') (by rw [List.length_cons, List.length_take]; rw [List.length_cons] at hl; omega) hR hT (.slice A (n' + 1) c) W ((hr.below hb).front (n' + 1) h2)
    exact this))
  obtain ⟨N, hN⟩ : ∃ N, N = firN (b0 :: t) := ⟨_, rfl⟩
  have HN := Lib.hid hN
  rw [← hN]
  have A1 : Hid (∀ i, i < 1 → shutD (fD (open0 b0) ((b0 :: t).take (i + 1))) = false) := Lib.hid (fun i hi => by
    have e : i = 0 := by omega
    subst e
    show shutD (stepD (open0 b0) b0) = false
    rw [step_own]; exact open_unshut b0)
  have h1 : 1 ≤ (b0 :: t).length := by simp
  generalize hm : b0 :: t = m at *
  have HM := Lib.hid hm
  clear hr hN hk hm
  go_enter Tryz.func16, Tryz.ntmps16
  go_wp2_with fail
  go_loopw [3] (fun i wr => ∃ k : Nat, i = .int .i64 k ∧ 1 ≤ k ∧ k ≤ m.length ∧ Hid (∀ i, i < k → shutD (fD (open0 b0) (m.take (i + 1))) = false) ∧ Below w.heap.size w wr) (fun i _ => m.length - (intOf i).toNat)
  case atStart => exact ⟨1, rfl, Nat.le_refl _, h1, A1, Below.refl _ _⟩
  case round =>
    obtain ⟨k, rfl, k1, k2, hA, hB⟩ := hrel
    clear A1
    by_cases gk : k < m.length
    · have SWk := Lib.hid (SW.out (k + 1) (by omega) gk wr hB)
      have i1 : (k : Int) < (m.length : Int) := by omega
      have i2 : (0 : Int) ≤ (k : Int) + 1 := by omega
      have i3 : (k : Int) + 1 ≤ (c : Int) := by omega
      have i4 : (k : Int) + 1 ≤ (m.length : Int) := by omega
      cases gs : shutD (fD (open0 b0) (m.take (k + 1)))
      · rw [gs] at SWk
        have hA2 : Hid (∀ i, i < k + 1 → shutD (fD (open0 b0) (m.take (i + 1))) = false) := Lib.hid (fun i hi => by
          by_cases g : i = k
          · subst g; exact gs
          · exact hA.out i (by omega))
        clear gs hA
        go_wp2_with fail
        refine SWk.out.mono ?_
        rintro en w1 ⟨rfl, hb1⟩
        have hB1 := Lib.hid (under hB hb1)
        go_wp2_with fail
        go_roundw
        case rel => exact ⟨k + 1, by simp, by omega, gk, hA2, hB1.out⟩
        case measure => exact index_less gk
      · rw [gs] at SWk
        have E : Hid (N = k) := Lib.hid (by
          rw [HN.out]
          have := goS_eq m (open0 b0) k k2 hA.out (.inr gs)
          rw [← HM.out] at this ⊢
          exact this)
        clear gs hA
        go_wp2_with fail
        refine SWk.out.mono ?_
        rintro en w1 ⟨rfl, hb1⟩
        have hB1 := Lib.hid (under hB hb1)
        go_wp2_with fail
        go_ret
        exact ⟨by rw [E.out]; rfl, hB1.out⟩
    · have i1 : ¬ (k : Int) < (m.length : Int) := by omega
      have E : Hid (N = k) := Lib.hid (by
        rw [HN.out]
        have := goS_eq m (open0 b0) k k2 hA.out (.inl (by omega))
        rw [← HM.out] at this ⊢
        exact this)
      clear hA
      go_wp2_with fail
      go_ret
      exact ⟨by rw [E.out]; rfl, hB⟩
theorem refPart_any (r : List Bd) (hk : okD r = true) (v : Value) (w : World) (h : ReadsD w v (r.take (firN r))) : Calls Tryz.prog 13 #[v] w (Ret w (lnV (firX r).v 0 (flatN (firX r)) (flatE (firX r)))) := by
  have hl := (okD_facts hk).2.1
  obtain ⟨b0, t, rfl⟩ := List.exists_cons_of_ne_nil (okD_ne hk)
  obtain ⟨n', hn⟩ : ∃ n', firN (b0 :: t) = n' + 1 := ⟨firN (b0 :: t) - 1, by have := (firN_le (l := b0 :: t) (by simp)).1; omega⟩
  have hk2 := okD_take hk (k := firN (b0 :: t)) (firN_le (by simp)).1
  have ex : firX (b0 :: t) = allD ((b0 :: t).take (firN (b0 :: t))) := by rw [hn]; show fD (open0 b0) ((b0 :: t).take (firN (b0 :: t))) = _; rw [hn]; rfl
  rw [firX_v, ex]
  rw [hn] at h hk2 ⊢
  obtain ⟨hR, hT⟩ := okD_times hk2
  exact refFit_any b0 (t.take n') (by rw [List.length_cons, List.length_take]; rw [List.length_cons] at hl; omega) hR hT v w h
/-- A row of what is told of parts. -/
def ReadsX (w : World) (v : Value) (l : List (List Bd × Dr)) : Prop :=
  ∃ A c, v = .slice A l.length c ∧ ∀ i p, l[i]? = some p → ∃ b off, A = some ⟨b, off, none⟩ ∧ b < w.heap.size ∧
    w.cell? ⟨b, off + i * 4, none⟩ = some (.int .i64 p.2.v) ∧ w.cell? ⟨b, off + i * 4 + 1, none⟩ = some (.int .i64 0) ∧ w.cell? ⟨b, off + i * 4 + 2, none⟩ = some (.int .i64 (flatN p.2)) ∧ w.cell? ⟨b, off + i * 4 + 3, none⟩ = some (.int .i64 (flatE p.2))
theorem rowX_reads {w : World} {B : Nat} {l : List (List Bd × Dr)} {v : Value} (h : RowX B l v w) : ReadsX w v l := by
  unfold RowX at h
  obtain ⟨A, c, rfl⟩ := row_is h
  refine ⟨A, c, rfl, fun i p hp => ?_⟩
  rcases h.2 with ⟨_, e2⟩ | ⟨g, cap, cur, e1, _, hg, _⟩
  · have := List.eq_nil_of_length_eq_zero e2
    subst this
    simp at hp
  · simp only [Value.slice.injEq] at e1
    obtain ⟨rfl, _, rfl⟩ := e1
    have hi := (List.getElem?_eq_some_iff.1 hp).1
    obtain ⟨f0, f1, f2, f3⟩ := flatX_at l i p hp
    refine ⟨g, 0, rfl, (Array.getElem?_eq_some_iff.1 hg).1, ?_, ?_, ?_, ?_⟩
    · rw [Nat.zero_add]; exact (World.ownsRow.cellAt h _ (by omega)).trans f0
    · rw [Nat.zero_add]; exact (World.ownsRow.cellAt h _ (by omega)).trans f1
    · rw [Nat.zero_add]; exact (World.ownsRow.cellAt h _ (by omega)).trans f2
    · rw [Nat.zero_add]; exact (World.ownsRow.cellAt h _ (by omega)).trans f3
theorem ReadsX.below {w w' : World} {v : Value} {l : List (List Bd × Dr)} (h : ReadsX w v l) (hb : Below w.heap.size w w') : ReadsX w' v l := by
  obtain ⟨A, c, e, hk⟩ := h
  refine ⟨A, c, e, fun i p hp => ?_⟩
  obtain ⟨b, off, e1, e2, d1, d2, d3, d4⟩ := hk i p hp
  exact ⟨b, off, e1, Nat.lt_of_lt_of_le e2 hb.size, (hb.cell (p := ⟨b, off + i * 4, none⟩) e2).trans d1, (hb.cell (p := ⟨b, off + i * 4 + 1, none⟩) e2).trans d2, (hb.cell (p := ⟨b, off + i * 4 + 2, none⟩) e2).trans d3, (hb.cell (p := ⟨b, off + i * 4 + 3, none⟩) e2).trans d4⟩
set_option maxRecDepth 100000 in
set_option maxHeartbeats 2000000 in
theorem equalX (l : List (List Bd × Dr)) (hl : l.length ≤ 10000000) (v v2 : Value) (w : World) (h : ReadsX w v l) (h2 : ReadsX w v2 l) : Calls Tryz.prog 18 #[v, v2] w (Ret w (.bool true)) := by
  obtain ⟨A, c, rfl, hk⟩ := h
  obtain ⟨A2, c2, rfl, hk2⟩ := h2
  have HK := Lib.hid hk
  have HK2 := Lib.hid hk2
  clear hk hk2
  have t' : ((l.length : Int) != (l.length : Int)) = false := by simp
  go_enter Tryz.func18, Tryz.ntmps18
  go_wp2_with fail
  go_loopw [13] (fun i wr => ∃ k : Nat, i = .int .i64 k ∧ k ≤ l.length ∧ Below w.heap.size w wr) (fun i _ => l.length - (intOf i).toNat)
  case atStart => exact ⟨0, rfl, by omega, Below.refl _ _⟩
  case round =>
    obtain ⟨k, rfl, hkl, hB⟩ := hrel
    by_cases gk : k < l.length
    · obtain ⟨p, hx⟩ : ∃ s, l[k]? = some s := ⟨_, List.getElem?_eq_getElem gk⟩
      obtain ⟨b, off, rfl, hbw, d1, d2, d5, d7⟩ := HK.out k _ hx
      obtain ⟨b2, off2, rfl, hbw2, d3, d4, d6, d8⟩ := HK2.out k _ hx
      have c1 := (hB.cell (p := ⟨b, off + k * 4, none⟩) hbw).trans d1
      have c2 := (hB.cell (p := ⟨b, off + k * 4 + 1, none⟩) hbw).trans d2
      have c5 := (hB.cell (p := ⟨b, off + k * 4 + 2, none⟩) hbw).trans d5
      have c7 := (hB.cell (p := ⟨b, off + k * 4 + 3, none⟩) hbw).trans d7
      have c3 := (hB.cell (p := ⟨b2, off2 + k * 4, none⟩) hbw2).trans d3
      have c4 := (hB.cell (p := ⟨b2, off2 + k * 4 + 1, none⟩) hbw2).trans d4
      have c6 := (hB.cell (p := ⟨b2, off2 + k * 4 + 2, none⟩) hbw2).trans d6
      have c8 := (hB.cell (p := ⟨b2, off2 + k * 4 + 3, none⟩) hbw2).trans d8
      generalize p.2.v = x0 at *
      generalize flatN p.2 = x1 at *
      generalize flatE p.2 = x2 at *
      have i1 : (k : Int) < (l.length : Int) := by omega
      have i0 : (0 : Int) ≤ (k : Int) := by omega
      clear d1 d2 d3 d4 d5 d6 d7 d8 hx
      go_wp2_with fail
      go_quiet (fail)
      go_wp2_with fail
      go_roundw
      case rel => exact ⟨k + 1, by simp, by omega, below_drewN hB _⟩
      case measure => simp [intOf]; omega
    · have i1 : ¬ (k : Int) < (l.length : Int) := by omega
      go_wp2_with fail
      go_ret
      exact ⟨rfl, hB⟩
theorem flatI_map : ∀ l : List (List Bd × Dr), flatI l = (l.map (fun p => (p.1.length : Int))).map (Value.int .i64)
  | [] => rfl
  | p :: l => by rw [flatI, flatI_map l]; rfl
theorem rowI_reads {w : World} {B : Nat} {l : List (List Bd × Dr)} {v : Value} (h : RowI B l v w) : Reads .i64 w v (l.map (fun p => (p.1.length : Int))) :=
  reads_own (k := .i64) (B := B) (by unfold RowI at h; rw [flatI_map] at h; rw [List.length_map]; exact h)
end Go.Proofs.YtjioljgojfcckaaGreat.P9

namespace Go.Proofs.YtjioljgojfcckaaGreat.P9
open Go.RowKit Go.Shelf Go.Proofs.YtjioljgojfcckaaGreat.P8

set_option maxRecDepth 100000 in
set_option maxHeartbeats 8000000 in
theorem lawParts_any (l : List Bd) (hl : l.length ≤ 9223372036854775807) (v : Value) (w : World) (h : ReadsD w v l) : Calls Tryz.prog 4 #[v] w (Ret w (.bool true)) := by
  have WK := Lib.hid wakes_any
  have OW := Lib.hid (fun W (hb : Below w.heap.size w W) => own_any l hl v W (h.below hb))
  obtain ⟨A, c, rfl, hc, _⟩ := h
  have hql : (l.take 260).length ≤ 260 := by rw [List.length_take]; omega
  generalize l.take 260 = q at *
  obtain ⟨i0, hi, hz0, hz1, hz2⟩ := info_parts8 infoInt
  obtain ⟨i0', hi', hz0', hz1', hz2'⟩ := info_parts8 infoLine
  go_enter Tryz.func4, Tryz.ntmps4
  go_wp2_with fail
  refine (WK.out _).mono ?_
  rintro en w1 ⟨rfl, hb1⟩
  go_wp2_with fail
  refine (OW.out w1 hb1).mono ?_
  rintro en w2 hh
  obtain ⟨hb2, A2, c2, rfl, hc2, hr2⟩ := hh.open
  have HB2 := Lib.hid (under hb1 hb2)
  obtain ⟨K, hK1, hK2, hK3⟩ : ∃ K : Nat, K ≤ q.length ∧ K ≤ 40 ∧ (K = 40 ∨ K = q.length) := by
    by_cases g : q.length ≤ 40
    · exact ⟨q.length, Nat.le_refl _, g, .inr rfl⟩
    · exact ⟨40, by omega, Nat.le_refl _, .inl rfl⟩
  have hm1 : min (q.length : Int) 40 = (K : Int) := by omega
  have hm2 : (if (40 : Int) < (q.length : Int) then (40 : Int) else (q.length : Int)) = (K : Int) := by split <;> omega
  have hrm := readsD_take hr2 K hK1
  have hmK : (q.take K).length = K := List.length_take_of_le hK1
  generalize q.take K = m at *
  have hcK : K ≤ c2 := Nat.le_trans hK1 hc2
  have n1 : (0 : Int) ≤ (K : Int) := by omega
  have n2 : (K : Int) ≤ (c2 : Int) := by omega
  subst hmK
  have H2 := Lib.hid hrm
  have CI := Lib.hid (fun W (hb : Below w2.heap.size w2 W) => pubI_any m (by omega) _ W (H2.out.below hb))
  have CX := Lib.hid (fun W (hb : Below w2.heap.size w2 W) => pubX_any m (by omega) _ W (H2.out.below hb))
  have RI := Lib.hid (fun W (hb : Below w2.heap.size w2 W) => P8.refRight_any m (by omega) _ W (H2.out.below hb))
  clear hh hb1 hb2 hr2 hrm WK OW hK1 hK3
  go_wp2_with fail
  refine (CI.out _ (Below.refl _ _)).mono ?_
  rintro en w3 ⟨hb3, A3, n3, c3, rfl, ho3⟩
  have HO3 := Lib.hid ho3
  have HB3 := Lib.hid hb3
  clear ho3 hb3 CI
  go_wp2_with fail
  refine (CX.out _ HB3.out).mono ?_
  rintro en w4 ⟨hb4, A4, n4, c4, rfl, ho4⟩
  have HO4 := Lib.hid ho4
  have HO3b := Lib.hid (owns_below HO3.out hb4)
  have HB4 := Lib.hid (under HB3.out hb4)
  clear ho4 hb4 CX HB3 HO3
  go_wp2_with fail
  refine (RI.out _ HB4.out).mono ?_
  rintro en w5 ⟨rfl, hb5⟩
  have HO4b := Lib.hid (owns_below HO4.out hb5)
  have HO3c := Lib.hid (owns_below HO3b.out hb5)
  have HB5 := Lib.hid (under HB4.out hb5)
  clear hb5 RI HO4 HO3b HB4
  cases gk : okD m
  · have e1 : codeS m = 180 ∧ rowS m = [] := by simp [codeS, rowS, gk]
    rw [e1.2] at HO3c HO4b
    obtain ⟨_, _, e3⟩ := row_is HO3c.out
    obtain ⟨_, _, e4⟩ := row_is HO4b.out
    cases e3
    cases e4
    rw [e1.1]
    clear e1 gk HO3c HO4b
    go_wp2_with fail
    go_ret
    exact ⟨by simp, under HB2.out HB5.out⟩
  · have e1 : codeS m = 0 ∧ rowS m = partsS m := by simp [codeS, rowS, gk]
    rw [e1.2] at HO3c HO4b
    rw [e1.1]
    have HK := Lib.hid gk
    have H5 := Lib.hid (H2.out.below HB5.out)
    have RD3 := Lib.hid (rowI_reads HO3c.out)
    have RD4 := Lib.hid (rowX_reads HO4b.out)
    have hpl : (partsS m).length ≤ 40 := Nat.le_trans (parts_le _ m (Nat.le_refl _)) hK2
    have EI := Lib.hid (fun (v v2 : Value) (W : World) h1 h2 => equalN ((partsS m).map (fun p => (p.1.length : Int))) (by rw [List.length_map]; omega) v v2 W h1 h2)
    have EX := Lib.hid (fun (v v2 : Value) (W : World) h1 h2 => equalX (partsS m) (by omega) v v2 W h1 h2)
    obtain ⟨R, hR⟩ : ∃ R, R = partsS m := ⟨_, rfl⟩
    rw [← hR] at RD3 RD4 EI EX
    have AS : Hid ([] ++ partsS (m.drop 0) = R) := Lib.hid (by simpa using hR.symm)
    clear e1 gk HO3c HO4b hR hpl H2
    go_wp2_with fail
    go_loopw [8, 9, 10] (fun s8 s9 o wr => ∃ (k n : Nat) (A' : Option Addr) (c' : Nat) (done : List (List Bd × Dr)), o = .slice A' n c' ∧ Hid (k ≤ m.length) ∧ Hid (n = m.length - k) ∧ n ≤ 256 ∧ n ≤ c' ∧ Hid (done ++ partsS (m.drop k) = R) ∧ Hid (done.length ≤ k) ∧ Hid (RowI w5.heap.size done s8 wr) ∧ Hid (RowX w5.heap.size done s9 wr) ∧ Hid (ReadsD w5 (.slice A' n c') (m.drop k)) ∧ Below w5.heap.size w5 wr) (fun _ _ o _ => lenV o)
    case atStart => exact ⟨0, m.length, A2, c2, [], rfl, Lib.hid (by omega), Lib.hid (by omega), by omega, hcK, AS, Lib.hid (by simp), Lib.hid (World.ownsRow_nil _ _ _ _), Lib.hid (World.ownsRow_nil _ _ _ _), Lib.hid (by simpa using H5.out), Below.refl _ _⟩
    case round =>
      obtain ⟨k, n, A', c', done, rfl, hk, hn, hnl, hnc, hD, hL, hOI, hOX, hRd, hB⟩ := hrel
      clear AS H5
      by_cases g0 : n = 0
      · have E : Hid (done = R) := Lib.hid (by
          have h1 : m.drop k = [] := List.drop_eq_nil_of_le (by have := hn.out; have := hk.out; omega)
          have := hD.out
          rwa [h1, partsS_nil, List.append_nil] at this)
        have HI := Lib.hid (rowI_reads hOI.out)
        have HX := Lib.hid (rowX_reads hOX.out)
        rw [E.out] at HI HX
        obtain ⟨A8, c8, rfl⟩ := row_is hOI.out
        obtain ⟨A9, c9, rfl⟩ := row_is hOX.out
        have Q1 := Lib.hid (EI.out _ _ wr (RD3.out.below hB) HI.out)
        subst g0
        clear hRd hD hk hn hOI hOX hL HI EI RD3 E
        go_wp2_with fail
        refine Q1.out.mono ?_
        rintro en w6 ⟨rfl, hb6⟩
        have Q2 := Lib.hid (EX.out _ _ w6 (RD4.out.below (under hB hb6)) (HX.out.below hb6))
        have HB6 := Lib.hid (under hB hb6)
        clear hb6 Q1 EX HX RD4
        go_wp2_with fail
        refine Q2.out.mono ?_
        rintro en w7 ⟨rfl, hb7⟩
        go_wp2_with fail
        go_ret
        exact ⟨by simp, under HB2.out (under HB5.out (under HB6.out hb7))⟩
      have g1 : (0 : Int) < (n : Int) := by omega
      have hrl : (m.drop k).length = n := by rw [List.length_drop]; exact hn.out.symm
      have hne : m.drop k ≠ [] := by
        intro e
        rw [e] at hrl
        simp at hrl
        omega
      have hok := okD_drop HK.out (k := k) (by rw [List.length_drop] at hrl; omega)
      obtain ⟨N1, N2⟩ := firN_le hne
      have hD1 := hD.out
      rw [partsS_next hne, List.drop_drop] at hD1
      have hpl := List.length_take (i := firN (m.drop k)) (l := m.drop k)
      rw [Nat.min_eq_left N2] at hpl
      rw [hrl] at N2
      have FI := Lib.hid (show Calls Tryz.prog 16 #[.slice A' n c'] wr (Ret wr (.int .i64 (firN (m.drop k)))) from by
        obtain ⟨b0, t, e⟩ := List.exists_cons_of_ne_nil hne
        have := refFirst_any b0 t (by rw [← e]; exact hok) (.slice A' n c') wr (by rw [← e]; exact hRd.out.below hB)
        rwa [← e] at this)
      have RP := Lib.hid (fun W (hb : Below w5.heap.size w5 W) => refPart_any (m.drop k) hok (.slice A' (firN (m.drop k)) c') W ((hRd.out.below hb).front (firN (m.drop k)) (by rw [hrl]; exact N2)))
      obtain ⟨N, hN⟩ : ∃ N, N = firN (m.drop k) := ⟨_, rfl⟩
      rw [← hN] at N1 N2 hD1 hpl FI RP
      obtain ⟨bb, off, rfl, hr1, hr0⟩ := hRd.out.rest (X := N) hn.out N2 N1
      generalize hpt : (m.drop k).take N = part at hD1 hpl
      obtain ⟨x, hx⟩ : ∃ x, x = firX (m.drop k) := ⟨_, rfl⟩
      rw [← hx] at RP hD1
      obtain ⟨p1, p2⟩ := places hn.out (X := N) N2 hk.out
      have HN := Lib.hid (And.intro p1 p2)
      have HPL := Lib.hid hpl
      have HD2 := Lib.hid hD1
      have HR1 := Lib.hid hr1
      have HR0 := Lib.hid hr0
      have HM : Hid (lenV (.slice (some ⟨bb, off, none⟩) (n - N) 0) < lenV (.slice (some ⟨bb, off, none⟩) n c')) := Lib.hid (by simp only [lenV]; omega)
      have hdl : done.length ≤ 256 := by have := hL.out; have := hk.out; omega
      have n4 : (N : Int) ≤ (n : Int) := by omega
      have n5 : (N : Int) ≤ (c' : Int) := by omega
      have n6 : (0 : Int) ≤ (N : Int) := by omega
      have HLL : Hid ((done ++ [(part, x)]).length ≤ k + N) := Lib.hid (by rw [List.length_append]; have := hL.out; simp; omega)
      have HOI : Hid (wr.ownsRow w5.heap.size 3 1 u8 done.length (flatI done)) := Lib.hid hOI.out
      have HOX : Hid (wr.ownsRow w5.heap.size 23 4 u9 done.length (flatX done)) := Lib.hid hOX.out
      clear hD1 hr1 hr0 p1 p2 hne hrl hD hOI hOX hRd hN hx hpt hpl hok
      go_wp2_with fail
      refine FI.out.mono ?_
      rintro en w6 ⟨rfl, hb6⟩
      have HB6 := Lib.hid (under hB hb6)
      have HOI6 := Lib.hid (owns_below HOI.out hb6)
      have HOX6 := Lib.hid (owns_below HOX.out hb6)
      clear hb6 HOI HOX FI
      go_wp2_with (at_builtin; refine wpList_append_own _ rfl _ _ 34 rfl w5.heap.size 3 i0 (.int .i64 0) 1 8 Tryz.underlying34 hi hz0 hz1 hz2 rfl (by decide) _ _ _ rfl (owns_below HOI6.out (below_alloc w6 _)) ⟨w6.heap.size, 0, none⟩ 1 1 [.int .i64 (N : Int)] rfl rfl (new_cells1 rfl) (by intro u hu; simp at hu; subst hu; rfl) (by unfold maxLen; omega) (by omega) (by have := HB6.out.size; simp; omega) ?_; intro v8 w8 hown8 hgrow8 _; obtain ⟨g8, cap8, rfl⟩ := ownsRow_succ hown8)
      have HB8 := Lib.hid (Below.grown (HB6.out.alloc HB6.out.size _) hgrow8 (by have := HB6.out.size; simp; omega) (fun j hj => (HOI6.out.lt j hj).1))
      have HOI8 := Lib.hid (show RowI w5.heap.size (done ++ [(part, x)]) (.slice (some ⟨g8, 0, none⟩) (done.length + 1) cap8) w8 by unfold RowI; rw [List.length_append, flatI_app]; simp only [flatI, HPL.out]; exact hown8)
      have HOX8 := Lib.hid (rows_apart (owns_below HOX6.out (below_alloc w6 _)) (owns_below HOI6.out (below_alloc w6 _)) (by decide) hgrow8)
      clear hown8 hgrow8 HOI6 HOX6 HB6
      go_wp2_with fail
      refine (RP.out _ HB8.out).mono ?_
      rintro en w9 ⟨rfl, hb9⟩
      have HB9 := Lib.hid (under HB8.out hb9)
      have HOI9 := Lib.hid (show RowI w5.heap.size (done ++ [(part, x)]) (.slice (some ⟨g8, 0, none⟩) (done.length + 1) cap8) w9 from owns_below HOI8.out hb9)
      have HOX9 := Lib.hid (owns_below HOX8.out hb9)
      clear hb9 HOI8 HOX8 HB8 RP
      go_wp2_with (at_builtin; refine wpList_append_own _ rfl _ _ 37 rfl w5.heap.size 23 i0' (.agg #[.int .i64 0, .int .i64 0, .int .i64 0, .int .i64 0]) 4 32 Tryz.underlying37 hi' hz0' hz1' hz2' rfl (by decide) _ _ _ rfl (owns_below HOX9.out (below_alloc w9 _)) ⟨w9.heap.size, 0, none⟩ 1 1 [.int .i64 x.v, .int .i64 0, .int .i64 (flatN x), .int .i64 (flatE x)] rfl rfl (new_cells4 rfl) (by intro u hu; simp at hu; rcases hu with rfl | rfl | rfl | rfl <;> rfl) (by unfold maxLen; omega) (by omega) (by have := HB9.out.size; simp; omega) ?_; intro v10 w10 hown10 hgrow10 _; obtain ⟨g10, cap10, rfl⟩ := ownsRow_succ hown10)
      have HB10 := Lib.hid (Below.grown (HB9.out.alloc HB9.out.size _) hgrow10 (by have := HB9.out.size; simp; omega) (fun j hj => (HOX9.out.lt j hj).1))
      have HOX10 := Lib.hid (show RowX w5.heap.size (done ++ [(part, x)]) (.slice (some ⟨g10, 0, none⟩) (done.length + 1) cap10) w10 by unfold RowX; rw [List.length_append, flatX_app]; simp only [flatX]; exact hown10)
      have HOI10 := Lib.hid (show RowI w5.heap.size (done ++ [(part, x)]) (.slice (some ⟨g8, 0, none⟩) (done.length + 1) cap8) w10 from rows_apart (owns_below HOI9.out (below_alloc w9 _)) (owns_below HOX9.out (below_alloc w9 _)) (by decide) hgrow10)
      clear hown10 hgrow10 HOI9 HOX9 HB9
      by_cases hcx : c' = N
      · have HRZ := Lib.hid (HR0.out hcx)
        clear HR0 HR1
        subst hcx
        have e0 : n - c' = 0 := by omega
        rw [e0] at HRZ HN HM
        replace e0 := Lib.hid e0
        go_wp2_with fail
        go_roundw
        case rel => exact ⟨k + c', 0, _, 0, ⟨rfl, rfl, rfl⟩, Lib.hid HN.out.2, Lib.hid HN.out.1, by omega, by omega, done ++ [(part, x)], Lib.hid (by rw [List.append_assoc]; exact HD2.out), HLL, HOI10, HOX10, HRZ, HB10.out⟩
        case measure => exact HM.out
      · have hcy : ¬ N = c' := fun e => hcx e.symm
        go_wp2_with fail
        go_roundw
        case rel => exact ⟨k + N, n - N, _, c' - N, ⟨rfl, rfl, rfl⟩, Lib.hid HN.out.2, Lib.hid HN.out.1, by omega, by omega, done ++ [(part, x)], Lib.hid (by rw [List.append_assoc]; exact HD2.out), HLL, HOI10, HOX10, Lib.hid HR1.out, HB10.out⟩
        case measure => exact HM.out
end Go.Proofs.YtjioljgojfcckaaGreat.P9
