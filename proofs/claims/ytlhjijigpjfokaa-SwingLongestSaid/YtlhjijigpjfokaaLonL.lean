/-
  Layer 9: the law SwingLongest's walk. Conditions: those written at each fact.
-/
import Derived.Test.YtlhjijigpjfokaaLonM
import Derived.Laws.OwnMore
namespace Go.Proofs.Ytlhjijigpjfokaa.P9
open Go.RowKit Go.Shelf Go.Proofs.Ytlhjijigpjfokaa.P8

theorem bel9 {w W : World} {L : List (Nat × Nat × Value)} (h : Keeps w L W) : Below w.heap.size w W := h.1
theorem long_nums {a N len c T : Nat} (hT : T = a + N) (h1 : 1 ≤ N) (h2 : N ≤ len - a) (h3 : a < len) (h4 : len ≤ c) (h5 : len ≤ 260) :
    ∃ (L3 : Int), IntKind.i64.wrap ((len : Int) - (a : Int)) = L3 ∧ decide (L3 < (N : Int)) = false ∧ IntKind.i64.wrap ((a : Int) + (N : Int)) = (T : Int) ∧ wrap64 ((a : Int) + (N : Int)) = (T : Int) ∧
      (T : Int) ≤ (c : Int) ∧ (a : Int) ≤ (T : Int) ∧ (0 : Int) ≤ (a : Int) ∧ ¬ c = a ∧ ¬ a = c ∧ T ≤ len ∧ decide ((N : Int) < 1) = false := by
  subst hT
  refine ⟨(len : Int) - (a : Int), ?_, decide_eq_false (by omega), ?_, ?_, by omega, by omega, by omega, by omega, by omega, by omega, decide_eq_false (by omega)⟩
  · rw [IntKind.wrap_i64]; omega
  · rw [IntKind.wrap_i64]; omega
  · rw [i64_keeps (by omega) (by omega)]; omega
theorem long_more {a T len c S : Nat} (hS : S = T + 1) (h1 : T < len) (h2 : (a : Int) ≤ (T : Int)) (h4 : len ≤ c) (h5 : len ≤ 260) :
    (T : Int) < (len : Int) ∧ IntKind.i64.wrap ((T : Int) + 1) = (S : Int) ∧ wrap64 ((T : Int) + 1) = (S : Int) ∧ (S : Int) ≤ (c : Int) ∧ (a : Int) ≤ (S : Int) ∧ S ≤ len := by
  subst hS
  refine ⟨by omega, ?_, ?_, by omega, by omega, by omega⟩
  · rw [IntKind.wrap_i64]; omega
  · rw [i64_keeps (by omega) (by omega)]; omega
theorem long_q {m : List Bd} {a N T S : Nat} (h : T = a + N ∧ a < m.length ∧ 1 ≤ N ∧ N ≤ m.length - a) (hS : S = T + 1) (hm : S ≤ m.length) : N + 1 ≤ m.length - a ∧ S = a + (N + 1) ∧ N < (m.drop a).length := by
  rw [List.length_drop]; omega
theorem long_some (k : Int) {a N T len c : Nat} (h : T = a + N ∧ a < len ∧ 1 ≤ N ∧ N ≤ len - a) (h4 : len ≤ c) (h5 : len ≤ 260) :
    ∃ z s S : Nat, (S = a + s ∧ 1 ≤ s ∧ s ≤ N ∧ s ≤ len - a) ∧ ¬ IntKind.u64.wrap (N : Int) = 0 ∧ IntKind.i64.wrap ((IntKind.u64.wrap k).tmod (IntKind.u64.wrap (N : Int))) = (z : Int) ∧ wrap64 ((IntKind.u64.wrap k).tmod (IntKind.u64.wrap (N : Int))) = (z : Int) ∧
      IntKind.i64.wrap (1 + (z : Int)) = (s : Int) ∧ wrap64 (1 + (z : Int)) = (s : Int) ∧ IntKind.i64.wrap ((a : Int) + (s : Int)) = (S : Int) ∧ wrap64 ((a : Int) + (s : Int)) = (S : Int) ∧ (S : Int) ≤ (c : Int) ∧ (a : Int) ≤ (S : Int) := by
  have e1 : IntKind.u64.wrap (N : Int) = (N : Int) := by rw [IntKind.wrap_u64]; omega
  have e2 : (IntKind.u64.wrap k).tmod (N : Int) = (IntKind.u64.wrap k) % (N : Int) := by rw [IntKind.wrap_u64]; exact tmod_of_emod _ _
  have e3 : 0 ≤ (IntKind.u64.wrap k) % (N : Int) := Int.emod_nonneg _ (by omega)
  have e4 : (IntKind.u64.wrap k) % (N : Int) < (N : Int) := Int.emod_lt_of_pos _ (by omega)
  rw [e1, e2]
  generalize (IntKind.u64.wrap k) % (N : Int) = r at *
  refine ⟨r.toNat, 1 + r.toNat, a + (1 + r.toNat), ⟨rfl, by omega, by omega, by omega⟩, by omega, ?_, ?_, ?_, ?_, ?_, ?_, by omega, by omega⟩
  · rw [IntKind.wrap_i64]; omega
  · rw [i64_keeps (by omega) (by omega)]; omega
  · rw [IntKind.wrap_i64]; omega
  · rw [i64_keeps (by omega) (by omega)]; omega
  · rw [IntKind.wrap_i64]; omega
  · rw [i64_keeps (by omega) (by omega)]; omega
theorem row_at {w : World} {B : Nat} {e : TypeId} {s n c : Nat} {A : Option Addr} {xs : List Value} (h : w.ownsRow B e s (.slice A n c) n xs) (hn : 1 ≤ n) : ∃ g, A = some ⟨g, 0, none⟩ ∧ g < w.heap.size := by
  rcases h.2 with ⟨_, h0⟩ | ⟨g, cap, cur, e1, _, e3, _⟩
  · omega
  · cases e1
    exact ⟨g, rfl, (Array.getElem?_eq_some_iff.1 e3).1⟩
set_option maxRecDepth 100000 in
set_option maxHeartbeats 4000000 in
theorem long_any (l : List Bd) (hl : l.length ≤ 9223372036854775807) (k : Int) (v : Value) (w : World) (h : ReadsD w v l) : Calls Try.prog 5 #[v, .int .i64 k] w (Ret w (.bool true)) := by
  have WK := Lib.hid wakes_any
  have OW := Lib.hid (fun W (hb : Below w.heap.size w W) => own_any l hl v W (h.below hb))
  obtain ⟨A, c, rfl, _, _⟩ := h
  have hml : (l.take 260).length ≤ 260 := by rw [List.length_take]; omega
  generalize l.take 260 = m at *
  go_enter Try.func5, Try.ntmps5
  go_wp2_with fail
  refine (WK.out _).mono ?_
  rintro e w1 ⟨rfl, hb1⟩
  have HB1 := Lib.hid hb1
  go_wp2_with fail
  refine (OW.out w1 hb1).mono ?_
  rintro e w2 hh
  obtain ⟨hb2, A2, c2, rfl, hc2, hr2⟩ := hh.open
  have HB2 := Lib.hid (under hb1 hb2)
  have CU := Lib.hid (pubI_any m (by omega) _ w2 hr2)
  have CX := Lib.hid (fun W (hb : Below w2.heap.size w2 W) => pubX_any m (by omega) _ W (hr2.below hb))
  have H2 := Lib.hid hr2
  clear hh hb1 hb2 WK OW hr2
  go_wp2_with fail
  refine CU.out.mono ?_
  rintro e w3 hE3
  obtain ⟨hb3, A3, c3, rfl, ho3⟩ := hE3.open
  have HO3 := Lib.hid ho3
  have HB3 := Lib.hid hb3
  clear hE3 ho3 CU
  go_wp2_with fail
  refine (CX.out w3 hb3).mono ?_
  rintro e w4 hE4
  obtain ⟨hb4, A4, c4, rfl, ho4⟩ := hE4.open
  have HO4 := Lib.hid ho4
  have HB4 := Lib.hid hb4
  have HB24 := Lib.hid (under HB3.out hb4)
  clear hE4 ho4 CX hb3 hb4
  cases gk : okD m
  · have e1 : rowS m = [] := by simp [rowS, gk]
    have e2 : codeS m = 180 := by simp [codeS, gk]
    rw [e1] at HO3 HO4 ⊢
    rw [e2]
    clear e1 e2 gk H2 HO3 HO4
    simp only [List.length_nil]
    go_wp2_with fail
    go_ret
    exact ⟨rfl, under HB2.out HB24.out⟩
  · have e1 : rowS m = partsS m := by simp [rowS, gk]
    have e2 : codeS m = 0 := by simp [codeS, gk]
    rw [e1] at HO3 HO4 ⊢
    rw [e2]
    have HGK := Lib.hid gk
    obtain ⟨hm1, hm2, _⟩ := okD_facts gk
    have hP : 1 ≤ (partsS m).length := by rw [partsS_next (okD_ne gk)]; simp
    have hP2 : (partsS m).length ≤ 256 := by have := parts_le m.length m (Nat.le_refl _); omega
    obtain ⟨g3, rfl, hg3⟩ := row_at HO3.out hP
    obtain ⟨g4, rfl, hg4⟩ := row_at HO4.out hP
    have hg34 : g3 < w4.heap.size := Nat.lt_of_lt_of_le hg3 HB4.out.size
    have HN := Lib.hid (owns_below HO3.out HB4.out)
    have hr4 := H2.out.below HB24.out
    obtain ⟨bb, off, rfl⟩ := readsD_some hr4 (okD_ne gk)
    have H4 := Lib.hid hr4
    have HI := Lib.hid (fun (i : Nat) (p : List Bd × Dr) (hi : (partsS m)[i]? = some p) => (HN.out.cellAt i (by have := (List.getElem?_eq_some_iff.1 hi).1; omega)).trans (flatI_at _ i p hi))
    have HX := Lib.hid (fun (i : Nat) (p : List Bd × Dr) (hi : (partsS m)[i]? = some p) =>
      And.intro ((HO4.out.cellAt (i * 4) (by have := (List.getElem?_eq_some_iff.1 hi).1; omega)).trans (flatX_at _ i p hi).1) (And.intro ((HO4.out.cellAt (i * 4 + 1) (by have := (List.getElem?_eq_some_iff.1 hi).1; omega)).trans (flatX_at _ i p hi).2.1)
        (And.intro ((HO4.out.cellAt (i * 4 + 2) (by have := (List.getElem?_eq_some_iff.1 hi).1; omega)).trans (flatX_at _ i p hi).2.2.1) ((HO4.out.cellAt (i * 4 + 3) (by have := (List.getElem?_eq_some_iff.1 hi).1; omega)).trans (flatX_at _ i p hi).2.2.2))))
    have HPH := Lib.hid (fun (done : List (List Bd × Dr)) (i a : Nat) (hd : done.length = i) (hD : done ++ partsS (m.drop a) = partsS m) (hi : i < (partsS m).length) => part_here gk hd hD hi)
    have AS : Hid ([] ++ partsS (m.drop 0) = partsS m) := Lib.hid (by simp)
    have hc2m : m.length ≤ c2 := hc2
    clear e1 e2 gk H2 HO3 HO4 hr4 hg3 HB4 HB3 HN
    generalize hRR : partsS m = R at *
    replace hRR := Lib.hid hRR
    go_wp2_with fail
    go_loopw [10, 56] (fun s o wr => ∃ (i a : Nat) (done : List (List Bd × Dr)), s = .int .i64 a ∧ o = .int .i64 i ∧ i ≤ R.length ∧ Hid (a ≤ m.length) ∧ Hid (done.length = i) ∧ Hid (done ++ partsS (m.drop a) = R) ∧ Hid (Below w4.heap.size w4 wr)) (fun _ o _ => R.length - (intOf o).toNat)
    case atStart => exact ⟨0, 0, [], rfl, rfl, by omega, Lib.hid (by omega), Lib.hid rfl, AS, Lib.hid (Below.refl _ _)⟩
    case round =>
      obtain ⟨i, a, done, rfl, rfl, hil, hal, hdl, hD, hB⟩ := hrel
      clear AS
      by_cases gi : i < R.length
      · obtain ⟨p1, p2, p3, p4, p5, p6, p7⟩ := HPH.out done i a hdl.out hD.out gi
        have n1 := (hB.out.cell (p := ⟨g3, i, none⟩) hg34).trans (HI.out i _ p5)
        obtain ⟨x0, x1, x2, x3⟩ := HX.out i _ p5
        have HXL := Lib.hid (And.intro x0 (And.intro x1 (And.intro x2 x3)))
        have TH := Lib.hid (line_thr p2)
        have FS := Lib.hid (fun s (h1 : 1 ≤ s) (h2 : s ≤ firN (m.drop a)) => fit_some p2 h1 h2)
        have FM := Lib.hid (fun (hlt : firN (m.drop a) < (m.drop a).length) => fit_more p2 hlt)
        simp only at n1
        rw [p6] at n1
        obtain ⟨N, hN⟩ : ∃ N, N = firN (m.drop a) := ⟨_, rfl⟩
        rw [← hN] at p3 p4 p7 TH FS FM n1
        obtain ⟨x, hx⟩ : ∃ x, x = firX (m.drop a) := ⟨_, rfl⟩
        rw [← hx] at p7 TH HXL
        have RP := Lib.hid (fun s (h2 : s ≤ m.length - a) W (hb : Below w4.heap.size w4 W) => ((H4.out.below hb).back a (by omega)).front s (by rw [List.length_drop]; exact h2))
        have HE := Lib.hid p7
        obtain ⟨T, hT⟩ : ∃ T, T = a + N := ⟨_, rfl⟩
        have hTN : T - a = N := by omega
        have TA := Lib.hid (fun W (hb : Below w4.heap.size w4 W) => thr_any x.v 0 (flatN x) (flatE x) ((m.drop a).take N) (by rw [List.length_take]; omega) (.slice (some ⟨bb, off + a * 3, none⟩) (T - a) (c2 - a)) W (by rw [hTN]; exact RP.out N p4 W hb))
        rw [TH.out] at TA
        have FA := Lib.hid (fun s (h2 : s ≤ m.length - a) (S : Nat) (hS : S = a + s) W (hb : Below w4.heap.size w4 W) => fit9_any ((m.drop a).take s) (by rw [List.length_take]; omega) (.slice (some ⟨bb, off + a * 3, none⟩) (S - a) (c2 - a)) W (by rw [show S - a = s by omega]; exact RP.out s h2 W hb))
        have i1 : (i : Int) < (R.length : Int) := by omega
        have i0 : (0 : Int) ≤ (i : Int) := by omega
        obtain ⟨L3, j3, j4, j5, j6, j7, j8, j9, j10, j11, hTm, j1⟩ := long_nums hT p3 p4 p1 hc2m hml
        have HNUM := Lib.hid (And.intro hT (And.intro p1 (And.intro p3 p4)))
        generalize flatN x = fx at *
        generalize flatE x = fy at *
        generalize x.v = fv at *
        clear x0 x1 x2 x3 p2 p5 p6 p7 hD hx hN hT hTN p1 p4 TH
        go_wp2_with fail
        refine region_keeps (w0 := w4) (L := []) (by kernel_rfl) ⟨hB.out, trivial⟩ (fun hHeld0 => ?_)
        refine wpAnyH_take (i := 0) (oi := ⟨some 61, _, _, _, _, _⟩) (v := ?_) rfl (by kernel_rfl) (by kernel_rfl) (by kernel_rfl) (fun _ _ _ h => h) (Or.inl ⟨by rfl, ?_⟩) (by assumption) ?_
        rotate_left
        · intro wq hSw; go_simp; (try with_reducible rfl)
        try simp only [Act.put, List.setIfInBounds_toArray, List.set_cons_zero, List.set_cons_succ]
        refine wpAnyH_take (i := 1) (oi := ⟨some 62, _, _, _, _, _⟩) (v := ?_) rfl (by kernel_rfl) (by kernel_rfl) (by kernel_rfl) (fun _ _ _ h => h) (Or.inl ⟨by rfl, ?_⟩) (by assumption) ?_
        rotate_left
        · intro wq hSw; go_simp; (try with_reducible rfl)
        try simp only [Act.put, List.setIfInBounds_toArray, List.set_cons_zero, List.set_cons_succ]
        refine wpAnyH_take (i := 2) (oi := ⟨some 63, _, _, _, _, _⟩) (v := ?_) rfl (by kernel_rfl) (by kernel_rfl) (by kernel_rfl) (fun _ _ _ h => h) (Or.inl ⟨by rfl, ?_⟩) (by assumption) ?_
        rotate_left
        · intro wq hSw; go_simp; (try with_reducible rfl)
        try simp only [Act.put, List.setIfInBounds_toArray, List.set_cons_zero, List.set_cons_succ]
        refine wpAnyH_take (i := 3) (oi := ⟨some 64, _, _, _, _, _⟩) (v := ?_) rfl (by kernel_rfl) (by kernel_rfl) (by kernel_rfl) (fun _ _ _ h => h) (Or.inl ⟨by rfl, ?_⟩) (by assumption) ?_
        rotate_left
        · intro wq hSw; go_simp; (try with_reducible rfl)
        try simp only [Act.put, List.setIfInBounds_toArray, List.set_cons_zero, List.set_cons_succ]
        refine wpAnyH_take (i := 4) (oi := ⟨some 65, _, _, _, _, _⟩) (v := ?_) rfl (by kernel_rfl) (by kernel_rfl) (by kernel_rfl) (fun _ _ _ h => h) (Or.inl ⟨by rfl, ?_⟩) (by assumption) ?_
        rotate_left
        · intro wq hSw; go_simp; (try with_reducible rfl)
        try simp only [Act.put, List.setIfInBounds_toArray, List.set_cons_zero, List.set_cons_succ]
        refine wpAnyH_take (i := 5) (oi := ⟨some 66, _, _, _, _, _⟩) (v := ?_) rfl (by kernel_rfl) (by kernel_rfl) (by kernel_rfl) (fun _ _ _ h => h) (Or.inl ⟨by rfl, ?_⟩) (by assumption) ?_
        rotate_left
        · intro wq hSw; go_simp; (try with_reducible rfl)
        try simp only [Act.put, List.setIfInBounds_toArray, List.set_cons_zero, List.set_cons_succ]
        refine wpAnyH_take (i := 6) (oi := ⟨some 67, _, _, _, _, _⟩) (v := ?_) rfl (by kernel_rfl) (by kernel_rfl) (by kernel_rfl) (fun _ _ _ h => h) (Or.inl ⟨by rfl, ?_⟩) (by assumption) ?_
        rotate_left
        · intro wq hSw; go_simp; (try with_reducible rfl)
        try simp only [Act.put, List.setIfInBounds_toArray, List.set_cons_zero, List.set_cons_succ]
        refine wpAnyH_take (i := 7) (oi := ⟨some 68, _, _, _, _, _⟩) (v := ?_) rfl (by kernel_rfl) (by kernel_rfl) (by kernel_rfl) (fun _ _ _ h => h) (Or.inl ⟨by rfl, ?_⟩) (by assumption) ?_
        rotate_left
        · intro wq hSw; go_simp; (try with_reducible rfl)
        try simp only [Act.put, List.setIfInBounds_toArray, List.set_cons_zero, List.set_cons_succ]
        refine wpAnyH_take (i := 8) (oi := ⟨some 69, _, _, _, _, _⟩) (v := ?_) rfl (by kernel_rfl) (by kernel_rfl) (by kernel_rfl) (fun _ _ _ h => h) (Or.inl ⟨by rfl, ?_⟩) (by assumption) ?_
        rotate_left
        · intro wq hSw; go_simp; (try with_reducible rfl)
        try simp only [Act.put, List.setIfInBounds_toArray, List.set_cons_zero, List.set_cons_succ]
        refine wpAnyH_take (i := 9) (oi := ⟨some 70, _, _, _, _, _⟩) (v := ?_) rfl (by kernel_rfl) (by kernel_rfl) (by kernel_rfl) (fun _ _ _ h => h) (Or.inl ⟨by rfl, ?_⟩) (by assumption) ?_
        rotate_left
        · intro wq hSw; go_simp; (try with_reducible rfl)
        try simp only [Act.put, List.setIfInBounds_toArray, List.set_cons_zero, List.set_cons_succ]
        refine wpAnyH_take (i := 10) (oi := ⟨some 71, _, _, _, _, _⟩) (v := ?_) rfl (by kernel_rfl) (by kernel_rfl) (by kernel_rfl) (fun _ _ _ h => h) (Or.inl ⟨by rfl, ?_⟩) (by assumption) ?_
        rotate_left
        · intro wq hSw; go_simp; (try with_reducible rfl)
        try simp only [Act.put, List.setIfInBounds_toArray, List.set_cons_zero, List.set_cons_succ]
        refine wpAnyH_take (i := 11) (oi := ⟨some 72, _, _, _, _, _⟩) (v := ?_) rfl (by kernel_rfl) (by kernel_rfl) (by kernel_rfl) (fun _ _ _ h => h) (Or.inl ⟨by rfl, ?_⟩) (by assumption) ?_
        rotate_left
        · intro wq hSw; go_simp; (try with_reducible rfl)
        try simp only [Act.put, List.setIfInBounds_toArray, List.set_cons_zero, List.set_cons_succ]
        refine wpAnyH_take (i := 12) (oi := ⟨some 73, _, _, _, _, _⟩) (v := ?_) rfl (by kernel_rfl) (by kernel_rfl) (by kernel_rfl) (fun _ _ _ h => h) (Or.inl ⟨by rfl, ?_⟩) (by assumption) ?_
        rotate_left
        · intro wq hSw; go_simp; (try with_reducible rfl)
        try simp only [Act.put, List.setIfInBounds_toArray, List.set_cons_zero, List.set_cons_succ]
        refine wpAnyH_take (i := 13) (oi := ⟨some 74, _, _, _, _, _⟩) (v := ?_) rfl (by kernel_rfl) (by kernel_rfl) (by kernel_rfl) (fun _ _ _ h => h) (Or.inl ⟨by rfl, ?_⟩) (by assumption) ?_
        rotate_left
        · intro wq hSw; go_simp; (try with_reducible rfl)
        try simp only [Act.put, List.setIfInBounds_toArray, List.set_cons_zero, List.set_cons_succ]
        refine wpAnyH_take (i := 14) (oi := ⟨some 75, _, _, _, _, _⟩) (v := ?_) rfl (by kernel_rfl) (by kernel_rfl) (by kernel_rfl) (fun _ _ _ h => h) (Or.inl ⟨by rfl, ?_⟩) (by assumption) ?_
        rotate_left
        · intro wq hSw; obtain _ := hSw.2; have hp0 := (hSw.1.cell (p := ⟨g4, i * 4, none⟩) hg4).trans HXL.out.1; have hp1 := (hSw.1.cell (p := ⟨g4, i * 4 + 1, none⟩) hg4).trans HXL.out.2.1; have hp2 := (hSw.1.cell (p := ⟨g4, i * 4 + 2, none⟩) hg4).trans HXL.out.2.2.1; have hp3 := (hSw.1.cell (p := ⟨g4, i * 4 + 3, none⟩) hg4).trans HXL.out.2.2.2; (try simp only at hp0 hp1 hp2 hp3); go_simp; (try with_reducible rfl)
        try simp only [Act.put, List.setIfInBounds_toArray, List.set_cons_zero, List.set_cons_succ]
        refine wpAnyH_take (i := 15) (oi := ⟨some 76, _, _, _, _, _⟩) (v := ?_) rfl (by kernel_rfl) (by kernel_rfl) (by kernel_rfl) (fun _ _ _ h => h) (Or.inl ⟨by rfl, ?_⟩) (by assumption) ?_
        rotate_left
        · intro wq hSw; go_simp; (try with_reducible rfl)
        try simp only [Act.put, List.setIfInBounds_toArray, List.set_cons_zero, List.set_cons_succ]
        refine wpAnyH_take (i := 16) (oi := ⟨some 77, _, _, _, _, _⟩) (v := ?_) rfl (by kernel_rfl) (by kernel_rfl) (by kernel_rfl) (fun _ _ _ h => h) (Or.inl ⟨by rfl, ?_⟩) (by assumption) ?_
        rotate_left
        · intro wq hSw; go_simp; (try with_reducible rfl)
        try simp only [Act.put, List.setIfInBounds_toArray, List.set_cons_zero, List.set_cons_succ]
        refine wpAnyH_take (i := 17) (oi := ⟨some 78, _, _, _, _, _⟩) (v := ?_) rfl (by kernel_rfl) (by kernel_rfl) (by kernel_rfl) (fun _ _ _ h => h) (Or.inl ⟨by rfl, ?_⟩) (by assumption) ?_
        rotate_left
        · intro wq hSw; go_simp; (try with_reducible rfl)
        try simp only [Act.put, List.setIfInBounds_toArray, List.set_cons_zero, List.set_cons_succ]
        refine wpAnyH_take (i := 18) (oi := ⟨some 79, _, _, _, _, _⟩) (v := ?_) rfl (by kernel_rfl) (by kernel_rfl) (by kernel_rfl) (fun _ _ _ h => h) (Or.inl ⟨by rfl, ?_⟩) (by assumption) ?_
        rotate_left
        · intro wq hSw; go_simp; (try with_reducible rfl)
        try simp only [Act.put, List.setIfInBounds_toArray, List.set_cons_zero, List.set_cons_succ]
        refine wpAnyH_take (i := 19) (oi := ⟨some 80, _, _, _, _, _⟩) (v := ?_) rfl (by kernel_rfl) (by kernel_rfl) (by kernel_rfl) (fun _ _ _ h => h) (Or.inl ⟨by rfl, ?_⟩) (by assumption) ?_
        rotate_left
        · intro wq hSw; go_simp; (try with_reducible rfl)
        try simp only [Act.put, List.setIfInBounds_toArray, List.set_cons_zero, List.set_cons_succ]
        refine wpAnyH_take (i := 20) (oi := ⟨some 81, _, _, _, _, _⟩) (v := ?_) rfl (by kernel_rfl) (by kernel_rfl) (by kernel_rfl) (fun _ _ _ h => h) (Or.inl ⟨by rfl, ?_⟩) (by assumption) ?_
        rotate_left
        · intro wq hSw; go_simp; (try with_reducible rfl)
        try simp only [Act.put, List.setIfInBounds_toArray, List.set_cons_zero, List.set_cons_succ]
        refine wpAnyH_ready (rs := [21]) (by kernel_rfl) (by simp) ?_
        refine AllReadyH.cons (o := ⟨some 82, _, _, _, _, _⟩) rfl (fun K hK => ?_) AllReadyH.nil
        go_simp
        ((with_reducible refine Calls.mono (TA.out _ (bel9 (L := []) (by assumption))) ?_); rintro e w5 ⟨rfl, hb⟩)
        refine hK.out _ _ (hHeld0.next hb) (fun hHeld1 => ?_)
        clear hK K
        try clear hb
        try simp only [Act.put, List.setIfInBounds_toArray, List.set_cons_zero, List.set_cons_succ]
        refine wpAnyH_take (i := 22) (oi := ⟨some 83, _, _, _, _, _⟩) (v := ?_) rfl (by kernel_rfl) (by kernel_rfl) (by kernel_rfl) (fun _ _ _ h => h) (Or.inl ⟨by rfl, ?_⟩) (by assumption) ?_
        rotate_left
        · intro wq hSw; go_simp; (try with_reducible rfl)
        try simp only [Act.put, List.setIfInBounds_toArray, List.set_cons_zero, List.set_cons_succ]
        refine wpAnyH_take (i := 23) (oi := ⟨some 84, _, _, _, _, _⟩) (v := ?_) rfl (by kernel_rfl) (by kernel_rfl) (by kernel_rfl) (fun _ _ _ h => h) (Or.inl ⟨by rfl, ?_⟩) (by assumption) ?_
        rotate_left
        · intro wq hSw; go_simp; (try with_reducible rfl)
        try simp only [Act.put, List.setIfInBounds_toArray, List.set_cons_zero, List.set_cons_succ]
        refine wpAnyH_done (by kernel_rfl) ?_ _
        have hHeld := hHeld1
        all_goals
          have HB5 := Lib.hid hHeld.1
          clear hHeld hB n1
          obtain ⟨z, s, S', hs, y1, y2, y3, y4, y5, y6, y7, y8, y9⟩ := long_some k HNUM.out hc2m hml
          have HTM := Lib.hid hTm
          have F3 := Lib.hid (fun W (hb : Below w4.heap.size w4 W) => FA.out s hs.2.2.2 S' hs.1 W hb)
          rw [FS.out s hs.2.1 hs.2.2.1] at F3
          generalize fitA (List.take s (m.drop a)) = fa3 at F3
          generalize fitN (List.take s (m.drop a)) = fb3 at F3
          generalize fitD9 (List.take s (m.drop a)) = fc3 at F3
          clear hs FS TA HX HI HXL HPH
          clear hHeld0 hHeld1 i0 j1 hal
          by_cases gT : T < m.length
          · obtain ⟨S, hS⟩ : ∃ S, S = T + 1 := ⟨_, rfl⟩
            obtain ⟨k1, k2, k3, k4, k5, hSm⟩ := long_more hS gT j8 hc2m hml
            have HS := Lib.hid hS
            clear hS gT hTm
            have F1 := long_q HNUM.out HS.out hSm
            have F2 := FA.out (N + 1) F1.1 S F1.2.1 _ HB5.out
            rw [FM.out F1.2.2] at F2
            replace F2 := Lib.hid F2
            clear F1 FM FA
            generalize fitA (List.take (N + 1) (m.drop a)) = fa2 at *
            generalize fitN (List.take (N + 1) (m.drop a)) = fb2 at *
            generalize fitD9 (List.take (N + 1) (m.drop a)) = fc2 at *
            go_wp2_with fail
            refine F2.out.mono ?_
            rintro e w6 ⟨rfl, hb6⟩
            have HB6 := Lib.hid (under HB5.out (hb6.alloc hb6.size (.cells #[.int .i64 fa2, .int .i64 0, .int .i64 fb2, .int .i64 fc2] 26)))
            replace F3 := Lib.hid (F3.out _ HB6.out)
            clear F2 hb6
            go_wp2_with fail
            refine F3.out.mono ?_
            rintro e w7 ⟨rfl, hb7⟩
            have HB7 := Lib.hid (under HB6.out (hb7.alloc hb7.size (.cells #[.int .i64 fa3, .int .i64 0, .int .i64 fb3, .int .i64 fc3] 26)))
            clear F3 hb7
            go_wp2_with fail
            go_roundw
            case rel => exact ⟨i + 1, T, done ++ [(List.take N (m.drop a), x)], rfl, by simp, gi, HTM, Lib.hid (by rw [List.length_append, hdl.out]; rfl), Lib.hid (by rw [HNUM.out.1]; exact HE.out), HB7⟩
            case measure => exact index_less gi
          · have k2 : ¬ (T : Int) < (m.length : Int) := fun h => gT (Int.ofNat_lt.1 h)
            clear gT hTm FM FA
            replace F3 := Lib.hid (F3.out _ HB5.out)
            go_wp2_with fail
            refine F3.out.mono ?_
            rintro e w7 ⟨rfl, hb7⟩
            have HB7 := Lib.hid (under HB5.out (hb7.alloc hb7.size (.cells #[.int .i64 fa3, .int .i64 0, .int .i64 fb3, .int .i64 fc3] 26)))
            clear F3 hb7
            go_wp2_with fail
            go_roundw
            case rel => exact ⟨i + 1, T, done ++ [(List.take N (m.drop a), x)], rfl, by simp, gi, HTM, Lib.hid (by rw [List.length_append, hdl.out]; rfl), Lib.hid (by rw [HNUM.out.1]; exact HE.out), HB7⟩
            case measure => exact index_less gi
      · have hii : i = R.length := by omega
        have hD2 : partsS (m.drop a) = [] := by
          have h1 := congrArg List.length hD.out
          rw [List.length_append, hdl.out] at h1
          exact List.eq_nil_of_length_eq_zero (by omega)
        have ha : (a : Int) = (m.length : Int) := by
          have h1 := congrArg List.length (parts_none hD2)
          rw [List.length_drop, List.length_nil] at h1
          have := hal.out
          omega
        have i1 : ¬ (i : Int) < (R.length : Int) := by omega
        clear hD hD2 hii
        go_wp2_with fail
        go_ret
        exact ⟨rfl, under HB2.out (under HB24.out hB.out)⟩
end Go.Proofs.Ytlhjijigpjfokaa.P9
