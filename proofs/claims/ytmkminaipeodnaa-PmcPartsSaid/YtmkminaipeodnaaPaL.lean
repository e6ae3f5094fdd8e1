/-
  Layer 8: the law PmcParts's walk. Conditions: those written at each fact.
-/
import Derived.Test.YtmkminaipeodnaaMaD
namespace Go.Proofs.Ytmkminaipeodnaa.P8
open Go.RowKit Go.Shelf

theorem cutD_at {m : List Bd} {q k : Nat} (h : (cutN m).drop q = cutN (m.drop k)) (hq : q < (cutD m).length) : m.drop k ≠ [] ∧ (cutD m)[q]? = some (((firstD (m.drop k)).n : Nat) : Int) ∧ (cutN m).drop (q + 1) = cutN (m.drop (k + (firstD (m.drop k)).n)) := by
  rw [cutD_length] at hq
  have hne : m.drop k ≠ [] := by
    intro e
    rw [e, cutN_nil] at h
    have := congrArg List.length h
    rw [List.length_drop] at this
    simp at this
    omega
  rw [cutN_next hne, List.drop_eq_getElem_cons hq, List.cons.injEq, List.drop_drop] at h
  refine ⟨hne, ?_, h.2⟩
  rw [cutD_eq, List.getElem?_map, List.getElem?_eq_getElem hq, h.1]
  rfl
set_option maxRecDepth 100000 in
set_option maxHeartbeats 2000000 in
theorem parts8_any (l : List Bd) (hl : l.length ≤ 9223372036854775807) (v : Value) (w : World) (h : ReadsD w v l) : Calls Try.prog 6 #[v] w (Ret w (.bool true)) := by
  have WK := Lib.hid wakes_any
  have FW := Lib.hid (fun W (hb : Below w.heap.size w W) => few_any l hl v W (h.below hb))
  obtain ⟨A, c, rfl, _, _⟩ := h
  have hml : (l.take 257).length ≤ 257 := by rw [List.length_take]; omega
  generalize l.take 257 = m at *
  go_enter Try.func6, Try.ntmps6
  go_wp2_with fail
  refine (WK.out _).mono ?_
  rintro e w1 ⟨rfl, hb1⟩
  go_wp2_with fail
  refine (FW.out w1 hb1).mono ?_
  rintro e w2 hh
  obtain ⟨hb2, A2, c2, rfl, hc2, hr2⟩ := hh.open
  have B2 := under hb1 hb2
  have BC := Lib.hid (bcheck_any m (by omega) _ w2 hr2)
  have CK := Lib.hid (fun W (hb : Below w2.heap.size w2 W) => cut_any m (by omega) _ W (hr2.below hb))
  clear hh hb1 hb2 WK FW
  cases gk : okD m
  · rw [gk] at BC
    simp only [Bool.false_eq_true, if_false] at BC
    have E : codeK m = 180 := by simp [codeK, gk]
    rw [E] at CK
    clear gk E
    go_wp2_with fail
    refine BC.out.mono ?_
    rintro e w3 ⟨rfl, hb3⟩
    go_wp2_with fail
    refine (CK.out w3 hb3).mono ?_
    rintro e w4 hh
    obtain ⟨hb4, A4, c4, rfl, _⟩ := hh.open
    clear hh
    go_wp2_with fail
    go_ret
    exact ⟨rfl, under (under B2 hb3) hb4⟩
  rw [gk] at BC
  simp only [if_true] at BC
  obtain ⟨hm1, hm2, hR⟩ := okD_facts gk
  rw [show cutR m = cutD m by simp [cutR, gk], show codeK m = 0 by simp [codeK, gk]] at CK
  have hP1 : 1 ≤ (cutD m).length := by
    rw [cutD_length, cutN_next (okD_ne gk)]
    simp
  have hP2 : (cutD m).length ≤ 256 := by have := cutN_length m; rw [cutD_length]; omega
  have H2 := Lib.hid hr2
  have HGK := Lib.hid gk
  clear gk hR hr2
  go_wp2_with fail
  refine BC.out.mono ?_
  rintro e w3 ⟨rfl, hb3⟩
  go_wp2_with fail
  refine (CK.out w3 hb3).mono ?_
  rintro e w4 hh
  obtain ⟨hb4, A4, c4, rfl, hr4⟩ := hh.open
  have hb24 := under hb3 hb4
  have H4 := Lib.hid (H2.out.below hb24)
  have B4 := under B2 hb24
  have HC4 := Lib.hid hr4.at.2.2
  have HCA := Lib.hid (fun k q => @cutD_at m q k)
  obtain ⟨P, hP⟩ : ∃ P, P = (cutD m).length := ⟨_, rfl⟩
  have HPL := Lib.hid hP
  rw [← hP] at hP1 hP2 hr4 ⊢
  have hPne : ¬ (P : Int) = 0 := by omega
  clear hh hb3 hb4 hb24 BC CK H2 hr4 hP
  go_wp2_with fail
  simp only [show ((P : Int) == 0) = false from beq_eq_false_iff_ne.2 hPne]
  go_loopw [8, 46] (fun o i wr => ∃ (k q n : Nat) (A' : Option Addr) (c' : Nat), o = .slice A' n c' ∧ i = .int .i64 q ∧ q ≤ P ∧ Hid (k ≤ m.length) ∧ Hid (n = m.length - k) ∧ n ≤ 256 ∧ n ≤ c' ∧ Hid ((cutN m).drop q = cutN (m.drop k)) ∧ Hid (ReadsD wr (.slice A' n c') (m.drop k)) ∧ Hid (Below w4.heap.size w4 wr) ∧ Below w.heap.size w wr) (fun _ i _ => P - (intOf i).toNat)
  case atStart => exact ⟨0, 0, m.length, A2, c2, rfl, rfl, by omega, Lib.hid (by omega), Lib.hid (by omega), by omega, hc2, Lib.hid (by simp), Lib.hid (by simpa using H4.out), Lib.hid (Below.refl _ _), B4⟩
  case round =>
    obtain ⟨k, q, n, A', c', rfl, rfl, hq, hk, hn, hn2, hnc, hC, hD, hW, hB⟩ := hrel
    clear H4 B4
    by_cases gq : q < P
    · obtain ⟨hne, hcq, hC2⟩ := HCA.out k q hC.out (by rw [← HPL.out]; exact gq)
      have hokr : okD (m.drop k) = true := okD_drop HGK.out (by
        by_cases g : k < m.length
        · exact g
        · exact absurd (List.drop_eq_nil_of_le (by omega)) hne)
      have hrl : (m.drop k).length = n := by rw [List.length_drop]; exact hn.out.symm
      obtain ⟨N, hN⟩ : ∃ N, N = (firstD (m.drop k)).n := ⟨_, rfl⟩
      rw [← hN] at hcq hC2
      obtain ⟨t1, t2, t3, t4, t5, t6, t7⟩ := part_told hokr hN
      obtain ⟨bc, offc, e4, hbw, hc1⟩ := HC4.out q _ hcq
      subst e4
      have c1 := (hW.out.cell (p := ⟨bc, offc + q, none⟩) hbw).trans hc1
      rw [hrl] at t2 t7
      obtain ⟨bb, off, rfl, hr1, hr0⟩ := hD.out.rest (X := N) hn.out t2 t1
      obtain ⟨p1, p2⟩ := places hn.out (X := N) t2 hk.out
      have HF := Lib.hid (fun W (hb : Below wr.heap.size wr W) => fitA_any ((m.drop k).take N) (by rw [List.length_take]; omega) _ W ((hD.out.below hb).front N (by omega)))
      have HL := Lib.hid (fun W (hb : Below wr.heap.size wr W) => longest_any (m.drop k) (by omega) _ W (hD.out.below hb))
      have HT := Lib.hid (fun W (hb : Below wr.heap.size wr W) => through_any ((m.drop k).take N) (by rw [List.length_take]; omega) (fitD ((m.drop k).take N)) _ W ((hD.out.below hb).front N (by omega)))
      rw [t4] at HF
      rw [t5] at HT
      rw [t6, hokr] at HL
      simp only [if_true] at HL
      have HN2 := Lib.hid (And.intro p1 (And.intro p2 hC2))
      have HR1 := Lib.hid hr1
      have HR0 := Lib.hid hr0
      generalize fitD ((m.drop k).take N) = x at *
      have i1 : (q : Int) < (P : Int) := by omega
      have i0 : (0 : Int) ≤ (q : Int) := by omega
      have n0 : (1 : Int) ≤ (N : Int) := by omega
      have n1 : (N : Int) ≤ (n : Int) := by omega
      have n2 : (N : Int) ≤ (c' : Int) := by omega
      by_cases gN : N < n
      · obtain ⟨t8, t9⟩ := t7 gN
        have HF2 := Lib.hid (fun W (hb : Below wr.heap.size wr W) => fitA_any ((m.drop k).take (N + 1)) (by rw [List.length_take]; omega) _ W ((hD.out.below hb).front (N + 1) (by omega)))
        rw [t9] at HF2
        generalize fitD ((m.drop k).take (N + 1)) = y at *
        have n3 : (N : Int) < (n : Int) := by omega
        have n4 : (N : Int) + 1 ≤ (n : Int) := by omega
        have n5 : (N : Int) + 1 ≤ (c' : Int) := by omega
        have hcx : ¬ c' = N := by omega
        clear hne hcq hC2 hokr hN t1 t2 t3 t4 t5 t6 t7 t8 t9 hr1 hr0 p1 p2 hc1 hrl
        go_wp2_with fail
        refine (HF.out wr (Below.refl _ _)).mono ?_
        rintro e w5 ⟨rfl, hb5⟩
        go_wp2_with fail
        refine (HL.out w5 hb5).mono ?_
        rintro e w6 ⟨rfl, hb6⟩
        replace hb6 := under hb5 hb6
        go_wp2_with fail
        refine (HT.out w6 hb6).mono ?_
        rintro e w7 ⟨rfl, hb7⟩
        replace hb7 := under hb6 hb7
        go_wp2_with fail
        refine (HF2.out w7 hb7).mono ?_
        rintro e w8 ⟨rfl, hb8⟩
        replace hb8 := under hb7 hb8
        have hr9 := Lib.hid (HR1.out.below hb8)
        have hw9 := Lib.hid (under hW.out hb8)
        go_wp2_with fail
        go_roundw
        case rel => exact ⟨k + N, q + 1, n - N, _, c' - N, rfl, by simp, gq, Lib.hid HN2.out.2.1, Lib.hid HN2.out.1, by omega, by omega, Lib.hid HN2.out.2.2, hr9, hw9, under hB hb8⟩
        case measure => exact index_less gq
      · have n3 : ¬ (N : Int) < (n : Int) := by omega
        clear hne hcq hC2 hokr hN t1 t2 t3 t4 t5 t6 t7 hr1 hr0 p1 p2 hc1 hrl
        go_wp2_with fail
        refine (HF.out wr (Below.refl _ _)).mono ?_
        rintro e w5 ⟨rfl, hb5⟩
        go_wp2_with fail
        refine (HL.out w5 hb5).mono ?_
        rintro e w6 ⟨rfl, hb6⟩
        replace hb6 := under hb5 hb6
        go_wp2_with fail
        refine (HT.out w6 hb6).mono ?_
        rintro e w7 ⟨rfl, hb7⟩
        replace hb7 := under hb6 hb7
        by_cases hcx : c' = N
        · skip
          have hr9 := Lib.hid ((HR0.out hcx).below hb7)
          have hw9 := Lib.hid (under hW.out hb7)
          go_wp2_with fail
          go_roundw
          case rel => exact ⟨k + N, q + 1, n - N, _, 0, rfl, by simp, gq, Lib.hid HN2.out.2.1, Lib.hid HN2.out.1, by omega, by omega, Lib.hid HN2.out.2.2, hr9, hw9, under hB hb7⟩
          case measure => exact index_less gq
        · skip
          have hr9 := Lib.hid (HR1.out.below hb7)
          have hw9 := Lib.hid (under hW.out hb7)
          go_wp2_with fail
          go_roundw
          case rel => exact ⟨k + N, q + 1, n - N, _, c' - N, rfl, by simp, gq, Lib.hid HN2.out.2.1, Lib.hid HN2.out.1, by omega, by omega, Lib.hid HN2.out.2.2, hr9, hw9, under hB hb7⟩
          case measure => exact index_less gq
    · have i1 : ¬ (q : Int) < (P : Int) := by omega
      have hn0 : n = 0 := by
        have h1 : m.drop k = [] := cutN_none (by rw [← hC.out]; exact List.drop_eq_nil_of_le (by have := HPL.out; rw [cutD_length] at this; omega))
        have h2 := congrArg List.length h1
        rw [List.length_drop] at h2
        have := hn.out
        simp at h2
        omega
      subst hn0
      go_wp2_with fail
      go_ret
      exact ⟨rfl, hB⟩
end Go.Proofs.Ytmkminaipeodnaa.P8
