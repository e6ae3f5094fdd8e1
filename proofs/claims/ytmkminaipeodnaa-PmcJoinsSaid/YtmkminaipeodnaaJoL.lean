/-
  Layer 8: the law PmcJoins's walk. Conditions: those written at each fact.
-/
import Derived.Test.YtmkminaipeodnaaMaC
namespace Go.Proofs.Ytmkminaipeodnaa.P8
open Go.RowKit Go.Shelf

theorem rest_place {cut : Int} {n : Nat} (hn : 2 ≤ n) (hn2 : n ≤ 256) : ∃ K : Nat, 1 ≤ K ∧ K < n ∧ wrap64 (1 + cut % ((n : Int) - 1)) = (K : Int) := by
  have h1 := Int.emod_nonneg cut (show (n : Int) - 1 ≠ 0 by omega)
  have h2 := Int.emod_lt_of_pos cut (show (0 : Int) < (n : Int) - 1 by omega)
  generalize cut % ((n : Int) - 1) = r at *
  refine ⟨(1 + r).toNat, by omega, by omega, ?_⟩
  rw [i64_keeps (by omega) (by omega)]
  omega
theorem joins_facts {m : List Bd} (hR : ∀ b ∈ m, BdOk b) (K : Nat) (hK : K < m.length) (hm : m.length ≤ 256) :
    ((cutD m).length : Int) ≤ ((cutD (m.take K)).length : Int) + ((cutD (m.drop K)).length : Int) ∧ ((cutD (m.take K)).length : Int) ≤ ((cutD m).length : Int) ∧ ((cutD (m.drop K)).length : Int) ≤ ((cutD m).length : Int) ∧
      ((cutD (m.take K)).length : Int) + ((cutD (m.drop K)).length : Int) ≤ ((cutD m).length : Int) + 1 ∧ ((cutD m).length : Int) ≤ 256 := by
  obtain ⟨j1, j2, j3, j4⟩ := joins hR K (by omega)
  have j5 := cutN_length m
  rw [cutD_length, cutD_length, cutD_length]
  omega
set_option maxRecDepth 100000 in
set_option maxHeartbeats 2000000 in
theorem joins_any (l : List Bd) (hl : l.length ≤ 9223372036854775807) (cut : Int) (v : Value) (w : World) (h : ReadsD w v l) : Calls Try.prog 9 #[v, .int .i64 cut] w (Ret w (.bool true)) := by
  have WK := Lib.hid wakes_any
  have FW := Lib.hid (fun W (hb : Below w.heap.size w W) => few_any l hl v W (h.below hb))
  obtain ⟨A, c, rfl, _, _⟩ := h
  have hml : (l.take 257).length ≤ 257 := by rw [List.length_take]; omega
  generalize l.take 257 = m at *
  go_enter Try.func9, Try.ntmps9
  go_wp2_with fail
  refine (WK.out _).mono ?_
  rintro e w1 ⟨rfl, hb1⟩
  go_wp2_with fail
  refine (FW.out w1 hb1).mono ?_
  rintro e w2 hh
  obtain ⟨hb2, A2, c2, rfl, hc2, hr2⟩ := hh.open
  have B2 := Lib.hid (under hb1 hb2)
  have H2 := Lib.hid hr2
  have BC := Lib.hid (bcheck_any m (by omega) _ w2 hr2)
  clear hh hb1 hb2 WK FW hr2
  cases gk : okD m
  · rw [gk] at BC
    simp only [Bool.false_eq_true, if_false] at BC
    clear gk
    go_wp2_with fail
    refine BC.out.mono ?_
    rintro e w3 ⟨rfl, hb3⟩
    go_wp2_with fail
    go_ret
    exact ⟨rfl, under B2.out hb3⟩
  rw [gk] at BC
  simp only [if_true] at BC
  obtain ⟨hm1, hm2, hR⟩ := okD_facts gk
  by_cases g2 : (m.length : Int) < 2
  · clear gk hR
    go_wp2_with fail
    refine BC.out.mono ?_
    rintro e w3 ⟨rfl, hb3⟩
    go_wp2_with fail
    go_ret
    exact ⟨rfl, under B2.out hb3⟩
  obtain ⟨bb, off, rfl⟩ := readsD_some H2.out (okD_ne gk)
  have hmc : (m.length : Int) ≤ (c2 : Int) := by omega
  by_cases gc : cut < 0
  · go_wp2_with fail
    refine BC.out.mono ?_
    rintro e w3 ⟨rfl, hb3⟩
    have k1 : (1 : Int) ≤ (m.length : Int) := by omega
    have k2 : (1 : Int) ≤ (c2 : Int) := by omega
    go_wp2_with fail
    have HC := Lib.hid (fun W (hb : Below w2.heap.size w2 W) => cutOk_any gk _ W (H2.out.below hb))
    have HA := Lib.hid (fun W (hb : Below w2.heap.size w2 W) => cutOk_any (okD_take gk (k := 1) (by omega)) _ W ((H2.out.below hb).front 1 (by omega)))
    have HB := Lib.hid (fun W (hb : Below w2.heap.size w2 W) => cutOk_any (okD_drop gk (k := 1) (by omega)) _ W ((H2.out.below hb).back 1 (by omega)))
    obtain ⟨j1, j2, j3, j4, j5⟩ := joins_facts hR 1 (by omega) hm2
    clear gk hR
    generalize m.take 1 = mt at *
    generalize m.drop 1 = md at *
    refine (HC.out w3 hb3).mono ?_
    rintro e w4 hh
    obtain ⟨hb4, A4, c4, rfl, _⟩ := hh.open
    replace hb4 := under hb3 hb4
    clear hh
    go_wp2_with fail
    refine (HA.out w4 hb4).mono ?_
    rintro e w5 hh
    obtain ⟨hb5, A5, c5, rfl, _⟩ := hh.open
    replace hb5 := under hb4 hb5
    clear hh
    go_wp2_with fail
    refine (HB.out w5 hb5).mono ?_
    rintro e w6 hh
    obtain ⟨hb6, A6, c6, rfl, _⟩ := hh.open
    replace hb6 := under hb5 hb6
    clear hh
    go_wp2_with fail
    go_ret
    exact ⟨rfl, under B2.out hb6⟩
  · obtain ⟨K, hK1, hK2, hKm⟩ := rest_place (cut := cut) (n := m.length) (by omega) hm2
    go_wp2_with fail
    refine BC.out.mono ?_
    rintro e w3 ⟨rfl, hb3⟩
    have k0 : (0 : Int) ≤ (K : Int) := by omega
    have k1 : (K : Int) ≤ (m.length : Int) := by omega
    have k2 : (K : Int) ≤ (c2 : Int) := by omega
    go_wp2_with fail
    rw [hKm]
    have HC := Lib.hid (fun W (hb : Below w2.heap.size w2 W) => cutOk_any gk _ W (H2.out.below hb))
    have HA := Lib.hid (fun W (hb : Below w2.heap.size w2 W) => cutOk_any (okD_take gk (k := K) (by omega)) _ W ((H2.out.below hb).front K (by omega)))
    have HB := Lib.hid (fun W (hb : Below w2.heap.size w2 W) => cutOk_any (okD_drop gk (k := K) (by omega)) _ W ((H2.out.below hb).back K (by omega)))
    obtain ⟨j1, j2, j3, j4, j5⟩ := joins_facts hR K (by omega) hm2
    clear gk hR hKm
    generalize m.take K = mt at *
    generalize m.drop K = md at *
    refine (HC.out w3 hb3).mono ?_
    rintro e w4 hh
    obtain ⟨hb4, A4, c4, rfl, _⟩ := hh.open
    replace hb4 := under hb3 hb4
    clear hh
    go_wp2_with fail
    refine (HA.out w4 hb4).mono ?_
    rintro e w5 hh
    obtain ⟨hb5, A5, c5, rfl, _⟩ := hh.open
    replace hb5 := under hb4 hb5
    clear hh
    go_wp2_with fail
    refine (HB.out w5 hb5).mono ?_
    rintro e w6 hh
    obtain ⟨hb6, A6, c6, rfl, _⟩ := hh.open
    replace hb6 := under hb5 hb6
    clear hh
    go_wp2_with fail
    go_ret
    exact ⟨rfl, under B2.out hb6⟩
end Go.Proofs.Ytmkminaipeodnaa.P8
