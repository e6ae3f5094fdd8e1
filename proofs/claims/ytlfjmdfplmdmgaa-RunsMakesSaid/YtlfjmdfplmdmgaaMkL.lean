/-
  Layer 7: the law RunsMakes holds of every input. Conditions: those of the law's row.
-/
import Derived.Test.YtlfjmdfplmdmgaaRfB
import Derived.Test.YtlfjmdfplmdmgaaBackL
namespace Go.Proofs.Ytlfjmdfplmdmgaa
open Go.RowKit Go.Shelf

set_option maxRecDepth 100000 in
set_option maxHeartbeats 4000000 in
theorem makes_good (w : World) (ad : Addr) (n c N : Nat) (T : List Int) (hm : min (n : Int) 260 = (N : Int)) (hNc : N ≤ c) (hN : N ≤ 260) (hTN : T.length = N) (hR : Reads .i64 w (.slice (some ad) N c) T) (hA : areB T = true) (WK : Hid (Calls Try.prog 11 #[] w (Ret w (.bool true)))) : Calls Try.prog 4 #[.slice (some ad) n c] w (Ret w (.bool true)) := by
  obtain ⟨i0, hi, hz0, hz1, hz2⟩ := info_parts infoI64
  have HTN := Lib.hid hTN
  have HR := Lib.hid hR
  have n1 : (N : Int) ≤ (c : Int) := by omega
  have n2 : (0 : Int) ≤ (N : Int) := by omega
  have OF2 := good_of hA (by omega)
  have RI : Hid (∀ v W, Reads .i64 W v T → Calls Try.prog 21 #[v] W (Ret W (.bool true))) := Lib.hid (fun v W hr => by have := refRising_any T (by omega) v W hr; rwa [hA] at this)
  have RO := Lib.hid (fun v W hr => refOf_any T hA v W hr)
  have hl2 := (okB_facts (laid_are hA).1).2.2.2
  generalize laidR T = L at *
  have EQ := Lib.hid (fun v u W h1 h2 => equalR L (by omega) v u W h1 h2)
  have EI := good_eq (T := T) (by omega)
  clear hA
  go_enter Try.func4, Try.ntmps4
  go_wp2_with fail
  refine WK.out.mono ?_
  rintro e w1 ⟨rfl, hb1⟩
  go_wp2_with (at_builtin; refine wpList_append_own _ rfl _ _ 26 rfl w1.heap.size 2 i0 (.int .i64 0) 1 8 Try.underlying26 hi hz0 hz1 hz2 rfl (by decide) _ _ _ rfl (World.ownsRow_made w1 #[] 0 (Nat.le_refl _) (Nat.zero_le _) rfl) ad N c (T.map (Value.int .i64)) rfl ?qc1 ?qc2 ?qc3 ?qc4 ?qc5 ?qc6 ?_)
  case qc1 => rw [List.length_map, HTN.out]; simp
  case qc2 => exact reads_addI (HR.out.below (hb1.trans ((below_alloc w1 _).mono hb1.size)))
  case qc3 => exact ints_one T
  case qc4 => unfold maxLen; omega
  case qc5 => omega
  case qc6 => simp
  intro v2 w2 hown hgrow _
  have hb12 : Below w1.heap.size w1 w2 := ((Below.refl _ w1).alloc (Nat.le_refl _) _).grown hgrow (by simp) (by intro k hk; simp [Value.ownBlock] at hk; omega)
  have hO2 : RowI w1.heap.size T v2 w2 := by unfold RowI; rw [HTN.out]; simpa using hown
  have hB2 := under hb1 hb12
  clear hown hgrow hb12
  have hr2 := reads_own (k := .i64) hO2
  obtain ⟨A2, c2, rfl, hc2, hk2⟩ := id hr2
  rw [hTN] at hr2 hc2 ⊢
  have R2 := Lib.hid hr2
  have S2 := Lib.hid (HR.out.below hB2)
  clear hr2 hk2 hO2 WK HR hR
  go_wp2_with fail
  refine (OF2.out _ _ R2.out).mono ?_
  rintro e w3 ⟨u, rfl, hb3, ho3⟩
  have hr3 := readsR_own ho3
  obtain ⟨A3, c3, rfl, _⟩ := id hr3
  have R3 := Lib.hid hr3
  have R23 := Lib.hid (R2.out.below hb3)
  have S3 := Lib.hid (S2.out.below hb3)
  have hB3 := under hB2 hb3
  clear hr3 ho3 hb3
  go_wp2_with fail
  refine (RI.out _ _ R23.out).mono ?_
  rintro e w4 ⟨rfl, hb4⟩
  have R34 := Lib.hid (R3.out.below hb4)
  have R24 := Lib.hid (R23.out.below hb4)
  have S4 := Lib.hid (S3.out.below hb4)
  have hB4 := under hB3 hb4
  clear hb4 hB3 hB2 R3 R23 R2 S3 S2
  go_wp2_with fail
  refine (RO.out _ _ R24.out).mono ?_
  rintro e w5 ⟨u5, rfl, hb5, ho5⟩
  have R5 := Lib.hid (readsR_own ho5)
  have R35 := Lib.hid (R34.out.below hb5)
  have R25 := Lib.hid (R24.out.below hb5)
  have S5 := Lib.hid (S4.out.below hb5)
  have hB5 := under hB4 hb5
  clear hb5 ho5 hB4 R34 R24 S4
  go_wp2_with fail
  refine (EQ.out _ _ _ R35.out R5.out).mono ?_
  rintro e w6 ⟨rfl, hb6⟩
  have R26 := Lib.hid (R25.out.below hb6)
  have S6 := Lib.hid (S5.out.below hb6)
  have hB6 := under hB5 hb6
  clear hb6 hB5 R25 S5
  go_wp2_with fail
  refine (EI.out _ _ _ R26.out S6.out).mono ?_
  rintro e w7 ⟨rfl, hb7⟩
  go_wp2_with fail
  go_ret
  exact ⟨rfl, under hB6 hb7⟩
set_option maxRecDepth 100000 in
set_option maxHeartbeats 4000000 in
theorem makes_bad (w : World) (ad : Addr) (n c N : Nat) (T : List Int) (hm : min (n : Int) 260 = (N : Int)) (hNc : N ≤ c) (hN : N ≤ 260) (hTN : T.length = N) (hR : Reads .i64 w (.slice (some ad) N c) T) (hA : areB T = false) (WK : Hid (Calls Try.prog 11 #[] w (Ret w (.bool true)))) : Calls Try.prog 4 #[.slice (some ad) n c] w (Ret w (.bool true)) := by
  obtain ⟨i0, hi, hz0, hz1, hz2⟩ := info_parts infoI64
  have HTN := Lib.hid hTN
  have HR := Lib.hid hR
  have n1 : (N : Int) ≤ (c : Int) := by omega
  have n2 : (0 : Int) ≤ (N : Int) := by omega
  have OF2 : Hid (∀ v W, Reads .i64 W v T → Calls Try.prog 20 #[v] W (ErrR W 2)) := Lib.hid (fun v W hr => (ofA_any T (by omega) v W hr).mono fun e w' hh => by have := res_err hh (by rw [hA]; decide); rwa [hA] at this)
  have RI : Hid (∀ v W, Reads .i64 W v T → Calls Try.prog 21 #[v] W (Ret W (.bool false))) := Lib.hid (fun v W hr => by have := refRising_any T (by omega) v W hr; rwa [hA] at this)
  clear hA
  go_enter Try.func4, Try.ntmps4
  go_wp2_with fail
  refine WK.out.mono ?_
  rintro e w1 ⟨rfl, hb1⟩
  go_wp2_with (at_builtin; refine wpList_append_own _ rfl _ _ 26 rfl w1.heap.size 2 i0 (.int .i64 0) 1 8 Try.underlying26 hi hz0 hz1 hz2 rfl (by decide) _ _ _ rfl (World.ownsRow_made w1 #[] 0 (Nat.le_refl _) (Nat.zero_le _) rfl) ad N c (T.map (Value.int .i64)) rfl ?qc1 ?qc2 ?qc3 ?qc4 ?qc5 ?qc6 ?_)
  case qc1 => rw [List.length_map, HTN.out]; simp
  case qc2 => exact reads_addI (HR.out.below (hb1.trans ((below_alloc w1 _).mono hb1.size)))
  case qc3 => exact ints_one T
  case qc4 => unfold maxLen; omega
  case qc5 => omega
  case qc6 => simp
  intro v2 w2 hown hgrow _
  have hb12 : Below w1.heap.size w1 w2 := ((Below.refl _ w1).alloc (Nat.le_refl _) _).grown hgrow (by simp) (by intro k hk; simp [Value.ownBlock] at hk; omega)
  have hO2 : RowI w1.heap.size T v2 w2 := by unfold RowI; rw [HTN.out]; simpa using hown
  have hB2 := under hb1 hb12
  clear hown hgrow hb12
  have R2 := Lib.hid (reads_own (k := .i64) hO2)
  clear hO2 WK HR hR
  go_wp2_with fail
  refine (OF2.out _ _ R2.out).mono ?_
  rintro e w3 ⟨rfl, hb3⟩
  have R23 := Lib.hid (R2.out.below hb3)
  have hB3 := under hB2 hb3
  go_wp2_with fail
  refine (RI.out _ _ R23.out).mono ?_
  rintro e w4 ⟨rfl, hb4⟩
  have hB4 := under hB3 hb4
  go_wp2_with fail
  go_ret
  exact ⟨rfl, hB4⟩
set_option maxRecDepth 100000 in
set_option maxHeartbeats 1000000 in
theorem makes_any (l : List Int) (hl : l.length ≤ 9223372036854775807) (v : Value) (w : World) (h : Reads .i64 w v l) : Calls Try.prog 4 #[v] w (Ret w (.bool true)) := by
  have WK := Lib.hid (wakes_any w)
  have hh := h
  obtain ⟨A, c, rfl, hc, hk⟩ := h
  cases A with
  | none =>
    have e : l = [] := by
      cases l with
      | nil => rfl
      | cons x l' =>
        obtain ⟨b, off, e1, _⟩ := hk 0 x rfl
        cases e1
    subst e
    have OF2 : Hid (∀ v W, Reads .i64 W v [] → Calls Try.prog 20 #[v] W (ErrR W 2)) := Lib.hid (fun v W hr => (ofA_any [] (by simp) v W hr).mono fun e w' hh => by have := res_err hh (by rw [are_nil]; decide); rwa [are_nil] at this)
    have RI : Hid (∀ v W, Reads .i64 W v [] → Calls Try.prog 21 #[v] W (Ret W (.bool false))) := Lib.hid (fun v W hr => by have := refRising_any [] (by simp) v W hr; rwa [are_nil] at this)
    clear hk hh
    go_enter Try.func4, Try.ntmps4
    go_wp2_with fail
    refine WK.out.mono ?_
    rintro e w1 ⟨rfl, hb1⟩
    go_wp2_with fail
    refine (OF2.out _ _ (show Reads .i64 _ _ [] from ⟨_, _, rfl, Nat.zero_le _, fun i z hi => by simp at hi⟩)).mono ?_
    rintro e w3 ⟨rfl, hb3⟩
    go_wp2_with fail
    refine (RI.out _ _ (show Reads .i64 _ _ [] from ⟨_, _, rfl, Nat.zero_le _, fun i z hi => by simp at hi⟩)).mono ?_
    rintro e w4 ⟨rfl, hb4⟩
    go_wp2_with fail
    go_ret
    exact ⟨rfl, under (under hb1 (past1 hb3)) hb4⟩
  | some ad =>
    obtain ⟨N, hN⟩ : ∃ N, N = min l.length 260 := ⟨_, rfl⟩
    have hm : min (l.length : Int) 260 = (N : Int) := by omega
    have hT : (l.take N).length = N := by rw [List.length_take]; omega
    have hR := reads_takeI hh N (by omega)
    cases gk : areB (l.take N)
    · exact makes_bad w ad l.length c N (l.take N) hm (by omega) (by omega) hT hR gk WK
    · exact makes_good w ad l.length c N (l.take N) hm (by omega) (by omega) hT hR gk WK
end Go.Proofs.Ytlfjmdfplmdmgaa
