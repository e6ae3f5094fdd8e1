/-
  The walk of the law SpanSums. Conditions: those written at each fact.
-/
import Derived.Test.YtmnndbafljngiaaSuA
import Derived.Test.YtmnndbafljngiaaSuB
namespace Go.Proofs.Ytmnndbafljngiaa
open Go.RowKit

theorem betw_of (x y : Int) (q0 q1 : Int) (b : Bool) (h : okZ x ∧ okZ y ∧ q0 = x ∧ q1 = y ∧ b = true ∨ ¬ (okZ x ∧ okZ y) ∧ q0 = 0 ∧ q1 = 0 ∧ b = false) :
    ∃ cd, betw x y = .tuple #[spV q0 q1, .int .i64 cd] ∧ (b = false ∧ q0 = 0 ∧ q1 = 0 ∧ cd = 5 ∨ b = true ∧ cd = 0) := by
  have z1 := rr_zero x
  have z2 := rr_zero y
  unfold betw
  rcases h with ⟨k1, k2, rfl, rfl, rfl⟩ | ⟨k, rfl, rfl, rfl⟩
  · rw [if_pos ⟨z1.2 k1, z2.2 k2⟩]
    exact ⟨0, rfl, .inr ⟨rfl, rfl⟩⟩
  · rw [if_neg (fun h => k ⟨z1.1 h.1, z2.1 h.2⟩)]
    exact ⟨5, rfl, .inl ⟨rfl, rfl, rfl, rfl⟩⟩
theorem times_pair (x y n : Int) (x1 : -9223372036854775808 ≤ x) (x2 : x ≤ 9223372036854775807) (y1 : -9223372036854775808 ≤ y) (y2 : y ≤ 9223372036854775807) (n1 : -9223372036854775808 ≤ n) (n2 : n ≤ 9223372036854775807) :
    ∃ t0 t1 tc r0 r1 rb, (∀ W, Calls Try.prog 36 #[spV x y, .int .i64 n] W (Ret W (.tuple #[spV t0 t1, .int .i64 tc]))) ∧ (∀ W, Calls Try.prog 37 #[spV x y, .int .i64 n] W (Ret W (.tuple #[spV r0 r1, .bool rb]))) ∧
      (y < x ∧ t0 = 0 ∧ t1 = 0 ∧ tc = 140 ∨ ¬ y < x ∧ rb = false ∧ t0 = 0 ∧ t1 = 0 ∧ tc = 5 ∨ ¬ y < x ∧ rb = true ∧ tc = 0 ∧ t0 = r0 ∧ t1 = r1) := by
  have lx := i64_len x x1 x2
  have ly := i64_len y y1 y2
  have ln := i64_len n n1 n2
  have mx := mul_len x n lx ln
  have my := mul_len y n ly ln
  have TM := fun W => times_any x y n x1 x2 y1 y2 n1 n2 W
  obtain ⟨r0, r1, rb, hr, OF⟩ := ofZ_any (if n < 0 then y * n else x * n) (if n < 0 then x * n else y * n) (by split <;> omega) (by split <;> omega)
  have RT := fun W => refTimes_any x y n x1 x2 y1 y2 n1 n2 r0 r1 rb OF W
  obtain ⟨cd, hb, hc⟩ := betw_of _ _ _ _ _ hr
  have ht : timesR x y n = if y < x then .tuple #[spV 0 0, .int .i64 140] else .tuple #[spV r0 r1, .int .i64 cd] := by
    unfold timesR
    split
    · rfl
    · rw [← hb]
      split <;> rfl
  rw [ht] at TM
  by_cases g : y < x
  · rw [if_pos g] at TM
    exact ⟨0, 0, 140, r0, r1, rb, TM, RT, .inl ⟨g, rfl, rfl, rfl⟩⟩
  · rw [if_neg g] at TM
    rcases hc with ⟨rfl, rfl, rfl, rfl⟩ | ⟨rfl, rfl⟩
    · exact ⟨0, 0, 5, 0, 0, false, TM, RT, .inr (.inl ⟨g, rfl, rfl, rfl, rfl⟩)⟩
    · exact ⟨r0, r1, 0, r0, r1, true, TM, RT, .inr (.inr ⟨g, rfl, rfl, rfl, rfl⟩)⟩
theorem plus_pair (P : List (Int × Int)) (hok : OkS P) (hl : P.length ≤ 10000000) :
    ∃ t0 t1 tc r0 r1 rb, (∀ v W, ReadsS W v P → Calls Try.prog 33 #[v] W (Ret W (.tuple #[spV t0 t1, .int .i64 tc]))) ∧ (∀ v W, ReadsS W v P → Calls Try.prog 34 #[v] W (Ret W (.tuple #[spV r0 r1, .bool rb]))) ∧
      (badS P = true ∧ t0 = 0 ∧ t1 = 0 ∧ tc = 140 ∨ badS P = false ∧ rb = false ∧ t0 = 0 ∧ t1 = 0 ∧ tc = 5 ∨ badS P = false ∧ rb = true ∧ tc = 0 ∧ t0 = r0 ∧ t1 = r1) := by
  have sl := sum_len hok hl
  have PL := fun v W k => plus_any P hok hl v W k
  obtain ⟨r0, r1, rb, hr, OF⟩ := ofZ_any (sumS P).1 (sumS P).2 (by omega) (by omega)
  have RP := fun v W k => refPlus_any P hok hl r0 r1 rb OF v W k
  obtain ⟨cd, hb, hc⟩ := betw_of _ _ _ _ _ hr
  unfold plusR at PL
  cases g : badS P with
  | true =>
    rw [g, if_pos rfl] at PL
    exact ⟨0, 0, 140, r0, r1, rb, PL, RP, .inl ⟨rfl, rfl, rfl, rfl⟩⟩
  | false =>
    rw [g, if_neg (by simp), hb] at PL
    rcases hc with ⟨rfl, rfl, rfl, rfl⟩ | ⟨rfl, rfl⟩
    · exact ⟨0, 0, 5, 0, 0, false, PL, RP, .inr (.inl ⟨rfl, rfl, rfl, rfl, rfl⟩)⟩
    · exact ⟨r0, r1, 0, r0, r1, true, PL, RP, .inr (.inr ⟨rfl, rfl, rfl, rfl, rfl⟩)⟩

set_option maxRecDepth 100000 in
set_option maxHeartbeats 8000000 in
theorem sums_a (P : List (Int × Int)) (n : Nat) (hn : P.length = n) (hn2 : n ≤ 20) (hok : OkS P) (z : Int) (z1 : -9223372036854775808 ≤ z) (z2 : z ≤ 9223372036854775807) (q0 q1 : Int) (rb0 : Bool)
    (PL : ∀ v W, ReadsS W v P → Calls Try.prog 33 #[v] W (Ret W (.tuple #[spV 0 0, .int .i64 140]))) (RP : ∀ v W, ReadsS W v P → Calls Try.prog 34 #[v] W (Ret W (.tuple #[spV q0 q1, .bool rb0]))) (hbad : badS P = true)
    (v : Value) (w : World) (FE : ∀ W, Below w.heap.size w W → Calls Try.prog 24 #[v] W (MadeS W P)) :
    Calls Try.prog 5 #[v, .int .i64 z] w (Ret w (.bool true)) := by
  have WK := Lib.hid (fun W => wakes_any W)
  replace FE := Lib.hid FE
  have HLN := Lib.hid hn
  have HO := Lib.hid hok
  have AL := fun v W k => all_any P (by omega) v W k
  rw [hbad] at AL
  have QE := fun v v2 W r r2 => equalS P (by omega) v v2 W r r2
  replace AL := Lib.hid AL
  replace QE := Lib.hid QE
  replace PL := Lib.hid PL
  replace RP := Lib.hid RP
  have TP := Lib.hid (fun x y x1 x2 y1 y2 => times_pair x y z x1 x2 y1 y2 z1 z2)
  clear hn hok hbad z1 z2
  go_enter Try.func5, Try.ntmps5
  go_wp2_with fail
  refine (WK.out _).mono ?_
  rintro e w1 ⟨rfl, hb1⟩
  have HB1 := Lib.hid hb1
  clear hb1
  go_wp2_with fail
  refine (FE.out _ HB1.out).mono ?_
  rintro e w2 ⟨v2, rfl, hb2, ho2⟩
  have RS := readsS_own ho2
  obtain ⟨A, c, rfl, hrk⟩ := RS
  rw [HLN.out]
  have RK := Lib.hid hrk
  have R2 := Lib.hid (show ∀ W, Below w2.heap.size w2 W → ReadsS W (.slice A n c) P from fun W hW => by have := ReadsS.below (show ReadsS w2 (.slice A P.length c) P from ⟨A, c, rfl, hrk⟩) hW; rwa [HLN.out] at this)
  have HB2 := Lib.hid (under HB1.out hb2)
  have hHeld : Keeps w2 [] w2 := ⟨Below.refl _ _, trivial⟩
  clear hb2 ho2 hrk HB1 WK
  go_wp2_with fail
  refine (PL.out _ _ (R2.out _ hHeld.1)).mono ?_
  rintro e w3 ⟨rfl, hb⟩
  replace hHeld := hHeld.next hb
  clear hb
  go_wp2_with fail
  refine (RP.out _ _ (R2.out _ (hHeld.alloc _).1)).mono ?_
  rintro e w4 ⟨rfl, hb⟩
  replace hHeld : Keeps w2 [(w3.heap.size, 0, .int .i64 0), (w3.heap.size, 1, .int .i64 0)] w4 := Keeps.next ((hHeld.alloc (.cells #[.int .i64 0, .int .i64 0] 23)).app (newK2 (hHeld.alloc (.cells #[.int .i64 0, .int .i64 0] 23)))) hb
  clear hb
  obtain ⟨⟨kz0, kc0, kf0⟩, ⟨kz1, kc1, kf1⟩, _⟩ := hHeld.2
  go_wp2_with fail
  refine (AL.out _ _ (R2.out _ (hHeld.alloc _).1)).mono ?_
  rintro e w4b ⟨rfl, hb⟩
  replace hHeld : Keeps w2 [(w3.heap.size, 0, .int .i64 0), (w3.heap.size, 1, .int .i64 0), (w4.heap.size, 0, .int .i64 q0), (w4.heap.size, 1, .int .i64 q1)] w4b := Keeps.next ((hHeld.alloc (.cells #[.int .i64 q0, .int .i64 q1] 23)).app (newK2 (hHeld.alloc (.cells #[.int .i64 q0, .int .i64 q1] 23)))) hb
  clear hb kz0 kc0 kf0 kz1 kc1 kf1
  obtain ⟨⟨kz0, kc0, kf0⟩, ⟨kz1, kc1, kf1⟩, ⟨kz2, kc2, kf2⟩, ⟨kz3, kc3, kf3⟩, _⟩ := hHeld.2
  go_wp2_with fail
  have H0 : Keeps w2 [] w4b := ⟨hHeld.1, trivial⟩
  clear hHeld kz0 kc0 kf0 kz1 kc1 kf1 kz2 kc2 kf2 kz3 kc3 kf3 PL RP AL
  go_loopw [61] (fun i wr => ∃ k : Nat, i = .int .i64 k ∧ k ≤ n ∧ Keeps w2 [] wr) (fun i _ => n - (intOf i).toNat)
  case atStart => exact ⟨0, rfl, by omega, H0⟩
  case round =>
    obtain ⟨k, rfl, hkn, hHeld⟩ := hrel
    by_cases gk : k < n
    · obtain ⟨⟨x, y⟩, hs⟩ : ∃ s, P[k]? = some s := ⟨_, List.getElem?_eq_getElem (by have := HLN.out; omega)⟩
      obtain ⟨bb, off, rfl, hbw, e1, e2⟩ := RK.out k _ hs
      have c1 := (hHeld.1.cell (p := ⟨bb, off + k * 2, none⟩) hbw).trans e1
      have c2 := (hHeld.1.cell (p := ⟨bb, off + k * 2 + 1, none⟩) hbw).trans e2
      simp only at c1 c2
      obtain ⟨x1, x2, y1, y2⟩ := HO.out.at hs
      obtain ⟨t0, t1, tc, r0, r1, rb, TM, RT, hc⟩ := TP.out x y x1 x2 y1 y2
      replace TM := Lib.hid TM
      replace RT := Lib.hid RT
      have RI := fun W => right_any x y W
      have i1 : (k : Int) < (n : Int) := by omega
      have i0 : (0 : Int) ≤ (k : Int) := by omega
      clear e1 e2 hs x1 x2 y1 y2
      rcases hc with ⟨g, rfl, rfl, rfl⟩ | ⟨g, rfl, rfl, rfl, rfl⟩ | ⟨g, rfl, rfl, rfl, rfl⟩
      all_goals
        first | rw [decide_eq_false (by omega)] at RI | rw [decide_eq_true (by omega)] at RI
        replace RI := Lib.hid RI
        clear g
      · go_wp2_with fail
        refine (TM.out _).mono ?_
        rintro e w5 ⟨rfl, hb⟩
        have hR : Keeps w2 [(wr.heap.size, 0, .int .i64 x), (wr.heap.size, 1, .int .i64 y)] w5 := Keeps.next ((hHeld.alloc (.cells #[.int .i64 x, .int .i64 y] 23)).app (newK2 (hHeld.alloc (.cells #[.int .i64 x, .int .i64 y] 23)))) hb
        clear hb
        obtain ⟨⟨kz0, kc0, kf0⟩, ⟨kz1, kc1, kf1⟩, _⟩ := hR.2
        go_wp2_with fail
        refine (RT.out _).mono ?_
        rintro e w6 ⟨rfl, hb⟩
        replace hR : Keeps w2 [(wr.heap.size, 0, .int .i64 x), (wr.heap.size, 1, .int .i64 y), (w5.heap.size, 0, .int .i64 0), (w5.heap.size, 1, .int .i64 0)] w6 := Keeps.next ((hR.alloc (.cells #[.int .i64 0, .int .i64 0] 23)).app (newK2 (hR.alloc (.cells #[.int .i64 0, .int .i64 0] 23)))) hb
        clear hb kz0 kc0 kf0 kz1 kc1 kf1
        obtain ⟨⟨kz0, kc0, kf0⟩, ⟨kz1, kc1, kf1⟩, ⟨kz2, kc2, kf2⟩, ⟨kz3, kc3, kf3⟩, _⟩ := hR.2
        go_wp2_with fail
        refine (RI.out _).mono ?_
        rintro e w7 ⟨rfl, hb⟩
        replace hR : Keeps w2 [(wr.heap.size, 0, .int .i64 x), (wr.heap.size, 1, .int .i64 y), (w5.heap.size, 0, .int .i64 0), (w5.heap.size, 1, .int .i64 0), (w6.heap.size, 0, .int .i64 r0), (w6.heap.size, 1, .int .i64 r1)] w7 := Keeps.next ((hR.alloc (.cells #[.int .i64 r0, .int .i64 r1] 23)).app (newK2 (hR.alloc (.cells #[.int .i64 r0, .int .i64 r1] 23)))) hb
        clear hb kz0 kc0 kf0 kz1 kc1 kf1 kz2 kc2 kf2 kz3 kc3 kf3
        obtain ⟨⟨kz0, kc0, kf0⟩, ⟨kz1, kc1, kf1⟩, ⟨kz2, kc2, kf2⟩, ⟨kz3, kc3, kf3⟩, ⟨kz4, kc4, kf4⟩, ⟨kz5, kc5, kf5⟩, _⟩ := hR.2
        go_wp2_with fail
        go_roundw
        case rel => exact ⟨k + 1, by simp, by omega, hR.1, trivial⟩
        case measure => simp [intOf]; omega
      · go_wp2_with fail
        refine (TM.out _).mono ?_
        rintro e w5 ⟨rfl, hb⟩
        have hR : Keeps w2 [(wr.heap.size, 0, .int .i64 x), (wr.heap.size, 1, .int .i64 y)] w5 := Keeps.next ((hHeld.alloc (.cells #[.int .i64 x, .int .i64 y] 23)).app (newK2 (hHeld.alloc (.cells #[.int .i64 x, .int .i64 y] 23)))) hb
        clear hb
        obtain ⟨⟨kz0, kc0, kf0⟩, ⟨kz1, kc1, kf1⟩, _⟩ := hR.2
        go_wp2_with fail
        refine (RT.out _).mono ?_
        rintro e w6 ⟨rfl, hb⟩
        replace hR : Keeps w2 [(wr.heap.size, 0, .int .i64 x), (wr.heap.size, 1, .int .i64 y), (w5.heap.size, 0, .int .i64 0), (w5.heap.size, 1, .int .i64 0)] w6 := Keeps.next ((hR.alloc (.cells #[.int .i64 0, .int .i64 0] 23)).app (newK2 (hR.alloc (.cells #[.int .i64 0, .int .i64 0] 23)))) hb
        clear hb kz0 kc0 kf0 kz1 kc1 kf1
        obtain ⟨⟨kz0, kc0, kf0⟩, ⟨kz1, kc1, kf1⟩, ⟨kz2, kc2, kf2⟩, ⟨kz3, kc3, kf3⟩, _⟩ := hR.2
        go_wp2_with fail
        refine (RI.out _).mono ?_
        rintro e w7 ⟨rfl, hb⟩
        replace hR : Keeps w2 [(wr.heap.size, 0, .int .i64 x), (wr.heap.size, 1, .int .i64 y), (w5.heap.size, 0, .int .i64 0), (w5.heap.size, 1, .int .i64 0), (w6.heap.size, 0, .int .i64 r0), (w6.heap.size, 1, .int .i64 r1)] w7 := Keeps.next ((hR.alloc (.cells #[.int .i64 r0, .int .i64 r1] 23)).app (newK2 (hR.alloc (.cells #[.int .i64 r0, .int .i64 r1] 23)))) hb
        clear hb kz0 kc0 kf0 kz1 kc1 kf1 kz2 kc2 kf2 kz3 kc3 kf3
        obtain ⟨⟨kz0, kc0, kf0⟩, ⟨kz1, kc1, kf1⟩, ⟨kz2, kc2, kf2⟩, ⟨kz3, kc3, kf3⟩, ⟨kz4, kc4, kf4⟩, ⟨kz5, kc5, kf5⟩, _⟩ := hR.2
        go_wp2_with fail
        go_roundw
        case rel => exact ⟨k + 1, by simp, by omega, hR.1, trivial⟩
        case measure => simp [intOf]; omega
      · go_wp2_with fail
        refine (TM.out _).mono ?_
        rintro e w5 ⟨rfl, hb⟩
        have hR : Keeps w2 [(wr.heap.size, 0, .int .i64 x), (wr.heap.size, 1, .int .i64 y)] w5 := Keeps.next ((hHeld.alloc (.cells #[.int .i64 x, .int .i64 y] 23)).app (newK2 (hHeld.alloc (.cells #[.int .i64 x, .int .i64 y] 23)))) hb
        clear hb
        obtain ⟨⟨kz0, kc0, kf0⟩, ⟨kz1, kc1, kf1⟩, _⟩ := hR.2
        go_wp2_with fail
        refine (RT.out _).mono ?_
        rintro e w6 ⟨rfl, hb⟩
        replace hR : Keeps w2 [(wr.heap.size, 0, .int .i64 x), (wr.heap.size, 1, .int .i64 y), (w5.heap.size, 0, .int .i64 t0), (w5.heap.size, 1, .int .i64 t1)] w6 := Keeps.next ((hR.alloc (.cells #[.int .i64 t0, .int .i64 t1] 23)).app (newK2 (hR.alloc (.cells #[.int .i64 t0, .int .i64 t1] 23)))) hb
        clear hb kz0 kc0 kf0 kz1 kc1 kf1
        obtain ⟨⟨kz0, kc0, kf0⟩, ⟨kz1, kc1, kf1⟩, ⟨kz2, kc2, kf2⟩, ⟨kz3, kc3, kf3⟩, _⟩ := hR.2
        go_wp2_with fail
        refine (RI.out _).mono ?_
        rintro e w7 ⟨rfl, hb⟩
        replace hR : Keeps w2 [(wr.heap.size, 0, .int .i64 x), (wr.heap.size, 1, .int .i64 y), (w5.heap.size, 0, .int .i64 t0), (w5.heap.size, 1, .int .i64 t1), (w6.heap.size, 0, .int .i64 t0), (w6.heap.size, 1, .int .i64 t1)] w7 := Keeps.next ((hR.alloc (.cells #[.int .i64 t0, .int .i64 t1] 23)).app (newK2 (hR.alloc (.cells #[.int .i64 t0, .int .i64 t1] 23)))) hb
        clear hb kz0 kc0 kf0 kz1 kc1 kf1 kz2 kc2 kf2 kz3 kc3 kf3
        obtain ⟨⟨kz0, kc0, kf0⟩, ⟨kz1, kc1, kf1⟩, ⟨kz2, kc2, kf2⟩, ⟨kz3, kc3, kf3⟩, ⟨kz4, kc4, kf4⟩, ⟨kz5, kc5, kf5⟩, _⟩ := hR.2
        go_wp2_with fail
        go_roundw
        case rel => exact ⟨k + 1, by simp, by omega, hR.1, trivial⟩
        case measure => simp [intOf]; omega
    · have i1 : ¬ (k : Int) < (n : Int) := by omega
      go_wp2_with fail
      refine (FE.out _ (under HB2.out hHeld.1)).mono ?_
      rintro e w13 ⟨v13, rfl, hb, ho⟩
      have HB := Lib.hid (under hHeld.1 hb)
      have RS := Lib.hid (readsS_own ho)
      clear hb ho hHeld
      go_wp2_with fail
      refine (QE.out _ _ _ (R2.out _ HB.out) RS.out).mono ?_
      rintro e w14 ⟨rfl, hb⟩
      have HE := Lib.hid (under HB.out hb)
      clear hb
      go_wp2_with fail
      go_ret
      exact ⟨rfl, below_then HB2.out HE.out⟩

set_option maxRecDepth 100000 in
set_option maxHeartbeats 8000000 in
theorem sums_b (P : List (Int × Int)) (n : Nat) (hn : P.length = n) (hn2 : n ≤ 20) (hok : OkS P) (z : Int) (z1 : -9223372036854775808 ≤ z) (z2 : z ≤ 9223372036854775807) (q0 q1 : Int)
    (PL : ∀ v W, ReadsS W v P → Calls Try.prog 33 #[v] W (Ret W (.tuple #[spV 0 0, .int .i64 5]))) (RP : ∀ v W, ReadsS W v P → Calls Try.prog 34 #[v] W (Ret W (.tuple #[spV q0 q1, .bool false]))) (hbad : badS P = false)
    (v : Value) (w : World) (FE : ∀ W, Below w.heap.size w W → Calls Try.prog 24 #[v] W (MadeS W P)) :
    Calls Try.prog 5 #[v, .int .i64 z] w (Ret w (.bool true)) := by
  have WK := Lib.hid (fun W => wakes_any W)
  replace FE := Lib.hid FE
  have HLN := Lib.hid hn
  have HO := Lib.hid hok
  have AL := fun v W k => all_any P (by omega) v W k
  rw [hbad] at AL
  have QE := fun v v2 W r r2 => equalS P (by omega) v v2 W r r2
  replace AL := Lib.hid AL
  replace QE := Lib.hid QE
  replace PL := Lib.hid PL
  replace RP := Lib.hid RP
  have TP := Lib.hid (fun x y x1 x2 y1 y2 => times_pair x y z x1 x2 y1 y2 z1 z2)
  clear hn hok hbad z1 z2
  go_enter Try.func5, Try.ntmps5
  go_wp2_with fail
  refine (WK.out _).mono ?_
  rintro e w1 ⟨rfl, hb1⟩
  have HB1 := Lib.hid hb1
  clear hb1
  go_wp2_with fail
  refine (FE.out _ HB1.out).mono ?_
  rintro e w2 ⟨v2, rfl, hb2, ho2⟩
  have RS := readsS_own ho2
  obtain ⟨A, c, rfl, hrk⟩ := RS
  rw [HLN.out]
  have RK := Lib.hid hrk
  have R2 := Lib.hid (show ∀ W, Below w2.heap.size w2 W → ReadsS W (.slice A n c) P from fun W hW => by have := ReadsS.below (show ReadsS w2 (.slice A P.length c) P from ⟨A, c, rfl, hrk⟩) hW; rwa [HLN.out] at this)
  have HB2 := Lib.hid (under HB1.out hb2)
  have hHeld : Keeps w2 [] w2 := ⟨Below.refl _ _, trivial⟩
  clear hb2 ho2 hrk HB1 WK
  go_wp2_with fail
  refine (PL.out _ _ (R2.out _ hHeld.1)).mono ?_
  rintro e w3 ⟨rfl, hb⟩
  replace hHeld := hHeld.next hb
  clear hb
  go_wp2_with fail
  refine (RP.out _ _ (R2.out _ (hHeld.alloc _).1)).mono ?_
  rintro e w4 ⟨rfl, hb⟩
  replace hHeld : Keeps w2 [(w3.heap.size, 0, .int .i64 0), (w3.heap.size, 1, .int .i64 0)] w4 := Keeps.next ((hHeld.alloc (.cells #[.int .i64 0, .int .i64 0] 23)).app (newK2 (hHeld.alloc (.cells #[.int .i64 0, .int .i64 0] 23)))) hb
  clear hb
  obtain ⟨⟨kz0, kc0, kf0⟩, ⟨kz1, kc1, kf1⟩, _⟩ := hHeld.2
  go_wp2_with fail
  refine (AL.out _ _ (R2.out _ (hHeld.alloc _).1)).mono ?_
  rintro e w4b ⟨rfl, hb⟩
  replace hHeld : Keeps w2 [(w3.heap.size, 0, .int .i64 0), (w3.heap.size, 1, .int .i64 0), (w4.heap.size, 0, .int .i64 q0), (w4.heap.size, 1, .int .i64 q1)] w4b := Keeps.next ((hHeld.alloc (.cells #[.int .i64 q0, .int .i64 q1] 23)).app (newK2 (hHeld.alloc (.cells #[.int .i64 q0, .int .i64 q1] 23)))) hb
  clear hb kz0 kc0 kf0 kz1 kc1 kf1
  obtain ⟨⟨kz0, kc0, kf0⟩, ⟨kz1, kc1, kf1⟩, ⟨kz2, kc2, kf2⟩, ⟨kz3, kc3, kf3⟩, _⟩ := hHeld.2
  go_wp2_with fail
  have H0 : Keeps w2 [] w4b := ⟨hHeld.1, trivial⟩
  clear hHeld kz0 kc0 kf0 kz1 kc1 kf1 kz2 kc2 kf2 kz3 kc3 kf3 PL RP AL
  go_loopw [61] (fun i wr => ∃ k : Nat, i = .int .i64 k ∧ k ≤ n ∧ Keeps w2 [] wr) (fun i _ => n - (intOf i).toNat)
  case atStart => exact ⟨0, rfl, by omega, H0⟩
  case round =>
    obtain ⟨k, rfl, hkn, hHeld⟩ := hrel
    by_cases gk : k < n
    · obtain ⟨⟨x, y⟩, hs⟩ : ∃ s, P[k]? = some s := ⟨_, List.getElem?_eq_getElem (by have := HLN.out; omega)⟩
      obtain ⟨bb, off, rfl, hbw, e1, e2⟩ := RK.out k _ hs
      have c1 := (hHeld.1.cell (p := ⟨bb, off + k * 2, none⟩) hbw).trans e1
      have c2 := (hHeld.1.cell (p := ⟨bb, off + k * 2 + 1, none⟩) hbw).trans e2
      simp only at c1 c2
      obtain ⟨x1, x2, y1, y2⟩ := HO.out.at hs
      obtain ⟨t0, t1, tc, r0, r1, rb, TM, RT, hc⟩ := TP.out x y x1 x2 y1 y2
      replace TM := Lib.hid TM
      replace RT := Lib.hid RT
      have RI := fun W => right_any x y W
      have i1 : (k : Int) < (n : Int) := by omega
      have i0 : (0 : Int) ≤ (k : Int) := by omega
      clear e1 e2 hs x1 x2 y1 y2
      rcases hc with ⟨g, rfl, rfl, rfl⟩ | ⟨g, rfl, rfl, rfl, rfl⟩ | ⟨g, rfl, rfl, rfl, rfl⟩
      all_goals
        first | rw [decide_eq_false (by omega)] at RI | rw [decide_eq_true (by omega)] at RI
        replace RI := Lib.hid RI
        clear g
      · go_wp2_with fail
        refine (TM.out _).mono ?_
        rintro e w5 ⟨rfl, hb⟩
        have hR : Keeps w2 [(wr.heap.size, 0, .int .i64 x), (wr.heap.size, 1, .int .i64 y)] w5 := Keeps.next ((hHeld.alloc (.cells #[.int .i64 x, .int .i64 y] 23)).app (newK2 (hHeld.alloc (.cells #[.int .i64 x, .int .i64 y] 23)))) hb
        clear hb
        obtain ⟨⟨kz0, kc0, kf0⟩, ⟨kz1, kc1, kf1⟩, _⟩ := hR.2
        go_wp2_with fail
        refine (RT.out _).mono ?_
        rintro e w6 ⟨rfl, hb⟩
        replace hR : Keeps w2 [(wr.heap.size, 0, .int .i64 x), (wr.heap.size, 1, .int .i64 y), (w5.heap.size, 0, .int .i64 0), (w5.heap.size, 1, .int .i64 0)] w6 := Keeps.next ((hR.alloc (.cells #[.int .i64 0, .int .i64 0] 23)).app (newK2 (hR.alloc (.cells #[.int .i64 0, .int .i64 0] 23)))) hb
        clear hb kz0 kc0 kf0 kz1 kc1 kf1
        obtain ⟨⟨kz0, kc0, kf0⟩, ⟨kz1, kc1, kf1⟩, ⟨kz2, kc2, kf2⟩, ⟨kz3, kc3, kf3⟩, _⟩ := hR.2
        go_wp2_with fail
        refine (RI.out _).mono ?_
        rintro e w7 ⟨rfl, hb⟩
        replace hR : Keeps w2 [(wr.heap.size, 0, .int .i64 x), (wr.heap.size, 1, .int .i64 y), (w5.heap.size, 0, .int .i64 0), (w5.heap.size, 1, .int .i64 0), (w6.heap.size, 0, .int .i64 r0), (w6.heap.size, 1, .int .i64 r1)] w7 := Keeps.next ((hR.alloc (.cells #[.int .i64 r0, .int .i64 r1] 23)).app (newK2 (hR.alloc (.cells #[.int .i64 r0, .int .i64 r1] 23)))) hb
        clear hb kz0 kc0 kf0 kz1 kc1 kf1 kz2 kc2 kf2 kz3 kc3 kf3
        obtain ⟨⟨kz0, kc0, kf0⟩, ⟨kz1, kc1, kf1⟩, ⟨kz2, kc2, kf2⟩, ⟨kz3, kc3, kf3⟩, ⟨kz4, kc4, kf4⟩, ⟨kz5, kc5, kf5⟩, _⟩ := hR.2
        go_wp2_with fail
        go_roundw
        case rel => exact ⟨k + 1, by simp, by omega, hR.1, trivial⟩
        case measure => simp [intOf]; omega
      · go_wp2_with fail
        refine (TM.out _).mono ?_
        rintro e w5 ⟨rfl, hb⟩
        have hR : Keeps w2 [(wr.heap.size, 0, .int .i64 x), (wr.heap.size, 1, .int .i64 y)] w5 := Keeps.next ((hHeld.alloc (.cells #[.int .i64 x, .int .i64 y] 23)).app (newK2 (hHeld.alloc (.cells #[.int .i64 x, .int .i64 y] 23)))) hb
        clear hb
        obtain ⟨⟨kz0, kc0, kf0⟩, ⟨kz1, kc1, kf1⟩, _⟩ := hR.2
        go_wp2_with fail
        refine (RT.out _).mono ?_
        rintro e w6 ⟨rfl, hb⟩
        replace hR : Keeps w2 [(wr.heap.size, 0, .int .i64 x), (wr.heap.size, 1, .int .i64 y), (w5.heap.size, 0, .int .i64 0), (w5.heap.size, 1, .int .i64 0)] w6 := Keeps.next ((hR.alloc (.cells #[.int .i64 0, .int .i64 0] 23)).app (newK2 (hR.alloc (.cells #[.int .i64 0, .int .i64 0] 23)))) hb
        clear hb kz0 kc0 kf0 kz1 kc1 kf1
        obtain ⟨⟨kz0, kc0, kf0⟩, ⟨kz1, kc1, kf1⟩, ⟨kz2, kc2, kf2⟩, ⟨kz3, kc3, kf3⟩, _⟩ := hR.2
        go_wp2_with fail
        refine (RI.out _).mono ?_
        rintro e w7 ⟨rfl, hb⟩
        replace hR : Keeps w2 [(wr.heap.size, 0, .int .i64 x), (wr.heap.size, 1, .int .i64 y), (w5.heap.size, 0, .int .i64 0), (w5.heap.size, 1, .int .i64 0), (w6.heap.size, 0, .int .i64 r0), (w6.heap.size, 1, .int .i64 r1)] w7 := Keeps.next ((hR.alloc (.cells #[.int .i64 r0, .int .i64 r1] 23)).app (newK2 (hR.alloc (.cells #[.int .i64 r0, .int .i64 r1] 23)))) hb
        clear hb kz0 kc0 kf0 kz1 kc1 kf1 kz2 kc2 kf2 kz3 kc3 kf3
        obtain ⟨⟨kz0, kc0, kf0⟩, ⟨kz1, kc1, kf1⟩, ⟨kz2, kc2, kf2⟩, ⟨kz3, kc3, kf3⟩, ⟨kz4, kc4, kf4⟩, ⟨kz5, kc5, kf5⟩, _⟩ := hR.2
        go_wp2_with fail
        go_roundw
        case rel => exact ⟨k + 1, by simp, by omega, hR.1, trivial⟩
        case measure => simp [intOf]; omega
      · go_wp2_with fail
        refine (TM.out _).mono ?_
        rintro e w5 ⟨rfl, hb⟩
        have hR : Keeps w2 [(wr.heap.size, 0, .int .i64 x), (wr.heap.size, 1, .int .i64 y)] w5 := Keeps.next ((hHeld.alloc (.cells #[.int .i64 x, .int .i64 y] 23)).app (newK2 (hHeld.alloc (.cells #[.int .i64 x, .int .i64 y] 23)))) hb
        clear hb
        obtain ⟨⟨kz0, kc0, kf0⟩, ⟨kz1, kc1, kf1⟩, _⟩ := hR.2
        go_wp2_with fail
        refine (RT.out _).mono ?_
        rintro e w6 ⟨rfl, hb⟩
        replace hR : Keeps w2 [(wr.heap.size, 0, .int .i64 x), (wr.heap.size, 1, .int .i64 y), (w5.heap.size, 0, .int .i64 t0), (w5.heap.size, 1, .int .i64 t1)] w6 := Keeps.next ((hR.alloc (.cells #[.int .i64 t0, .int .i64 t1] 23)).app (newK2 (hR.alloc (.cells #[.int .i64 t0, .int .i64 t1] 23)))) hb
        clear hb kz0 kc0 kf0 kz1 kc1 kf1
        obtain ⟨⟨kz0, kc0, kf0⟩, ⟨kz1, kc1, kf1⟩, ⟨kz2, kc2, kf2⟩, ⟨kz3, kc3, kf3⟩, _⟩ := hR.2
        go_wp2_with fail
        refine (RI.out _).mono ?_
        rintro e w7 ⟨rfl, hb⟩
        replace hR : Keeps w2 [(wr.heap.size, 0, .int .i64 x), (wr.heap.size, 1, .int .i64 y), (w5.heap.size, 0, .int .i64 t0), (w5.heap.size, 1, .int .i64 t1), (w6.heap.size, 0, .int .i64 t0), (w6.heap.size, 1, .int .i64 t1)] w7 := Keeps.next ((hR.alloc (.cells #[.int .i64 t0, .int .i64 t1] 23)).app (newK2 (hR.alloc (.cells #[.int .i64 t0, .int .i64 t1] 23)))) hb
        clear hb kz0 kc0 kf0 kz1 kc1 kf1 kz2 kc2 kf2 kz3 kc3 kf3
        obtain ⟨⟨kz0, kc0, kf0⟩, ⟨kz1, kc1, kf1⟩, ⟨kz2, kc2, kf2⟩, ⟨kz3, kc3, kf3⟩, ⟨kz4, kc4, kf4⟩, ⟨kz5, kc5, kf5⟩, _⟩ := hR.2
        go_wp2_with fail
        go_roundw
        case rel => exact ⟨k + 1, by simp, by omega, hR.1, trivial⟩
        case measure => simp [intOf]; omega
    · have i1 : ¬ (k : Int) < (n : Int) := by omega
      go_wp2_with fail
      refine (FE.out _ (under HB2.out hHeld.1)).mono ?_
      rintro e w13 ⟨v13, rfl, hb, ho⟩
      have HB := Lib.hid (under hHeld.1 hb)
      have RS := Lib.hid (readsS_own ho)
      clear hb ho hHeld
      go_wp2_with fail
      refine (QE.out _ _ _ (R2.out _ HB.out) RS.out).mono ?_
      rintro e w14 ⟨rfl, hb⟩
      have HE := Lib.hid (under HB.out hb)
      clear hb
      go_wp2_with fail
      go_ret
      exact ⟨rfl, below_then HB2.out HE.out⟩

set_option maxRecDepth 100000 in
set_option maxHeartbeats 8000000 in
theorem sums_c (P : List (Int × Int)) (n : Nat) (hn : P.length = n) (hn2 : n ≤ 20) (hok : OkS P) (z : Int) (z1 : -9223372036854775808 ≤ z) (z2 : z ≤ 9223372036854775807) (q0 q1 : Int)
    (PL : ∀ v W, ReadsS W v P → Calls Try.prog 33 #[v] W (Ret W (.tuple #[spV q0 q1, .int .i64 0]))) (RP : ∀ v W, ReadsS W v P → Calls Try.prog 34 #[v] W (Ret W (.tuple #[spV q0 q1, .bool true]))) (hbad : badS P = false)
    (v : Value) (w : World) (FE : ∀ W, Below w.heap.size w W → Calls Try.prog 24 #[v] W (MadeS W P)) :
    Calls Try.prog 5 #[v, .int .i64 z] w (Ret w (.bool true)) := by
  have WK := Lib.hid (fun W => wakes_any W)
  replace FE := Lib.hid FE
  have HLN := Lib.hid hn
  have HO := Lib.hid hok
  have AL := fun v W k => all_any P (by omega) v W k
  rw [hbad] at AL
  have QE := fun v v2 W r r2 => equalS P (by omega) v v2 W r r2
  replace AL := Lib.hid AL
  replace QE := Lib.hid QE
  replace PL := Lib.hid PL
  replace RP := Lib.hid RP
  have TP := Lib.hid (fun x y x1 x2 y1 y2 => times_pair x y z x1 x2 y1 y2 z1 z2)
  clear hn hok hbad z1 z2
  go_enter Try.func5, Try.ntmps5
  go_wp2_with fail
  refine (WK.out _).mono ?_
  rintro e w1 ⟨rfl, hb1⟩
  have HB1 := Lib.hid hb1
  clear hb1
  go_wp2_with fail
  refine (FE.out _ HB1.out).mono ?_
  rintro e w2 ⟨v2, rfl, hb2, ho2⟩
  have RS := readsS_own ho2
  obtain ⟨A, c, rfl, hrk⟩ := RS
  rw [HLN.out]
  have RK := Lib.hid hrk
  have R2 := Lib.hid (show ∀ W, Below w2.heap.size w2 W → ReadsS W (.slice A n c) P from fun W hW => by have := ReadsS.below (show ReadsS w2 (.slice A P.length c) P from ⟨A, c, rfl, hrk⟩) hW; rwa [HLN.out] at this)
  have HB2 := Lib.hid (under HB1.out hb2)
  have hHeld : Keeps w2 [] w2 := ⟨Below.refl _ _, trivial⟩
  clear hb2 ho2 hrk HB1 WK
  go_wp2_with fail
  refine (PL.out _ _ (R2.out _ hHeld.1)).mono ?_
  rintro e w3 ⟨rfl, hb⟩
  replace hHeld := hHeld.next hb
  clear hb
  go_wp2_with fail
  refine (RP.out _ _ (R2.out _ (hHeld.alloc _).1)).mono ?_
  rintro e w4 ⟨rfl, hb⟩
  replace hHeld : Keeps w2 [(w3.heap.size, 0, .int .i64 q0), (w3.heap.size, 1, .int .i64 q1)] w4 := Keeps.next ((hHeld.alloc (.cells #[.int .i64 q0, .int .i64 q1] 23)).app (newK2 (hHeld.alloc (.cells #[.int .i64 q0, .int .i64 q1] 23)))) hb
  clear hb
  obtain ⟨⟨kz0, kc0, kf0⟩, ⟨kz1, kc1, kf1⟩, _⟩ := hHeld.2
  go_wp2_with fail
  refine (AL.out _ _ (R2.out _ (hHeld.alloc _).1)).mono ?_
  rintro e w4b ⟨rfl, hb⟩
  replace hHeld : Keeps w2 [(w3.heap.size, 0, .int .i64 q0), (w3.heap.size, 1, .int .i64 q1), (w4.heap.size, 0, .int .i64 q0), (w4.heap.size, 1, .int .i64 q1)] w4b := Keeps.next ((hHeld.alloc (.cells #[.int .i64 q0, .int .i64 q1] 23)).app (newK2 (hHeld.alloc (.cells #[.int .i64 q0, .int .i64 q1] 23)))) hb
  clear hb kz0 kc0 kf0 kz1 kc1 kf1
  obtain ⟨⟨kz0, kc0, kf0⟩, ⟨kz1, kc1, kf1⟩, ⟨kz2, kc2, kf2⟩, ⟨kz3, kc3, kf3⟩, _⟩ := hHeld.2
  go_wp2_with fail
  have H0 : Keeps w2 [] w4b := ⟨hHeld.1, trivial⟩
  clear hHeld kz0 kc0 kf0 kz1 kc1 kf1 kz2 kc2 kf2 kz3 kc3 kf3 PL RP AL
  go_loopw [61] (fun i wr => ∃ k : Nat, i = .int .i64 k ∧ k ≤ n ∧ Keeps w2 [] wr) (fun i _ => n - (intOf i).toNat)
  case atStart => exact ⟨0, rfl, by omega, H0⟩
  case round =>
    obtain ⟨k, rfl, hkn, hHeld⟩ := hrel
    by_cases gk : k < n
    · obtain ⟨⟨x, y⟩, hs⟩ : ∃ s, P[k]? = some s := ⟨_, List.getElem?_eq_getElem (by have := HLN.out; omega)⟩
      obtain ⟨bb, off, rfl, hbw, e1, e2⟩ := RK.out k _ hs
      have c1 := (hHeld.1.cell (p := ⟨bb, off + k * 2, none⟩) hbw).trans e1
      have c2 := (hHeld.1.cell (p := ⟨bb, off + k * 2 + 1, none⟩) hbw).trans e2
      simp only at c1 c2
      obtain ⟨x1, x2, y1, y2⟩ := HO.out.at hs
      obtain ⟨t0, t1, tc, r0, r1, rb, TM, RT, hc⟩ := TP.out x y x1 x2 y1 y2
      replace TM := Lib.hid TM
      replace RT := Lib.hid RT
      have RI := fun W => right_any x y W
      have i1 : (k : Int) < (n : Int) := by omega
      have i0 : (0 : Int) ≤ (k : Int) := by omega
      clear e1 e2 hs x1 x2 y1 y2
      rcases hc with ⟨g, rfl, rfl, rfl⟩ | ⟨g, rfl, rfl, rfl, rfl⟩ | ⟨g, rfl, rfl, rfl, rfl⟩
      all_goals
        first | rw [decide_eq_false (by omega)] at RI | rw [decide_eq_true (by omega)] at RI
        replace RI := Lib.hid RI
        clear g
      · go_wp2_with fail
        refine (TM.out _).mono ?_
        rintro e w5 ⟨rfl, hb⟩
        have hR : Keeps w2 [(wr.heap.size, 0, .int .i64 x), (wr.heap.size, 1, .int .i64 y)] w5 := Keeps.next ((hHeld.alloc (.cells #[.int .i64 x, .int .i64 y] 23)).app (newK2 (hHeld.alloc (.cells #[.int .i64 x, .int .i64 y] 23)))) hb
        clear hb
        obtain ⟨⟨kz0, kc0, kf0⟩, ⟨kz1, kc1, kf1⟩, _⟩ := hR.2
        go_wp2_with fail
        refine (RT.out _).mono ?_
        rintro e w6 ⟨rfl, hb⟩
        replace hR : Keeps w2 [(wr.heap.size, 0, .int .i64 x), (wr.heap.size, 1, .int .i64 y), (w5.heap.size, 0, .int .i64 0), (w5.heap.size, 1, .int .i64 0)] w6 := Keeps.next ((hR.alloc (.cells #[.int .i64 0, .int .i64 0] 23)).app (newK2 (hR.alloc (.cells #[.int .i64 0, .int .i64 0] 23)))) hb
        clear hb kz0 kc0 kf0 kz1 kc1 kf1
        obtain ⟨⟨kz0, kc0, kf0⟩, ⟨kz1, kc1, kf1⟩, ⟨kz2, kc2, kf2⟩, ⟨kz3, kc3, kf3⟩, _⟩ := hR.2
        go_wp2_with fail
        refine (RI.out _).mono ?_
        rintro e w7 ⟨rfl, hb⟩
        replace hR : Keeps w2 [(wr.heap.size, 0, .int .i64 x), (wr.heap.size, 1, .int .i64 y), (w5.heap.size, 0, .int .i64 0), (w5.heap.size, 1, .int .i64 0), (w6.heap.size, 0, .int .i64 r0), (w6.heap.size, 1, .int .i64 r1)] w7 := Keeps.next ((hR.alloc (.cells #[.int .i64 r0, .int .i64 r1] 23)).app (newK2 (hR.alloc (.cells #[.int .i64 r0, .int .i64 r1] 23)))) hb
        clear hb kz0 kc0 kf0 kz1 kc1 kf1 kz2 kc2 kf2 kz3 kc3 kf3
        obtain ⟨⟨kz0, kc0, kf0⟩, ⟨kz1, kc1, kf1⟩, ⟨kz2, kc2, kf2⟩, ⟨kz3, kc3, kf3⟩, ⟨kz4, kc4, kf4⟩, ⟨kz5, kc5, kf5⟩, _⟩ := hR.2
        go_wp2_with fail
        go_roundw
        case rel => exact ⟨k + 1, by simp, by omega, hR.1, trivial⟩
        case measure => simp [intOf]; omega
      · go_wp2_with fail
        refine (TM.out _).mono ?_
        rintro e w5 ⟨rfl, hb⟩
        have hR : Keeps w2 [(wr.heap.size, 0, .int .i64 x), (wr.heap.size, 1, .int .i64 y)] w5 := Keeps.next ((hHeld.alloc (.cells #[.int .i64 x, .int .i64 y] 23)).app (newK2 (hHeld.alloc (.cells #[.int .i64 x, .int .i64 y] 23)))) hb
        clear hb
        obtain ⟨⟨kz0, kc0, kf0⟩, ⟨kz1, kc1, kf1⟩, _⟩ := hR.2
        go_wp2_with fail
        refine (RT.out _).mono ?_
        rintro e w6 ⟨rfl, hb⟩
        replace hR : Keeps w2 [(wr.heap.size, 0, .int .i64 x), (wr.heap.size, 1, .int .i64 y), (w5.heap.size, 0, .int .i64 0), (w5.heap.size, 1, .int .i64 0)] w6 := Keeps.next ((hR.alloc (.cells #[.int .i64 0, .int .i64 0] 23)).app (newK2 (hR.alloc (.cells #[.int .i64 0, .int .i64 0] 23)))) hb
        clear hb kz0 kc0 kf0 kz1 kc1 kf1
        obtain ⟨⟨kz0, kc0, kf0⟩, ⟨kz1, kc1, kf1⟩, ⟨kz2, kc2, kf2⟩, ⟨kz3, kc3, kf3⟩, _⟩ := hR.2
        go_wp2_with fail
        refine (RI.out _).mono ?_
        rintro e w7 ⟨rfl, hb⟩
        replace hR : Keeps w2 [(wr.heap.size, 0, .int .i64 x), (wr.heap.size, 1, .int .i64 y), (w5.heap.size, 0, .int .i64 0), (w5.heap.size, 1, .int .i64 0), (w6.heap.size, 0, .int .i64 r0), (w6.heap.size, 1, .int .i64 r1)] w7 := Keeps.next ((hR.alloc (.cells #[.int .i64 r0, .int .i64 r1] 23)).app (newK2 (hR.alloc (.cells #[.int .i64 r0, .int .i64 r1] 23)))) hb
        clear hb kz0 kc0 kf0 kz1 kc1 kf1 kz2 kc2 kf2 kz3 kc3 kf3
        obtain ⟨⟨kz0, kc0, kf0⟩, ⟨kz1, kc1, kf1⟩, ⟨kz2, kc2, kf2⟩, ⟨kz3, kc3, kf3⟩, ⟨kz4, kc4, kf4⟩, ⟨kz5, kc5, kf5⟩, _⟩ := hR.2
        go_wp2_with fail
        go_roundw
        case rel => exact ⟨k + 1, by simp, by omega, hR.1, trivial⟩
        case measure => simp [intOf]; omega
      · go_wp2_with fail
        refine (TM.out _).mono ?_
        rintro e w5 ⟨rfl, hb⟩
        have hR : Keeps w2 [(wr.heap.size, 0, .int .i64 x), (wr.heap.size, 1, .int .i64 y)] w5 := Keeps.next ((hHeld.alloc (.cells #[.int .i64 x, .int .i64 y] 23)).app (newK2 (hHeld.alloc (.cells #[.int .i64 x, .int .i64 y] 23)))) hb
        clear hb
        obtain ⟨⟨kz0, kc0, kf0⟩, ⟨kz1, kc1, kf1⟩, _⟩ := hR.2
        go_wp2_with fail
        refine (RT.out _).mono ?_
        rintro e w6 ⟨rfl, hb⟩
        replace hR : Keeps w2 [(wr.heap.size, 0, .int .i64 x), (wr.heap.size, 1, .int .i64 y), (w5.heap.size, 0, .int .i64 t0), (w5.heap.size, 1, .int .i64 t1)] w6 := Keeps.next ((hR.alloc (.cells #[.int .i64 t0, .int .i64 t1] 23)).app (newK2 (hR.alloc (.cells #[.int .i64 t0, .int .i64 t1] 23)))) hb
        clear hb kz0 kc0 kf0 kz1 kc1 kf1
        obtain ⟨⟨kz0, kc0, kf0⟩, ⟨kz1, kc1, kf1⟩, ⟨kz2, kc2, kf2⟩, ⟨kz3, kc3, kf3⟩, _⟩ := hR.2
        go_wp2_with fail
        refine (RI.out _).mono ?_
        rintro e w7 ⟨rfl, hb⟩
        replace hR : Keeps w2 [(wr.heap.size, 0, .int .i64 x), (wr.heap.size, 1, .int .i64 y), (w5.heap.size, 0, .int .i64 t0), (w5.heap.size, 1, .int .i64 t1), (w6.heap.size, 0, .int .i64 t0), (w6.heap.size, 1, .int .i64 t1)] w7 := Keeps.next ((hR.alloc (.cells #[.int .i64 t0, .int .i64 t1] 23)).app (newK2 (hR.alloc (.cells #[.int .i64 t0, .int .i64 t1] 23)))) hb
        clear hb kz0 kc0 kf0 kz1 kc1 kf1 kz2 kc2 kf2 kz3 kc3 kf3
        obtain ⟨⟨kz0, kc0, kf0⟩, ⟨kz1, kc1, kf1⟩, ⟨kz2, kc2, kf2⟩, ⟨kz3, kc3, kf3⟩, ⟨kz4, kc4, kf4⟩, ⟨kz5, kc5, kf5⟩, _⟩ := hR.2
        go_wp2_with fail
        go_roundw
        case rel => exact ⟨k + 1, by simp, by omega, hR.1, trivial⟩
        case measure => simp [intOf]; omega
    · have i1 : ¬ (k : Int) < (n : Int) := by omega
      go_wp2_with fail
      refine (FE.out _ (under HB2.out hHeld.1)).mono ?_
      rintro e w13 ⟨v13, rfl, hb, ho⟩
      have HB := Lib.hid (under hHeld.1 hb)
      have RS := Lib.hid (readsS_own ho)
      clear hb ho hHeld
      go_wp2_with fail
      refine (QE.out _ _ _ (R2.out _ HB.out) RS.out).mono ?_
      rintro e w14 ⟨rfl, hb⟩
      have HE := Lib.hid (under HB.out hb)
      clear hb
      go_wp2_with fail
      go_ret
      exact ⟨rfl, below_then HB2.out HE.out⟩

theorem sums_any (l : List (Int × Int)) (hl : l.length ≤ 9223372036854775807) (hok : OkS l) (v : Value) (w : World) (h : ReadsS w v l) (hr : ∀ A n c, v = .slice A n c → n ≤ c) (z : Int) (z1 : -9223372036854775808 ≤ z) (z2 : z ≤ 9223372036854775807) : Calls Try.prog 5 #[v, .int .i64 z] w (Ret w (.bool true)) := by
  have FE := fun W hW => few_any l hl v W (ReadsS.below h hW) hr
  have hn : (l.take 20).length ≤ 20 := by rw [List.length_take]; omega
  have ho := hok.take 20
  generalize l.take 20 = P at *
  obtain ⟨t0, t1, tc, r0, r1, rb, PL, RP, hc⟩ := plus_pair P ho (by omega)
  rcases hc with ⟨g, rfl, rfl, rfl⟩ | ⟨g, rfl, rfl, rfl, rfl⟩ | ⟨g, rfl, rfl, rfl, rfl⟩
  · exact sums_a P _ rfl hn ho z z1 z2 r0 r1 rb PL RP g v w FE
  · exact sums_b P _ rfl hn ho z z1 z2 r0 r1 PL RP g v w FE
  · exact sums_c P _ rfl hn ho z z1 z2 _ _ PL RP g v w FE
end Go.Proofs.Ytmnndbafljngiaa
