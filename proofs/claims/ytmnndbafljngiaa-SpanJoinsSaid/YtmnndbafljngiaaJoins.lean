/-
  The walk of the law SpanJoins. Conditions: those written at each fact.
-/
import Derived.Test.YtmnndbafljngiaaJoA
import Derived.Test.YtmnndbafljngiaaJoC
namespace Go.Proofs.Ytmnndbafljngiaa
open Go.RowKit

set_option maxRecDepth 100000 in
set_option maxHeartbeats 8000000 in
theorem joins_walk (P : List (Int × Int)) (n : Nat) (hn : P.length = n) (hn2 : n ≤ 20) (a0 a1 b0 b1 : Int) (hLO : 0 < n → Ends P a0 a1 b0 b1) (hz : n = 0 → a0 = 0 ∧ a1 = 0 ∧ b0 = 0 ∧ b1 = 0)
    (j0 j1 jc m0 m1 mc l0 l1 lc t0 t1 tc : Int) (hJ : resS min max P = .tuple #[spV j0 j1, .int .i64 jc]) (hM : meetR P = (m0, m1, mc)) (hL : resS min min P = .tuple #[spV l0 l1, .int .i64 lc]) (hT : resS max max P = .tuple #[spV t0 t1, .int .i64 tc])
    (hE : ∀ q0 q1 cd lo hi, ((q0, q1, cd, lo, hi) = (j0, j1, jc, a0, b1) ∨ (q0, q1, cd, lo, hi) = (m0, m1, mc, b0, a1) ∨ (q0, q1, cd, lo, hi) = (l0, l1, lc, a0, a1) ∨ (q0, q1, cd, lo, hi) = (t0, t1, tc, b0, b1)) →
      (badS P = true ∧ q0 = 0 ∧ q1 = 0 ∧ cd = 140) ∨ (badS P = false ∧ (P = [] ∨ hi < lo) ∧ q0 = 0 ∧ q1 = 0 ∧ cd = 9) ∨ (badS P = false ∧ P ≠ [] ∧ lo ≤ hi ∧ q0 = lo ∧ q1 = hi ∧ cd = 0))
    (v : Value) (w : World) (FE : ∀ W, Below w.heap.size w W → Calls Try.prog 24 #[v] W (MadeS W P)) :
    Calls Try.prog 4 #[v] w (Ret w (.bool true)) := by
  have WK := Lib.hid (fun W => wakes_any W)
  replace FE := Lib.hid FE
  have HLN := Lib.hid hn
  have JO := fun v W k => joinR_any P (by omega) v W k
  have ME := fun v W k => meetR_any P (by omega) v W k
  have LE := fun v W k => leastR_any P (by omega) v W k
  have MO := fun v W k => mostR_any P (by omega) v W k
  rw [hJ] at JO
  rw [hM] at ME
  rw [hL] at LE
  rw [hT] at MO
  simp only at ME
  have EN := fun q0 q1 cd lo hi k v W r => ended_any P (by omega) q0 q1 cd lo hi (hE q0 q1 cd lo hi k) v W r
  have LOW := fun k v W r => lows_any P (by omega) (by omega) a0 a1 b0 b1 (hLO k) v W r
  have HIG := fun k v W r => highs_any P (by omega) (by omega) a0 a1 b0 b1 (hLO k) v W r
  have QE := fun v v2 W r r2 => equalS P (by omega) v v2 W r r2
  replace JO := Lib.hid JO
  replace ME := Lib.hid ME
  replace LE := Lib.hid LE
  replace MO := Lib.hid MO
  replace EN := Lib.hid EN
  replace LOW := Lib.hid LOW
  replace HIG := Lib.hid HIG
  replace QE := Lib.hid QE
  replace hz := Lib.hid hz
  clear hJ hM hL hT hE hLO hn
  go_enter Try.func4, Try.ntmps4
  go_wp2_with fail
  refine (WK.out _).mono ?_
  rintro e w1 ⟨rfl, hb1⟩
  have HB1 := Lib.hid hb1
  clear hb1
  go_wp2_with fail
  refine (FE.out _ HB1.out).mono ?_
  rintro e w2 ⟨v2, rfl, hb2, ho2⟩
  have RS := readsS_own ho2
  obtain ⟨A, c, rfl, hrk⟩ := RS
  rw [HLN.out]
  have R2 := Lib.hid (show ∀ W, Below w2.heap.size w2 W → ReadsS W (.slice A n c) P from fun W hW => by have := ReadsS.below (show ReadsS w2 (.slice A P.length c) P from ⟨A, c, rfl, hrk⟩) hW; rwa [HLN.out] at this)
  have HB2 := Lib.hid (under HB1.out hb2)
  have J1 := Lib.hid (fun W hW => JO.out _ W (R2.out W hW))
  have M1 := Lib.hid (fun W hW => ME.out _ W (R2.out W hW))
  have L1 := Lib.hid (fun W hW => LE.out _ W (R2.out W hW))
  have T1 := Lib.hid (fun W hW => MO.out _ W (R2.out W hW))
  have E1 := Lib.hid (fun W hW => EN.out j0 j1 jc a0 b1 (Or.inl rfl) _ W (R2.out W hW))
  have E2 := Lib.hid (fun W hW => EN.out m0 m1 mc b0 a1 (Or.inr (Or.inl rfl)) _ W (R2.out W hW))
  have E3 := Lib.hid (fun W hW => EN.out l0 l1 lc a0 a1 (Or.inr (Or.inr (Or.inl rfl))) _ W (R2.out W hW))
  have E4 := Lib.hid (fun W hW => EN.out t0 t1 tc b0 b1 (Or.inr (Or.inr (Or.inr rfl))) _ W (R2.out W hW))
  have EQ := Lib.hid (fun v W hW r => QE.out _ v W (R2.out W hW) r)
  have hHeld : Keeps w2 [] w2 := ⟨Below.refl _ _, trivial⟩
  clear hb2 ho2 hrk HB1 JO ME LE MO EN QE WK
  by_cases gn : 0 < n
  · have LO1 := Lib.hid (fun W hW => LOW.out gn _ W (R2.out W hW))
    have HI1 := Lib.hid (fun W hW => HIG.out gn _ W (R2.out W hW))
    have g0 : (0 : Int) < (n : Int) := by omega
    clear LOW HIG hz
    · go_wp2_with fail
      refine (LO1.out _ hHeld.1).mono ?_
      rintro e w3 ⟨rfl, hb⟩
      replace hHeld := hHeld.next hb
      clear hb
      go_wp2_with fail
      refine (HI1.out _ hHeld.1).mono ?_
      rintro e w4 ⟨rfl, hb⟩
      replace hHeld := hHeld.next hb
      clear hb
      go_wp2_with fail
      refine (J1.out _ hHeld.1).mono ?_
      rintro e w5 ⟨rfl, hb⟩
      replace hHeld := hHeld.next hb
      clear hb
      go_wp2_with fail
      refine (M1.out _ (hHeld.alloc _).1).mono ?_
      rintro e w6 ⟨rfl, hb⟩
      replace hHeld : Keeps w2 [(w5.heap.size, 0, .int .i64 j0), (w5.heap.size, 1, .int .i64 j1)] w6 := Keeps.next ((hHeld.alloc (.cells #[.int .i64 j0, .int .i64 j1] 23)).app (newK2 (hHeld.alloc (.cells #[.int .i64 j0, .int .i64 j1] 23)))) hb
      clear hb
      go_wp2_with fail
      refine (L1.out _ (hHeld.alloc _).1).mono ?_
      rintro e w7 ⟨rfl, hb⟩
      replace hHeld : Keeps w2 [(w5.heap.size, 0, .int .i64 j0), (w5.heap.size, 1, .int .i64 j1), (w6.heap.size, 0, .int .i64 m0), (w6.heap.size, 1, .int .i64 m1)] w7 := Keeps.next ((hHeld.alloc (.cells #[.int .i64 m0, .int .i64 m1] 23)).app (newK2 (hHeld.alloc (.cells #[.int .i64 m0, .int .i64 m1] 23)))) hb
      clear hb
      go_wp2_with fail
      refine (T1.out _ (hHeld.alloc _).1).mono ?_
      rintro e w8 ⟨rfl, hb⟩
      replace hHeld : Keeps w2 [(w5.heap.size, 0, .int .i64 j0), (w5.heap.size, 1, .int .i64 j1), (w6.heap.size, 0, .int .i64 m0), (w6.heap.size, 1, .int .i64 m1), (w7.heap.size, 0, .int .i64 l0), (w7.heap.size, 1, .int .i64 l1)] w8 := Keeps.next ((hHeld.alloc (.cells #[.int .i64 l0, .int .i64 l1] 23)).app (newK2 (hHeld.alloc (.cells #[.int .i64 l0, .int .i64 l1] 23)))) hb
      clear hb
      obtain ⟨⟨kz0, kc0, kf0⟩, ⟨kz1, kc1, kf1⟩, ⟨kz2, kc2, kf2⟩, ⟨kz3, kc3, kf3⟩, ⟨kz4, kc4, kf4⟩, ⟨kz5, kc5, kf5⟩, _⟩ := hHeld.2
      go_wp2_with fail
      refine (E1.out _ (hHeld.alloc _).1).mono ?_
      rintro e w9 ⟨rfl, hb⟩
      replace hHeld : Keeps w2 [(w5.heap.size, 0, .int .i64 j0), (w5.heap.size, 1, .int .i64 j1), (w6.heap.size, 0, .int .i64 m0), (w6.heap.size, 1, .int .i64 m1), (w7.heap.size, 0, .int .i64 l0), (w7.heap.size, 1, .int .i64 l1), (w8.heap.size, 0, .int .i64 t0), (w8.heap.size, 1, .int .i64 t1)] w9 := Keeps.next ((hHeld.alloc (.cells #[.int .i64 t0, .int .i64 t1] 23)).app (newK2 (hHeld.alloc (.cells #[.int .i64 t0, .int .i64 t1] 23)))) hb
      clear hb kz0 kc0 kf0 kz1 kc1 kf1 kz2 kc2 kf2 kz3 kc3 kf3 kz4 kc4 kf4 kz5 kc5 kf5
      obtain ⟨⟨kz0, kc0, kf0⟩, ⟨kz1, kc1, kf1⟩, ⟨kz2, kc2, kf2⟩, ⟨kz3, kc3, kf3⟩, ⟨kz4, kc4, kf4⟩, ⟨kz5, kc5, kf5⟩, ⟨kz6, kc6, kf6⟩, ⟨kz7, kc7, kf7⟩, _⟩ := hHeld.2
      go_wp2_with fail
      refine (E2.out _ hHeld.1).mono ?_
      rintro e w10 ⟨rfl, hb⟩
      replace hHeld := hHeld.next hb
      clear hb kz0 kc0 kf0 kz1 kc1 kf1 kz2 kc2 kf2 kz3 kc3 kf3 kz4 kc4 kf4 kz5 kc5 kf5 kz6 kc6 kf6 kz7 kc7 kf7
      obtain ⟨⟨kz0, kc0, kf0⟩, ⟨kz1, kc1, kf1⟩, ⟨kz2, kc2, kf2⟩, ⟨kz3, kc3, kf3⟩, ⟨kz4, kc4, kf4⟩, ⟨kz5, kc5, kf5⟩, ⟨kz6, kc6, kf6⟩, ⟨kz7, kc7, kf7⟩, _⟩ := hHeld.2
      go_wp2_with fail
      refine (E3.out _ hHeld.1).mono ?_
      rintro e w11 ⟨rfl, hb⟩
      replace hHeld := hHeld.next hb
      clear hb kz0 kc0 kf0 kz1 kc1 kf1 kz2 kc2 kf2 kz3 kc3 kf3 kz4 kc4 kf4 kz5 kc5 kf5 kz6 kc6 kf6 kz7 kc7 kf7
      obtain ⟨⟨kz0, kc0, kf0⟩, ⟨kz1, kc1, kf1⟩, ⟨kz2, kc2, kf2⟩, ⟨kz3, kc3, kf3⟩, ⟨kz4, kc4, kf4⟩, ⟨kz5, kc5, kf5⟩, ⟨kz6, kc6, kf6⟩, ⟨kz7, kc7, kf7⟩, _⟩ := hHeld.2
      go_wp2_with fail
      refine (E4.out _ hHeld.1).mono ?_
      rintro e w12 ⟨rfl, hb⟩
      replace hHeld := hHeld.next hb
      clear hb kz0 kc0 kf0 kz1 kc1 kf1 kz2 kc2 kf2 kz3 kc3 kf3 kz4 kc4 kf4 kz5 kc5 kf5 kz6 kc6 kf6 kz7 kc7 kf7
      obtain ⟨⟨kz0, kc0, kf0⟩, ⟨kz1, kc1, kf1⟩, ⟨kz2, kc2, kf2⟩, ⟨kz3, kc3, kf3⟩, ⟨kz4, kc4, kf4⟩, ⟨kz5, kc5, kf5⟩, ⟨kz6, kc6, kf6⟩, ⟨kz7, kc7, kf7⟩, _⟩ := hHeld.2
      go_wp2_with fail
      refine (FE.out _ (under HB2.out hHeld.1)).mono ?_
      rintro e w13 ⟨v13, rfl, hb, ho⟩
      have HB := Lib.hid (under hHeld.1 hb)
      have RS := Lib.hid (readsS_own ho)
      clear hb ho hHeld kz0 kc0 kf0 kz1 kc1 kf1 kz2 kc2 kf2 kz3 kc3 kf3 kz4 kc4 kf4 kz5 kc5 kf5 kz6 kc6 kf6 kz7 kc7 kf7
      go_wp2_with fail
      refine (EQ.out _ _ HB.out RS.out).mono ?_
      rintro e w14 ⟨rfl, hb⟩
      have HE := Lib.hid (under HB.out hb)
      clear hb
      go_wp2_with fail
      go_ret
      exact ⟨rfl, below_then HB2.out HE.out⟩
  · have g0 : ¬ (0 : Int) < (n : Int) := by omega
    obtain ⟨rfl, rfl, rfl, rfl⟩ := hz.out (by omega)
    clear LOW HIG hz
    · skip
      go_wp2_with fail
      refine (J1.out _ hHeld.1).mono ?_
      rintro e w5 ⟨rfl, hb⟩
      replace hHeld := hHeld.next hb
      clear hb
      go_wp2_with fail
      refine (M1.out _ (hHeld.alloc _).1).mono ?_
      rintro e w6 ⟨rfl, hb⟩
      replace hHeld : Keeps w2 [(w5.heap.size, 0, .int .i64 j0), (w5.heap.size, 1, .int .i64 j1)] w6 := Keeps.next ((hHeld.alloc (.cells #[.int .i64 j0, .int .i64 j1] 23)).app (newK2 (hHeld.alloc (.cells #[.int .i64 j0, .int .i64 j1] 23)))) hb
      clear hb
      go_wp2_with fail
      refine (L1.out _ (hHeld.alloc _).1).mono ?_
      rintro e w7 ⟨rfl, hb⟩
      replace hHeld : Keeps w2 [(w5.heap.size, 0, .int .i64 j0), (w5.heap.size, 1, .int .i64 j1), (w6.heap.size, 0, .int .i64 m0), (w6.heap.size, 1, .int .i64 m1)] w7 := Keeps.next ((hHeld.alloc (.cells #[.int .i64 m0, .int .i64 m1] 23)).app (newK2 (hHeld.alloc (.cells #[.int .i64 m0, .int .i64 m1] 23)))) hb
      clear hb
      go_wp2_with fail
      refine (T1.out _ (hHeld.alloc _).1).mono ?_
      rintro e w8 ⟨rfl, hb⟩
      replace hHeld : Keeps w2 [(w5.heap.size, 0, .int .i64 j0), (w5.heap.size, 1, .int .i64 j1), (w6.heap.size, 0, .int .i64 m0), (w6.heap.size, 1, .int .i64 m1), (w7.heap.size, 0, .int .i64 l0), (w7.heap.size, 1, .int .i64 l1)] w8 := Keeps.next ((hHeld.alloc (.cells #[.int .i64 l0, .int .i64 l1] 23)).app (newK2 (hHeld.alloc (.cells #[.int .i64 l0, .int .i64 l1] 23)))) hb
      clear hb
      obtain ⟨⟨kz0, kc0, kf0⟩, ⟨kz1, kc1, kf1⟩, ⟨kz2, kc2, kf2⟩, ⟨kz3, kc3, kf3⟩, ⟨kz4, kc4, kf4⟩, ⟨kz5, kc5, kf5⟩, _⟩ := hHeld.2
      go_wp2_with fail
      refine (E1.out _ (hHeld.alloc _).1).mono ?_
      rintro e w9 ⟨rfl, hb⟩
      replace hHeld : Keeps w2 [(w5.heap.size, 0, .int .i64 j0), (w5.heap.size, 1, .int .i64 j1), (w6.heap.size, 0, .int .i64 m0), (w6.heap.size, 1, .int .i64 m1), (w7.heap.size, 0, .int .i64 l0), (w7.heap.size, 1, .int .i64 l1), (w8.heap.size, 0, .int .i64 t0), (w8.heap.size, 1, .int .i64 t1)] w9 := Keeps.next ((hHeld.alloc (.cells #[.int .i64 t0, .int .i64 t1] 23)).app (newK2 (hHeld.alloc (.cells #[.int .i64 t0, .int .i64 t1] 23)))) hb
      clear hb kz0 kc0 kf0 kz1 kc1 kf1 kz2 kc2 kf2 kz3 kc3 kf3 kz4 kc4 kf4 kz5 kc5 kf5
      obtain ⟨⟨kz0, kc0, kf0⟩, ⟨kz1, kc1, kf1⟩, ⟨kz2, kc2, kf2⟩, ⟨kz3, kc3, kf3⟩, ⟨kz4, kc4, kf4⟩, ⟨kz5, kc5, kf5⟩, ⟨kz6, kc6, kf6⟩, ⟨kz7, kc7, kf7⟩, _⟩ := hHeld.2
      go_wp2_with fail
      refine (E2.out _ hHeld.1).mono ?_
      rintro e w10 ⟨rfl, hb⟩
      replace hHeld := hHeld.next hb
      clear hb kz0 kc0 kf0 kz1 kc1 kf1 kz2 kc2 kf2 kz3 kc3 kf3 kz4 kc4 kf4 kz5 kc5 kf5 kz6 kc6 kf6 kz7 kc7 kf7
      obtain ⟨⟨kz0, kc0, kf0⟩, ⟨kz1, kc1, kf1⟩, ⟨kz2, kc2, kf2⟩, ⟨kz3, kc3, kf3⟩, ⟨kz4, kc4, kf4⟩, ⟨kz5, kc5, kf5⟩, ⟨kz6, kc6, kf6⟩, ⟨kz7, kc7, kf7⟩, _⟩ := hHeld.2
      go_wp2_with fail
      refine (E3.out _ hHeld.1).mono ?_
      rintro e w11 ⟨rfl, hb⟩
      replace hHeld := hHeld.next hb
      clear hb kz0 kc0 kf0 kz1 kc1 kf1 kz2 kc2 kf2 kz3 kc3 kf3 kz4 kc4 kf4 kz5 kc5 kf5 kz6 kc6 kf6 kz7 kc7 kf7
      obtain ⟨⟨kz0, kc0, kf0⟩, ⟨kz1, kc1, kf1⟩, ⟨kz2, kc2, kf2⟩, ⟨kz3, kc3, kf3⟩, ⟨kz4, kc4, kf4⟩, ⟨kz5, kc5, kf5⟩, ⟨kz6, kc6, kf6⟩, ⟨kz7, kc7, kf7⟩, _⟩ := hHeld.2
      go_wp2_with fail
      refine (E4.out _ hHeld.1).mono ?_
      rintro e w12 ⟨rfl, hb⟩
      replace hHeld := hHeld.next hb
      clear hb kz0 kc0 kf0 kz1 kc1 kf1 kz2 kc2 kf2 kz3 kc3 kf3 kz4 kc4 kf4 kz5 kc5 kf5 kz6 kc6 kf6 kz7 kc7 kf7
      obtain ⟨⟨kz0, kc0, kf0⟩, ⟨kz1, kc1, kf1⟩, ⟨kz2, kc2, kf2⟩, ⟨kz3, kc3, kf3⟩, ⟨kz4, kc4, kf4⟩, ⟨kz5, kc5, kf5⟩, ⟨kz6, kc6, kf6⟩, ⟨kz7, kc7, kf7⟩, _⟩ := hHeld.2
      go_wp2_with fail
      refine (FE.out _ (under HB2.out hHeld.1)).mono ?_
      rintro e w13 ⟨v13, rfl, hb, ho⟩
      have HB := Lib.hid (under hHeld.1 hb)
      have RS := Lib.hid (readsS_own ho)
      clear hb ho hHeld kz0 kc0 kf0 kz1 kc1 kf1 kz2 kc2 kf2 kz3 kc3 kf3 kz4 kc4 kf4 kz5 kc5 kf5 kz6 kc6 kf6 kz7 kc7 kf7
      go_wp2_with fail
      refine (EQ.out _ _ HB.out RS.out).mono ?_
      rintro e w14 ⟨rfl, hb⟩
      have HE := Lib.hid (under HB.out hb)
      clear hb
      go_wp2_with fail
      go_ret
      exact ⟨rfl, below_then HB2.out HE.out⟩
theorem joins_any (l : List (Int × Int)) (hl : l.length ≤ 9223372036854775807) (v : Value) (w : World) (h : ReadsS w v l) (hr : ∀ A n c, v = .slice A n c → n ≤ c) : Calls Try.prog 4 #[v] w (Ret w (.bool true)) := by
  have FE := fun W hW => few_any l hl v W (ReadsS.below h hW) hr
  have hn : (l.take 20).length ≤ 20 := by rw [List.length_take]; omega
  generalize l.take 20 = P at *
  cases P with
  | nil =>
    refine joins_walk [] 0 rfl (by omega) 0 0 0 0 (fun h => by omega) (fun _ => ⟨rfl, rfl, rfl, rfl⟩) 0 0 9 0 0 9 0 0 9 0 0 9 rfl rfl rfl rfl (fun q0 q1 cd lo hi k => ?_) v w FE
    simp only [Prod.mk.injEq, or_self] at k
    obtain ⟨rfl, rfl, rfl, rfl, rfl⟩ := k
    exact Or.inr (Or.inl ⟨rfl, Or.inl rfl, rfl, rfl, rfl⟩)
  | cons s t =>
    obtain ⟨a0, a1, b0, b1, e1, e2, e3, e4, hE⟩ := ends_of s t
    cases hb : badS (s :: t) with
    | true =>
      have hr : ∀ f g, resS f g (s :: t) = .tuple #[spV 0 0, .int .i64 140] := fun f g => by unfold resS; rw [if_neg (by simp), hb, if_pos rfl]
      have hm : meetR (s :: t) = (0, 0, 140) := by unfold meetR; rw [if_neg (by simp), hb, if_pos rfl]
      refine joins_walk (s :: t) _ rfl hn a0 a1 b0 b1 (fun _ => hE) (fun h => by simp at h) 0 0 140 0 0 140 0 0 140 0 0 140 (hr _ _) hm (hr _ _) (hr _ _) (fun q0 q1 cd lo hi k => ?_) v w FE
      refine Or.inl ⟨hb, ?_⟩
      rcases k with k | k | k | k <;> (simp only [Prod.mk.injEq] at k; exact ⟨k.1, k.2.1, k.2.2.1⟩)
    | false =>
      have hR : ∀ x ∈ s :: t, x.1 ≤ x.2 := fun x hx => by
        unfold badS at hb
        rw [List.any_eq_false] at hb
        have := hb x hx
        simp at this
        omega
      obtain ⟨x1, h1, g1⟩ := hE.a0
      obtain ⟨x2, h2, g2⟩ := hE.a1
      obtain ⟨x3, h3, g3⟩ := hE.b0
      have f1 := hE.all _ h1
      have f2 := hE.all _ h2
      have f3 := hE.all _ h3
      have r1 := hR _ h1
      have r2 := hR _ h2
      have r3 := hR _ h3
      have hM : meetR (s :: t) = if a1 < b0 then (0, 0, 9) else (b0, a1, 0) := by
        unfold meetR
        rw [if_neg (by simp), hb, if_neg (by simp), e4]
      by_cases g : a1 < b0
      · rw [if_pos g] at hM
        refine joins_walk (s :: t) _ rfl hn a0 a1 b0 b1 (fun _ => hE) (fun h => by simp at h) a0 b1 0 0 0 9 a0 a1 0 b0 b1 0 (resS_good _ _ _ _ hR e3) hM (resS_good _ _ _ _ hR e1) (resS_good _ _ _ _ hR e2) (fun q0 q1 cd lo hi k => ?_) v w FE
        rcases k with k | k | k | k <;> (simp only [Prod.mk.injEq] at k; obtain ⟨rfl, rfl, rfl, rfl, rfl⟩ := k)
        · exact Or.inr (Or.inr ⟨hb, by simp, by omega, rfl, rfl, rfl⟩)
        · exact Or.inr (Or.inl ⟨hb, Or.inr g, rfl, rfl, rfl⟩)
        · exact Or.inr (Or.inr ⟨hb, by simp, by omega, rfl, rfl, rfl⟩)
        · exact Or.inr (Or.inr ⟨hb, by simp, by omega, rfl, rfl, rfl⟩)
      · rw [if_neg g] at hM
        refine joins_walk (s :: t) _ rfl hn a0 a1 b0 b1 (fun _ => hE) (fun h => by simp at h) a0 b1 0 b0 a1 0 a0 a1 0 b0 b1 0 (resS_good _ _ _ _ hR e3) hM (resS_good _ _ _ _ hR e1) (resS_good _ _ _ _ hR e2) (fun q0 q1 cd lo hi k => ?_) v w FE
        rcases k with k | k | k | k <;> (simp only [Prod.mk.injEq] at k; obtain ⟨rfl, rfl, rfl, rfl, rfl⟩ := k)
        · exact Or.inr (Or.inr ⟨hb, by simp, by omega, rfl, rfl, rfl⟩)
        · exact Or.inr (Or.inr ⟨hb, by simp, by omega, rfl, rfl, rfl⟩)
        · exact Or.inr (Or.inr ⟨hb, by simp, by omega, rfl, rfl, rfl⟩)
        · exact Or.inr (Or.inr ⟨hb, by simp, by omega, rfl, rfl, rfl⟩)
end Go.Proofs.Ytmnndbafljngiaa
