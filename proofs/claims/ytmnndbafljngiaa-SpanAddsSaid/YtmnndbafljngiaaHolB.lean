/-
  The walk of the law SpanHolds. Conditions: those written at each fact.
-/
import Derived.Test.YtmnndbafljngiaaHol
namespace Go.Proofs.Ytmnndbafljngiaa
open Go.RowKit

set_option maxRecDepth 100000 in
set_option maxHeartbeats 4000000 in
theorem holds_none (v : Value) (w : World) (GU : ∀ W, Below w.heap.size w W → Calls Try.prog 40 #[v] W (GotG W [])) : Calls Try.prog 7 #[v] w (Ret w (.bool true)) := by
  have WK := Lib.hid (fun W => wakes_any W)
  replace GU := Lib.hid GU
  have rn : ∀ W, ReadsS W (.slice none 0 0) [] := fun W => ⟨none, 0, rfl, fun i s h => by simp at h⟩
  have JO := Lib.hid (fun W => (show Calls Try.prog 27 #[.slice none 0 0] W (Ret W (.tuple #[spV 0 0, .int .i64 9])) from joinR_any [] (by simp) _ W (rn W)))
  have PL := Lib.hid (fun W => (show Calls Try.prog 33 #[.slice none 0 0] W (Ret W (.tuple #[spV 0 0, .int .i64 0])) from plus_any [] (fun s hs => by simp at hs) (by simp) _ W (rn W)))
  clear rn
  go_enter Try.func7, Try.ntmps7
  go_wp2_with fail
  refine (WK.out _).mono ?_
  rintro e w1 ⟨rfl, hb1⟩
  have HB1 := Lib.hid hb1
  clear hb1
  go_wp2_with fail
  refine (GU.out _ HB1.out).mono ?_
  rintro e w2 ⟨v1, v2, rfl, hb2, ho1, ho2⟩
  obtain ⟨A, c, rfl⟩ : ∃ A c, v1 = .slice A 0 c := by
    obtain ⟨A, c, e, _⟩ := readsS_own (l := []) ho1
    exact ⟨A, c, e⟩
  have HB2 := Lib.hid (under HB1.out hb2)
  clear hb2 ho1 ho2
  go_wp2_with fail
  refine (JO.out _).mono ?_
  rintro e w3 ⟨rfl, hb3⟩
  have HB3 := Lib.hid (under HB2.out hb3)
  clear hb3
  go_wp2_with fail
  refine (PL.out _).mono ?_
  rintro e w4 ⟨rfl, hb4⟩
  have HB4 := Lib.hid (below_then (HB3.out.alloc HB3.out.size _) hb4)
  clear hb4
  go_wp2_with fail
  go_ret
  exact ⟨rfl, HB4.out.alloc HB4.out.size _⟩

set_option maxRecDepth 100000 in
set_option maxHeartbeats 8000000 in
theorem holds_some (s0 : Int × Int) (t0 : List (Int × Int)) (P : List (Int × Int)) (hP : P = s0 :: t0) (Q : List Int) (n : Nat) (hn : P.length = n) (hn1 : 1 ≤ n) (hn2 : n ≤ 20) (hPQ : PairPQ P Q) (hR : ∀ s ∈ P, s.1 ≤ s.2) (hO : OkS P) (a0 a1 b0 b1 : Int) (hE : Ends P a0 a1 b0 b1)
    (LE0 : resS min min P = .tuple #[spV a0 a1, .int .i64 0]) (MO0 : resS max max P = .tuple #[spV b0 b1, .int .i64 0]) (JO0 : resS min max P = .tuple #[spV a0 b1, .int .i64 0])
    (v : Value) (w : World) (GU : ∀ W, Below w.heap.size w W → Calls Try.prog 40 #[v] W fun e w' => ∃ g1 c1 g2 c2, e = .returned (.tuple #[.slice (some ⟨g1, 0, none⟩) n c1, .slice (some ⟨g2, 0, none⟩) n c2]) ∧ Below W.heap.size W w' ∧ OwnS w' g1 c1 P ∧ OwnI w' g2 c2 Q ∧ n ≤ c1 ∧ n ≤ c2) :
    Calls Try.prog 7 #[v] w (Ret w (.bool true)) := by
  have WK := Lib.hid (fun W => wakes_any W)
  replace GU := Lib.hid GU
  have LE := fun v W k => leastR_any P (by omega) v W k
  have MO := fun v W k => mostR_any P (by omega) v W k
  have JO := fun v W k => joinR_any P (by omega) v W k
  rw [LE0] at LE
  rw [MO0] at MO
  rw [JO0] at JO
  replace LE := Lib.hid LE
  replace MO := Lib.hid MO
  replace JO := Lib.hid JO
  have HA := Lib.hid (fun lo hi v W => has_any lo hi v W)
  have WI := Lib.hid (fun a b c d W => within_any a b c d W)
  have HN := Lib.hid hn
  have HPQ := Lib.hid hPQ
  have HR := Lib.hid hR
  have HO := Lib.hid hO
  have HE := Lib.hid hE
  have HP := Lib.hid hP
  clear hPQ hR hO hE hP LE0 MO0 JO0 hn
  obtain ⟨q0, HQ0⟩ : ∃ q0, Hid (Q[0]? = some q0) := ⟨_, Lib.hid (List.getElem?_eq_getElem (by have := HPQ.out.1; have := HN.out; omega))⟩
  go_enter Try.func7, Try.ntmps7
  go_wp2_with fail
  refine (WK.out _).mono ?_
  rintro e w1 ⟨rfl, hb1⟩
  have HB1 := Lib.hid hb1
  clear hb1
  go_wp2_with fail
  refine (GU.out _ HB1.out).mono ?_
  rintro e w2 ⟨g1, cc1, g2, cc2, rfl, hb2, ho1, ho2, hc1, hc2⟩
  have HB2 := Lib.hid (under HB1.out hb2)
  have O1 := Lib.hid ho1
  have O2 := Lib.hid ho2
  obtain ⟨z0, z1, z2, z3⟩ := ho2 0 q0 HQ0.out
  have n0 : ((n : Int) == 0) = false := by rw [beq_eq_false_iff_ne]; omega
  have n1 : (0 : Int) < (n : Int) := by omega
  clear hb2 ho1 ho2 HB1 GU WK
  go_wp2_with fail
  go_quiet (fail)
  go_wp2_with fail
  have RD := Lib.hid (show ∀ W, Below w2.heap.size w2 W → ReadsS W (.slice (some ⟨g1, 0, none⟩) n cc1) P from fun W hW => by have := (O1.out.below hW).reads; rwa [HN.out] at this)
  have HQN := Lib.hid (show Q.length = n by rw [HPQ.out.1]; exact HN.out)
  clear z0 z1 z2 z3 n0
  go_loopw [9, 10, 59] (fun u v i wr => ∃ (k : Nat) (m M : Int), u = .int .i64 m ∧ v = .int .i64 M ∧ i = .int .i64 k ∧ k ≤ n ∧ Hid (m ∈ Q ∧ M ∈ Q ∧ ∀ q ∈ Q.take k, m ≤ q ∧ q ≤ M) ∧ Below w2.heap.size w2 wr) (fun _ _ i _ => n - (intOf i).toNat)
  case atStart => exact ⟨0, q0, q0, rfl, rfl, rfl, by omega, Lib.hid ⟨List.mem_of_getElem? HQ0.out, List.mem_of_getElem? HQ0.out, by simp⟩, drewN_below (Below.refl _ _) _⟩
  case round =>
    obtain ⟨k, m, M, rfl, rfl, rfl, hkn, HM, hB⟩ := hrel
    by_cases gk : k < n
    · obtain ⟨q, hq⟩ : ∃ q, Q[k]? = some q := ⟨_, List.getElem?_eq_getElem (by have := HQN.out; omega)⟩
      obtain ⟨y0, y1, y2, y3⟩ := (O2.out.below hB) k q hq
      have i1 : (k : Int) < (n : Int) := by omega
      have i0 : (0 : Int) ≤ (k : Int) := by omega
      have HQ := Lib.hid hq
      have HT : Hid (∀ q' ∈ Q.take (k + 1), q' ∈ Q.take k ∨ q' = q) := Lib.hid fun q' h' => by
        obtain ⟨a1, e1⟩ := List.getElem?_eq_some_iff.1 HQ.out
        rw [List.take_succ_eq_append_getElem a1, e1] at h'
        simpa using h'
      clear hq
      go_wp2_with fail
      all_goals
        go_roundw
        case rel =>
          refine ⟨k + 1, _, _, rfl, rfl, by simp, by omega, Lib.hid ⟨?_, ?_, fun q' h' => ?_⟩, hB⟩
          · split
            · exact List.mem_of_getElem? HQ.out
            · exact HM.out.1
          · split
            · exact List.mem_of_getElem? HQ.out
            · exact HM.out.2.1
          · rcases HT.out q' h' with h2 | rfl
            · have := HM.out.2.2 q' h2
              split <;> split <;> omega
            · split <;> split <;> omega
        case measure => simp [intOf]; omega
    · have i1 : ¬ (k : Int) < (n : Int) := by omega
      have ET : Q.take k = Q := List.take_of_length_le (by have := HQN.out; omega)
      have FA := holds_facts HPQ.out HR.out HE.out
      obtain ⟨f1, f2, f3, f4, f5, f6, f7, f8⟩ := FA
      have FM := HM.out
      rw [ET] at FM
      have m1 := (f1 _ FM.1).1
      have m2 := f2 m (fun q h => (FM.2.2 q h).1)
      have m3 := f3 M (fun q h => (FM.2.2 q h).2)
      have m4 := (f1 _ FM.2.1).2
      have HA1 := Lib.hid (fun W => (show Calls Try.prog 15 #[spV a0 a1, .int .i64 m] W (Ret W (.bool true)) from by have := HA.out a0 a1 m W; rwa [decide_eq_true m1, decide_eq_true m2] at this))
      have HA2 := Lib.hid (fun W => (show Calls Try.prog 15 #[spV b0 b1, .int .i64 M] W (Ret W (.bool true)) from by have := HA.out b0 b1 M W; rwa [decide_eq_true m3, decide_eq_true m4] at this))
      have F4 := Lib.hid f4
      have HF := Lib.hid (show a0 ≤ a1 ∧ b0 ≤ b1 ∧ a0 ≤ b0 ∧ a1 ≤ b1 from ⟨f5, f6, f7, f8⟩)
      clear ET FM f1 f2 f3 f4 f5 f6 f7 f8 HM m1 m2 m3 m4
      go_wp2_with fail
      refine (LE.out _ _ (RD.out _ hB)).mono ?_
      rintro e w3 ⟨rfl, hb⟩
      have hHeld : Keeps w2 [] w3 := ⟨under hB hb, trivial⟩
      clear hb
      go_wp2_with fail
      refine (MO.out _ _ (RD.out _ (hHeld.alloc _).1)).mono ?_
      rintro e w4 ⟨rfl, hb⟩
      replace hHeld : Keeps w2 [(w3.heap.size, 0, .int .i64 a0), (w3.heap.size, 1, .int .i64 a1)] w4 := Keeps.next ((hHeld.alloc (.cells #[.int .i64 a0, .int .i64 a1] 23)).app (newK2 (hHeld.alloc (.cells #[.int .i64 a0, .int .i64 a1] 23)))) hb
      clear hb
      go_wp2_with fail
      refine (JO.out _ _ (RD.out _ (hHeld.alloc _).1)).mono ?_
      rintro e w5 ⟨rfl, hb⟩
      replace hHeld : Keeps w2 [(w3.heap.size, 0, .int .i64 a0), (w3.heap.size, 1, .int .i64 a1), (w4.heap.size, 0, .int .i64 b0), (w4.heap.size, 1, .int .i64 b1)] w5 := Keeps.next ((hHeld.alloc (.cells #[.int .i64 b0, .int .i64 b1] 23)).app (newK2 (hHeld.alloc (.cells #[.int .i64 b0, .int .i64 b1] 23)))) hb
      clear hb
      obtain ⟨⟨kz0, kc0, kf0⟩, ⟨kz1, kc1, kf1⟩, ⟨kz2, kc2, kf2⟩, ⟨kz3, kc3, kf3⟩, _⟩ := hHeld.2
      go_wp2_with fail
      refine (HA1.out _).mono ?_
      rintro e w6 ⟨rfl, hb⟩
      replace hHeld : Keeps w2 [(w3.heap.size, 0, .int .i64 a0), (w3.heap.size, 1, .int .i64 a1), (w4.heap.size, 0, .int .i64 b0), (w4.heap.size, 1, .int .i64 b1), (w5.heap.size, 0, .int .i64 a0), (w5.heap.size, 1, .int .i64 b1)] w6 := Keeps.next ((hHeld.alloc (.cells #[.int .i64 a0, .int .i64 b1] 23)).app (newK2 (hHeld.alloc (.cells #[.int .i64 a0, .int .i64 b1] 23)))) hb
      clear hb kz0 kc0 kf0 kz1 kc1 kf1 kz2 kc2 kf2 kz3 kc3 kf3
      obtain ⟨⟨kz0, kc0, kf0⟩, ⟨kz1, kc1, kf1⟩, ⟨kz2, kc2, kf2⟩, ⟨kz3, kc3, kf3⟩, ⟨kz4, kc4, kf4⟩, ⟨kz5, kc5, kf5⟩, _⟩ := hHeld.2
      go_wp2_with fail
      refine (HA2.out _).mono ?_
      rintro e w7 ⟨rfl, hb⟩
      replace hHeld := hHeld.next hb
      clear hb kz0 kc0 kf0 kz1 kc1 kf1 kz2 kc2 kf2 kz3 kc3 kf3 kz4 kc4 kf4 kz5 kc5 kf5 HA1 HA2
      obtain ⟨⟨kz0, kc0, kf0⟩, ⟨kz1, kc1, kf1⟩, ⟨kz2, kc2, kf2⟩, ⟨kz3, kc3, kf3⟩, ⟨kz4, kc4, kf4⟩, ⟨kz5, kc5, kf5⟩, _⟩ := hHeld.2
      go_wp2_with fail
      clear hB gk hkn i1
      have B7 := Lib.hid hHeld.1
      have S7 := Lib.hid hHeld
      clear hHeld kz0 kc0 kf0 kz1 kc1 kf1 kz2 kc2 kf2 kz3 kc3 kf3 kz4 kc4 kf4 kz5 kc5 kf5 LE MO JO
      go_loopw [19, 109] (fun u i wr => ∃ (k : Nat) (m : Int), u = .int .u64 m ∧ i = .int .i64 k ∧ k ≤ n ∧ Hid (0 ≤ m ∧ m < 18446744073709551616 ∧ ∀ s ∈ P.take k, s.2 - s.1 ≤ m) ∧ Keeps w2 [(w3.heap.size, 0, .int .i64 a0), (w3.heap.size, 1, .int .i64 a1), (w4.heap.size, 0, .int .i64 b0), (w4.heap.size, 1, .int .i64 b1), (w5.heap.size, 0, .int .i64 a0), (w5.heap.size, 1, .int .i64 b1)] wr) (fun _ i _ => n - (intOf i).toNat)
      case atStart => exact ⟨0, 0, rfl, rfl, by omega, Lib.hid ⟨by omega, by omega, by simp⟩, S7.out⟩
      case round =>
        obtain ⟨k, m, rfl, rfl, hkn, HM, hHeld⟩ := hrel
        by_cases gk : k < n
        · obtain ⟨⟨x, y⟩, hs⟩ : ∃ s, P[k]? = some s := ⟨_, List.getElem?_eq_getElem (by have := HN.out; omega)⟩
          obtain ⟨q, hq⟩ : ∃ q, Q[k]? = some q := ⟨_, List.getElem?_eq_getElem (by have := HQN.out; omega)⟩
          obtain ⟨y0, y1, y2, y3⟩ := (O2.out.below hHeld.1) k q hq
          obtain ⟨x0, x1, x2, x3, x4, x5⟩ := (O1.out.below hHeld.1) k _ hs
          simp only at x1 x2
          have pq := HPQ.out.2 k _ q hs hq
          have hsm := List.mem_of_getElem? hs
          have xy := HR.out _ hsm
          have en := HE.out.all _ hsm
          have ob := HO.out _ hsm
          simp only at pq xy en ob
          have i1 : (k : Int) < (n : Int) := by omega
          have i0 : (0 : Int) ≤ (k : Int) := by omega
          have HS1 := Lib.hid (fun W => (show Calls Try.prog 15 #[spV x y, .int .i64 q] W (Ret W (.bool true)) from by have := HA.out x y q W; rwa [decide_eq_true pq.1, decide_eq_true pq.2] at this))
          have HJ1 := Lib.hid (fun W => (show Calls Try.prog 15 #[spV a0 b1, .int .i64 q] W (Ret W (.bool true)) from by have := HA.out a0 b1 q W; rwa [decide_eq_true (show a0 ≤ q by omega), decide_eq_true (show q ≤ b1 by omega)] at this))
          have WI1 := Lib.hid (fun W => (show Calls Try.prog 17 #[spV x y, spV a0 b1] W (Ret W (.bool true)) from by have := WI.out x y a0 b1 W; rwa [show withinB x y a0 b1 = true from by unfold withinB; exact decide_eq_true ⟨xy, by have := HF.out; omega, by omega, by omega⟩] at this))
          have WD1 := Lib.hid (fun W => (show Calls Try.prog 18 #[spV x y] W (Ret W (.int .u64 (y - x))) from by have := width_any x y ob.1 ob.2.2.2 W; rwa [if_neg (by omega)] at this))
          have HT : Hid (∀ s' ∈ P.take (k + 1), s' ∈ P.take k ∨ s' = (x, y)) := Lib.hid fun s' h' => by
            obtain ⟨a1, e1⟩ := List.getElem?_eq_some_iff.1 hs
            rw [List.take_succ_eq_append_getElem a1, e1] at h'
            simpa using h'
          have HXY := Lib.hid (show 0 ≤ y - x ∧ y - x < 18446744073709551616 from by omega)
          clear hq hs pq hsm xy en ob
          go_wp2_with fail
          have HK := ((hHeld.app (show Keeps w2 [(g2, k, .int .i64 q)] wr from ⟨hHeld.1, ⟨y0, y1, y2⟩, trivial⟩)).alloc (.cells #[.int .i64 x, .int .i64 y] 23)).app (newK2 (hHeld.alloc (.cells #[.int .i64 x, .int .i64 y] 23)))
          refine region_keeps (w0 := w2) (L := [(w3.heap.size, 0, .int .i64 a0), (w3.heap.size, 1, .int .i64 a1), (w4.heap.size, 0, .int .i64 b0), (w4.heap.size, 1, .int .i64 b1), (w5.heap.size, 0, .int .i64 a0), (w5.heap.size, 1, .int .i64 b1), (g2, k, .int .i64 q), (wr.heap.size, 0, .int .i64 x), (wr.heap.size, 1, .int .i64 y)]) (by kernel_rfl) HK (fun hHeld0 => ?_)
          refine wpAnyH_take (i := 0) (oi := ⟨some 114, _, _, _, _, _⟩) (v := ?_) rfl (by kernel_rfl) (by kernel_rfl) (by kernel_rfl) (fun _ _ _ h => h) (Or.inl ⟨by rfl, ?_⟩) (by assumption) ?_
          rotate_left
          · intro wq hSw; obtain ⟨⟨qz0, qc0, qf0⟩, ⟨qz1, qc1, qf1⟩, ⟨qz2, qc2, qf2⟩, ⟨qz3, qc3, qf3⟩, ⟨qz4, qc4, qf4⟩, ⟨qz5, qc5, qf5⟩, ⟨qz6, qc6, qf6⟩, ⟨qz7, qc7, qf7⟩, ⟨qz8, qc8, qf8⟩, _⟩ := hSw.2; go_simp; (try with_reducible rfl)
          try simp only [Act.put, List.setIfInBounds_toArray, List.set_cons_zero, List.set_cons_succ]
          refine wpAnyH_take (i := 1) (oi := ⟨some 115, _, _, _, _, _⟩) (v := ?_) rfl (by kernel_rfl) (by kernel_rfl) (by kernel_rfl) (fun _ _ _ h => h) (Or.inl ⟨by rfl, ?_⟩) (by assumption) ?_
          rotate_left
          · intro wq hSw; go_simp; (try with_reducible rfl)
          try simp only [Act.put, List.setIfInBounds_toArray, List.set_cons_zero, List.set_cons_succ]
          refine wpAnyH_take (i := 2) (oi := ⟨some 116, _, _, _, _, _⟩) (v := ?_) rfl (by kernel_rfl) (by kernel_rfl) (by kernel_rfl) (fun _ _ _ h => h) (Or.inl ⟨by rfl, ?_⟩) (by assumption) ?_
          rotate_left
          · intro wq hSw; go_simp; (try with_reducible rfl)
          try simp only [Act.put, List.setIfInBounds_toArray, List.set_cons_zero, List.set_cons_succ]
          refine wpAnyH_take (i := 3) (oi := ⟨some 117, _, _, _, _, _⟩) (v := ?_) rfl (by kernel_rfl) (by kernel_rfl) (by kernel_rfl) (fun _ _ _ h => h) (Or.inl ⟨by rfl, ?_⟩) (by assumption) ?_
          rotate_left
          · intro wq hSw; go_simp; (try with_reducible rfl)
          try simp only [Act.put, List.setIfInBounds_toArray, List.set_cons_zero, List.set_cons_succ]
          refine wpAnyH_take (i := 4) (oi := ⟨some 118, _, _, _, _, _⟩) (v := ?_) rfl (by kernel_rfl) (by kernel_rfl) (by kernel_rfl) (fun _ _ _ h => h) (Or.inl ⟨by rfl, ?_⟩) (by assumption) ?_
          rotate_left
          · intro wq hSw; obtain ⟨⟨qz0, qc0, qf0⟩, ⟨qz1, qc1, qf1⟩, ⟨qz2, qc2, qf2⟩, ⟨qz3, qc3, qf3⟩, ⟨qz4, qc4, qf4⟩, ⟨qz5, qc5, qf5⟩, ⟨qz6, qc6, qf6⟩, ⟨qz7, qc7, qf7⟩, ⟨qz8, qc8, qf8⟩, _⟩ := hSw.2; go_simp; (try with_reducible rfl)
          try simp only [Act.put, List.setIfInBounds_toArray, List.set_cons_zero, List.set_cons_succ]
          refine wpAnyH_ready (rs := [5]) (by kernel_rfl) (by simp) ?_
          refine AllReadyH.cons (o := ⟨some 119, _, _, _, _, _⟩) rfl (fun K hK => ?_) AllReadyH.nil
          go_simp
          (first | ((with_reducible refine (HS1.out _).mono ?_); rintro e w8 ⟨rfl, hb⟩) | ((with_reducible refine (HJ1.out _).mono ?_); rintro e w9 ⟨rfl, hb⟩) | ((with_reducible refine (WI1.out _).mono ?_); rintro e w10 ⟨rfl, hb⟩))
          refine hK.out _ _ (hHeld0.next hb) (fun hHeld1 => ?_)
          clear hK K
          try clear hb
          try simp only [Act.put, List.setIfInBounds_toArray, List.set_cons_zero, List.set_cons_succ]
          refine wpAnyH_take (i := 6) (oi := ⟨some 120, _, _, _, _, _⟩) (v := ?_) rfl (by kernel_rfl) (by kernel_rfl) (by kernel_rfl) (fun _ _ _ h => h) (Or.inl ⟨by rfl, ?_⟩) (by assumption) ?_
          rotate_left
          · intro wq hSw; go_simp; (try with_reducible rfl)
          try simp only [Act.put, List.setIfInBounds_toArray, List.set_cons_zero, List.set_cons_succ]
          refine wpAnyH_take (i := 7) (oi := ⟨some 121, _, _, _, _, _⟩) (v := ?_) rfl (by kernel_rfl) (by kernel_rfl) (by kernel_rfl) (fun _ _ _ h => h) (Or.inl ⟨by rfl, ?_⟩) (by assumption) ?_
          rotate_left
          · intro wq hSw; go_simp; (try with_reducible rfl)
          try simp only [Act.put, List.setIfInBounds_toArray, List.set_cons_zero, List.set_cons_succ]
          refine wpAnyH_take (i := 8) (oi := ⟨some 122, _, _, _, _, _⟩) (v := ?_) rfl (by kernel_rfl) (by kernel_rfl) (by kernel_rfl) (fun _ _ _ h => h) (Or.inl ⟨by rfl, ?_⟩) (by assumption) ?_
          rotate_left
          · intro wq hSw; obtain ⟨⟨qz0, qc0, qf0⟩, ⟨qz1, qc1, qf1⟩, ⟨qz2, qc2, qf2⟩, ⟨qz3, qc3, qf3⟩, ⟨qz4, qc4, qf4⟩, ⟨qz5, qc5, qf5⟩, ⟨qz6, qc6, qf6⟩, ⟨qz7, qc7, qf7⟩, ⟨qz8, qc8, qf8⟩, _⟩ := hSw.2; go_simp; (try with_reducible rfl)
          try simp only [Act.put, List.setIfInBounds_toArray, List.set_cons_zero, List.set_cons_succ]
          refine wpAnyH_take (i := 9) (oi := ⟨some 123, _, _, _, _, _⟩) (v := ?_) rfl (by kernel_rfl) (by kernel_rfl) (by kernel_rfl) (fun _ _ _ h => h) (Or.inl ⟨by rfl, ?_⟩) (by assumption) ?_
          rotate_left
          · intro wq hSw; go_simp; (try with_reducible rfl)
          try simp only [Act.put, List.setIfInBounds_toArray, List.set_cons_zero, List.set_cons_succ]
          refine wpAnyH_take (i := 10) (oi := ⟨some 124, _, _, _, _, _⟩) (v := ?_) rfl (by kernel_rfl) (by kernel_rfl) (by kernel_rfl) (fun _ _ _ h => h) (Or.inl ⟨by rfl, ?_⟩) (by assumption) ?_
          rotate_left
          · intro wq hSw; go_simp; (try with_reducible rfl)
          try simp only [Act.put, List.setIfInBounds_toArray, List.set_cons_zero, List.set_cons_succ]
          refine wpAnyH_take (i := 11) (oi := ⟨some 125, _, _, _, _, _⟩) (v := ?_) rfl (by kernel_rfl) (by kernel_rfl) (by kernel_rfl) (fun _ _ _ h => h) (Or.inl ⟨by rfl, ?_⟩) (by assumption) ?_
          rotate_left
          · intro wq hSw; go_simp; (try with_reducible rfl)
          try simp only [Act.put, List.setIfInBounds_toArray, List.set_cons_zero, List.set_cons_succ]
          refine wpAnyH_take (i := 12) (oi := ⟨some 126, _, _, _, _, _⟩) (v := ?_) rfl (by kernel_rfl) (by kernel_rfl) (by kernel_rfl) (fun _ _ _ h => h) (Or.inl ⟨by rfl, ?_⟩) (by assumption) ?_
          rotate_left
          · intro wq hSw; obtain ⟨⟨qz0, qc0, qf0⟩, ⟨qz1, qc1, qf1⟩, ⟨qz2, qc2, qf2⟩, ⟨qz3, qc3, qf3⟩, ⟨qz4, qc4, qf4⟩, ⟨qz5, qc5, qf5⟩, ⟨qz6, qc6, qf6⟩, ⟨qz7, qc7, qf7⟩, ⟨qz8, qc8, qf8⟩, _⟩ := hSw.2; go_simp; (try with_reducible rfl)
          try simp only [Act.put, List.setIfInBounds_toArray, List.set_cons_zero, List.set_cons_succ]
          refine wpAnyH_ready (rs := [13]) (by kernel_rfl) (by simp) ?_
          refine AllReadyH.cons (o := ⟨some 127, _, _, _, _, _⟩) rfl (fun K hK => ?_) AllReadyH.nil
          go_simp
          (first | ((with_reducible refine (HS1.out _).mono ?_); rintro e w8 ⟨rfl, hb⟩) | ((with_reducible refine (HJ1.out _).mono ?_); rintro e w9 ⟨rfl, hb⟩) | ((with_reducible refine (WI1.out _).mono ?_); rintro e w10 ⟨rfl, hb⟩))
          refine hK.out _ _ (hHeld1.next hb) (fun hHeld2 => ?_)
          clear hK K
          try clear hb
          try simp only [Act.put, List.setIfInBounds_toArray, List.set_cons_zero, List.set_cons_succ]
          refine wpAnyH_take (i := 14) (oi := ⟨some 128, _, _, _, _, _⟩) (v := ?_) rfl (by kernel_rfl) (by kernel_rfl) (by kernel_rfl) (fun _ _ _ h => h) (Or.inl ⟨by rfl, ?_⟩) (by assumption) ?_
          rotate_left
          · intro wq hSw; go_simp; (try with_reducible rfl)
          try simp only [Act.put, List.setIfInBounds_toArray, List.set_cons_zero, List.set_cons_succ]
          refine wpAnyH_take (i := 15) (oi := ⟨some 129, _, _, _, _, _⟩) (v := ?_) rfl (by kernel_rfl) (by kernel_rfl) (by kernel_rfl) (fun _ _ _ h => h) (Or.inl ⟨by rfl, ?_⟩) (by assumption) ?_
          rotate_left
          · intro wq hSw; go_simp; (try with_reducible rfl)
          try simp only [Act.put, List.setIfInBounds_toArray, List.set_cons_zero, List.set_cons_succ]
          refine wpAnyH_take (i := 16) (oi := ⟨some 130, _, _, _, _, _⟩) (v := ?_) rfl (by kernel_rfl) (by kernel_rfl) (by kernel_rfl) (fun _ _ _ h => h) (Or.inl ⟨by rfl, ?_⟩) (by assumption) ?_
          rotate_left
          · intro wq hSw; go_simp; (try with_reducible rfl)
          try simp only [Act.put, List.setIfInBounds_toArray, List.set_cons_zero, List.set_cons_succ]
          refine wpAnyH_take (i := 17) (oi := ⟨some 131, _, _, _, _, _⟩) (v := ?_) rfl (by kernel_rfl) (by kernel_rfl) (by kernel_rfl) (fun _ _ _ h => h) (Or.inl ⟨by rfl, ?_⟩) (by assumption) ?_
          rotate_left
          · intro wq hSw; obtain ⟨⟨qz0, qc0, qf0⟩, ⟨qz1, qc1, qf1⟩, ⟨qz2, qc2, qf2⟩, ⟨qz3, qc3, qf3⟩, ⟨qz4, qc4, qf4⟩, ⟨qz5, qc5, qf5⟩, ⟨qz6, qc6, qf6⟩, ⟨qz7, qc7, qf7⟩, ⟨qz8, qc8, qf8⟩, _⟩ := hSw.2; go_simp; (try with_reducible rfl)
          try simp only [Act.put, List.setIfInBounds_toArray, List.set_cons_zero, List.set_cons_succ]
          refine wpAnyH_take (i := 18) (oi := ⟨some 132, _, _, _, _, _⟩) (v := ?_) rfl (by kernel_rfl) (by kernel_rfl) (by kernel_rfl) (fun _ _ _ h => h) (Or.inl ⟨by rfl, ?_⟩) (by assumption) ?_
          rotate_left
          · intro wq hSw; obtain ⟨⟨qz0, qc0, qf0⟩, ⟨qz1, qc1, qf1⟩, ⟨qz2, qc2, qf2⟩, ⟨qz3, qc3, qf3⟩, ⟨qz4, qc4, qf4⟩, ⟨qz5, qc5, qf5⟩, ⟨qz6, qc6, qf6⟩, ⟨qz7, qc7, qf7⟩, ⟨qz8, qc8, qf8⟩, _⟩ := hSw.2; go_simp; (try with_reducible rfl)
          try simp only [Act.put, List.setIfInBounds_toArray, List.set_cons_zero, List.set_cons_succ]
          refine wpAnyH_ready (rs := [19]) (by kernel_rfl) (by simp) ?_
          refine AllReadyH.cons (o := ⟨some 133, _, _, _, _, _⟩) rfl (fun K hK => ?_) AllReadyH.nil
          go_simp
          (first | ((with_reducible refine (HS1.out _).mono ?_); rintro e w8 ⟨rfl, hb⟩) | ((with_reducible refine (HJ1.out _).mono ?_); rintro e w9 ⟨rfl, hb⟩) | ((with_reducible refine (WI1.out _).mono ?_); rintro e w10 ⟨rfl, hb⟩))
          refine hK.out _ _ (hHeld2.next hb) (fun hHeld3 => ?_)
          clear hK K
          try clear hb
          try simp only [Act.put, List.setIfInBounds_toArray, List.set_cons_zero, List.set_cons_succ]
          refine wpAnyH_take (i := 20) (oi := ⟨some 134, _, _, _, _, _⟩) (v := ?_) rfl (by kernel_rfl) (by kernel_rfl) (by kernel_rfl) (fun _ _ _ h => h) (Or.inl ⟨by rfl, ?_⟩) (by assumption) ?_
          rotate_left
          · intro wq hSw; go_simp; (try with_reducible rfl)
          try simp only [Act.put, List.setIfInBounds_toArray, List.set_cons_zero, List.set_cons_succ]
          refine wpAnyH_take (i := 21) (oi := ⟨some 135, _, _, _, _, _⟩) (v := ?_) rfl (by kernel_rfl) (by kernel_rfl) (by kernel_rfl) (fun _ _ _ h => h) (Or.inl ⟨by rfl, ?_⟩) (by assumption) ?_
          rotate_left
          · intro wq hSw; go_simp; (try with_reducible rfl)
          try simp only [Act.put, List.setIfInBounds_toArray, List.set_cons_zero, List.set_cons_succ]
          refine wpAnyH_done (by kernel_rfl) ?_ _
          have hHeld := hHeld3
          obtain ⟨⟨kz0, kc0, kf0⟩, ⟨kz1, kc1, kf1⟩, ⟨kz2, kc2, kf2⟩, ⟨kz3, kc3, kf3⟩, ⟨kz4, kc4, kf4⟩, ⟨kz5, kc5, kf5⟩, ⟨kz6, kc6, kf6⟩, ⟨kz7, kc7, kf7⟩, ⟨kz8, kc8, kf8⟩, _⟩ := hHeld.2
          all_goals
            go_wp2_with fail
            refine (WD1.out _).mono ?_
            rintro e w11 ⟨rfl, hb⟩
            replace hHeld := hHeld.next hb
            clear hb
            go_wp2_with fail
            go_roundw
            case rel =>
              refine ⟨k + 1, _, rfl, by simp, by omega, Lib.hid ?_, ⟨hHeld.1, hHeld.2.1, hHeld.2.2.1, hHeld.2.2.2.1, hHeld.2.2.2.2.1, hHeld.2.2.2.2.2.1, hHeld.2.2.2.2.2.2.1, trivial⟩⟩
              have xy := HXY.out
              obtain ⟨p1, p2, p3⟩ := HM.out
              refine ⟨by split <;> omega, by split <;> omega, fun s' h' => ?_⟩
              rcases HT.out s' h' with h2 | rfl
              · have := p3 s' h2
                split <;> omega
              · simp only
                split <;> omega
            case measure => simp [intOf]; omega
        · have i1 : ¬ (k : Int) < (n : Int) := by omega
          have ET : P.take k = P := List.take_of_length_le (by have := HN.out; omega)
          have FM := HM.out
          rw [ET] at FM
          obtain ⟨f1, f2⟩ := F4.out m FM.2.2
          obtain ⟨f5, f6, f7, f8⟩ := HF.out
          obtain ⟨e1, h1, e2⟩ := HE.out.a0
          obtain ⟨e3, h3, e4⟩ := HE.out.a1
          obtain ⟨e5, h5, e6⟩ := HE.out.b0
          obtain ⟨e7, h7, e8⟩ := HE.out.b1
          have o1 := HO.out _ h1
          have o3 := HO.out _ h3
          have o5 := HO.out _ h5
          have o7 := HO.out _ h7
          have W1 := Lib.hid (fun W => (show Calls Try.prog 18 #[spV a0 a1] W (Ret W (.int .u64 (a1 - a0))) from by have := width_any a0 a1 (by omega) (by omega) W; rwa [if_neg (by omega)] at this))
          have W2 := Lib.hid (fun W => (show Calls Try.prog 18 #[spV b0 b1] W (Ret W (.int .u64 (b1 - b0))) from by have := width_any b0 b1 (by omega) (by omega) W; rwa [if_neg (by omega)] at this))
          have W3 := Lib.hid (fun W => (show Calls Try.prog 17 #[spV a0 a1, spV a0 b1] W (Ret W (.bool true)) from by have := WI.out a0 a1 a0 b1 W; rwa [show withinB a0 a1 a0 b1 = true from by unfold withinB; exact decide_eq_true ⟨by omega, by omega, by omega, by omega⟩] at this))
          have W4 := Lib.hid (fun W => (show Calls Try.prog 17 #[spV b0 b1, spV a0 b1] W (Ret W (.bool true)) from by have := WI.out b0 b1 a0 b1 W; rwa [show withinB b0 b1 a0 b1 = true from by unfold withinB; exact decide_eq_true ⟨by omega, by omega, by omega, by omega⟩] at this))
          have g1 : decide (a1 - a0 ≤ m) = true := decide_eq_true f1
          have g2 : decide (b1 - b0 ≤ m) = true := decide_eq_true f2
          clear f1 f2 FM ET f5 f6 f7 f8 e1 h1 e2 e3 h3 e4 e5 h5 e6 e7 h7 e8 o1 o3 o5 o7 HM
          obtain ⟨⟨kz0, kc0, kf0⟩, ⟨kz1, kc1, kf1⟩, ⟨kz2, kc2, kf2⟩, ⟨kz3, kc3, kf3⟩, ⟨kz4, kc4, kf4⟩, ⟨kz5, kc5, kf5⟩, _⟩ := hHeld.2
          go_wp2_with fail
          refine (W1.out _).mono ?_
          rintro e w8 ⟨rfl, hb⟩
          replace hHeld := hHeld.next hb
          clear hb kz0 kc0 kf0 kz1 kc1 kf1 kz2 kc2 kf2 kz3 kc3 kf3 kz4 kc4 kf4 kz5 kc5 kf5
          obtain ⟨⟨kz0, kc0, kf0⟩, ⟨kz1, kc1, kf1⟩, ⟨kz2, kc2, kf2⟩, ⟨kz3, kc3, kf3⟩, ⟨kz4, kc4, kf4⟩, ⟨kz5, kc5, kf5⟩, _⟩ := hHeld.2
          go_wp2_with fail
          refine (W2.out _).mono ?_
          rintro e w9 ⟨rfl, hb⟩
          replace hHeld := hHeld.next hb
          clear hb kz0 kc0 kf0 kz1 kc1 kf1 kz2 kc2 kf2 kz3 kc3 kf3 kz4 kc4 kf4 kz5 kc5 kf5
          obtain ⟨⟨kz0, kc0, kf0⟩, ⟨kz1, kc1, kf1⟩, ⟨kz2, kc2, kf2⟩, ⟨kz3, kc3, kf3⟩, ⟨kz4, kc4, kf4⟩, ⟨kz5, kc5, kf5⟩, _⟩ := hHeld.2
          go_wp2_with fail
          refine (W3.out _).mono ?_
          rintro e w10 ⟨rfl, hb⟩
          replace hHeld := hHeld.next hb
          clear hb kz0 kc0 kf0 kz1 kc1 kf1 kz2 kc2 kf2 kz3 kc3 kf3 kz4 kc4 kf4 kz5 kc5 kf5
          obtain ⟨⟨kz0, kc0, kf0⟩, ⟨kz1, kc1, kf1⟩, ⟨kz2, kc2, kf2⟩, ⟨kz3, kc3, kf3⟩, ⟨kz4, kc4, kf4⟩, ⟨kz5, kc5, kf5⟩, _⟩ := hHeld.2
          go_wp2_with fail
          refine (W4.out _).mono ?_
          rintro e w11 ⟨rfl, hb⟩
          replace hHeld := hHeld.next hb
          clear hb
          go_wp2_with fail
          go_ret
          exact ⟨rfl, below_then HB2.out hHeld.1⟩
/-- What guesses leaves, where some are kept. -/
theorem guesses_some (G : List (Int × Int × Int)) (hG : OkG G) (hl : G.length ≤ 9223372036854775807) (v : Value) (W : World) (h : ReadsG W v G) (hne : keptG G ≠ []) (n : Nat) (hn : (spansG (keptG G)).length = n) :
    Calls Try.prog 40 #[v] W fun e w' => ∃ g1 c1 g2 c2, e = .returned (.tuple #[.slice (some ⟨g1, 0, none⟩) n c1, .slice (some ⟨g2, 0, none⟩) n c2]) ∧ Below W.heap.size W w' ∧ OwnS w' g1 c1 (spansG (keptG G)) ∧ OwnI w' g2 c2 (numsG (keptG G)) ∧ n ≤ c1 ∧ n ≤ c2 := by
  refine (guesses_any G hG hl v W h).mono ?_
  rintro e w' ⟨v1, v2, rfl, hb, h1, h2⟩
  have n2 : (numsG (keptG G)).length = n := by rw [← hn]; simp [numsG, spansG]
  have l0 : 0 < (keptG G).length := List.length_pos_iff.2 hne
  have l1 : 0 < (spansG (keptG G)).length := by unfold spansG; rwa [List.length_map]
  have l2 : 0 < (numsG (keptG G)).length := by unfold numsG; rwa [List.length_map]
  obtain ⟨g1, c1, rfl, o1, _⟩ := ownS_of h1 (List.ne_nil_of_length_pos l1)
  obtain ⟨g2, c2, rfl, o2, _⟩ := ownI_of h2 (List.ne_nil_of_length_pos l2)
  refine ⟨g1, c1, g2, c2, by rw [hn, n2], hb, o1, o2, ?_, ?_⟩
  · obtain ⟨_, _, _, _, _, k⟩ := o1 0 _ (List.getElem?_eq_getElem l1)
    omega
  · obtain ⟨_, _, _, k⟩ := o2 0 _ (List.getElem?_eq_getElem l2)
    omega
theorem kept_cons (G : List (Int × Int × Int)) (h : keptG G ≠ []) : ∃ s t, spansG (keptG G) = s :: t := by
  obtain ⟨x, l, e⟩ := List.exists_cons_of_ne_nil h
  exact ⟨_, _, by rw [e]; rfl⟩
theorem holds_any (G : List (Int × Int × Int)) (hG : OkG G) (hl : G.length ≤ 9223372036854775807) (v : Value) (w : World) (h : ReadsG w v G) : Calls Try.prog 7 #[v] w (Ret w (.bool true)) := by
  by_cases hne : keptG G = []
  · exact holds_none v w (fun W hW => by have := guesses_any G hG hl v W (h.below hW); rwa [hne] at this)
  · obtain ⟨s0, t0, e⟩ := kept_cons G hne
    have hR := right_kept G
    have L := keptG_length G
    have hn : (spansG (keptG G)).length ≤ 20 := by unfold spansG; rw [List.length_map]; exact L
    have hn1 : 1 ≤ (spansG (keptG G)).length := by rw [e]; simp
    obtain ⟨a0, a1, b0, b1, e1, e2, e3, _, hE⟩ := ends_of s0 t0
    rw [← e] at hE
    exact holds_some s0 t0 _ e _ _ rfl hn1 hn (pair_kept G) hR (ok_kept hG) a0 a1 b0 b1 hE
      (by rw [e]; exact resS_good _ _ _ _ (by rw [← e]; exact hR) e1) (by rw [e]; exact resS_good _ _ _ _ (by rw [← e]; exact hR) e2) (by rw [e]; exact resS_good _ _ _ _ (by rw [← e]; exact hR) e3)
      v w (fun W hW => guesses_some G hG hl v W (h.below hW) hne _ rfl)
end Go.Proofs.Ytmnndbafljngiaa
