/-
  Layer 7: the law RunsJoined holds of every input. Conditions: those of the law's row.
-/
import Derived.Test.YtlfjmdfplmdmgaaJnM
namespace Go.Proofs.Ytlfjmdfplmdmgaa
open Go.RowKit Go.Shelf

/-- A run's cells stand while a row of other cells grows. -/
theorem run_grows {w w' : World} {g B : Nat} {C : Array Value} {t e : TypeId} {s n : Nat} {v : Value} {xs : List Value} (h : w.heap[g]? = some (.cells C t)) (k : w.ownsRow B e s v n xs) (he : t ≠ e) (hg : w.grownBy w' v.ownBlock) : w'.heap[g]? = some (.cells C t) := by
  refine (hg.block g (Array.getElem?_eq_some_iff.1 h).1 (fun hx => ?_)).trans h
  obtain ⟨_, k2⟩ := k
  rcases k2 with ⟨rfl, _⟩ | ⟨g', cap', cur', z1, _, z3, _⟩
  · cases hx
  · rw [z1] at hx
    injection hx with hx
    change g = g' at hx
    subst hx
    rw [h] at z3
    injection z3 with z3
    injection z3 with _ z3 _
    exact he z3
theorem run3_cells {W : World} {g : Nat} {f s c : Value} {t : TypeId} (h : W.heap[g]? = some (.cells #[f, s, c] t)) : W.cell? ⟨g, 0, none⟩ = some f ∧ W.cell? ⟨g, 1, none⟩ = some s ∧ W.cell? ⟨g, 2, none⟩ = some c := by
  simp [World.cell?, h]
theorem alloc_at (W : World) (o : Obj) : (W.alloc o).heap[W.heap.size]? = some o := World.alloc_heap_new W _
theorem below_heap {w W : World} {g : Nat} {o : Obj} (h : Below w.heap.size w W) (k : w.heap[g]? = some o) : W.heap[g]? = some o := (h.block g (Array.getElem?_eq_some_iff.1 k).1).trans k
theorem own_grows {w0 w w' : World} {e : TypeId} {s n : Nat} {v : Value} {xs : List Value} {o : Obj} (h : Below w0.heap.size w0 w) (k : w.ownsRow w0.heap.size e s v n xs) (hg : (w.alloc o).grownBy w' v.ownBlock) : Below w0.heap.size w0 w' :=
  (h.alloc h.size o).grown hg (Nat.le_trans h.size (by simp)) (by intro k' hk'; exact (k.lt k' hk').1)
theorem step_small {r : Rn} (h : RunOk r) {j : Nat} (hj : (j : Int) < r.c) : 0 ≤ r.s * (j : Int) ∧ r.s * (j : Int) ≤ 281474976710656 ∧ 0 ≤ r.f + r.s * (j : Int) ∧ r.f + r.s * (j : Int) ≤ 281474976710656 := by
  obtain ⟨h1, h2, h3, h4, h5, h6, h7⟩ := h
  have a1 : 0 ≤ r.s * (j : Int) := Int.mul_nonneg h4 (by omega)
  have a2 : r.s * (j : Int) ≤ r.s * (r.c - 1) := Int.mul_le_mul_of_nonneg_left (by omega) h4
  rw [Int.mul_comm r.s (r.c - 1)] at a2
  omega
theorem steps_more (f s : Int) (m : Nat) : stepsR f s (m + 1) = stepsR f s m ++ [f + s * (m : Int)] := by
  rw [steps_app f s m 1, Int.mul_comm s]
  rfl
theorem times_more {q : List Rn} {k : Nat} {r : Rn} (h : q[k]? = some r) : timesR (q.take (k + 1)) = timesR (q.take k) ++ stepsR r.f r.s r.c.toNat := by
  obtain ⟨a1, e1⟩ := List.getElem?_eq_some_iff.1 h
  rw [List.take_succ_eq_append_getElem a1, e1, timesR_app]
  simp [timesR]
theorem times_part (q : List Rn) (k : Nat) : (timesR (q.take k)).length ≤ (timesR q).length := by
  have := congrArg List.length (timesR_app (q.take k) (q.drop k))
  rw [List.take_append_drop, List.length_append] at this
  omega
theorem at_place (a : Int) (n : Nat) (hn : 2 ≤ n) (hn2 : n ≤ 256) : ∃ p : Nat, 1 ≤ p ∧ p < n ∧ wrap64 (1 + wrap64 ((IntKind.u64.wrap a).tmod ((n : Int) - 1))) = (p : Int) := by
  obtain ⟨p, h1, h2, h3⟩ := place_at (IntKind.u64.wrap a) n hn hn2
  refine ⟨p, h1, h2, ?_⟩
  have h0 : 0 ≤ IntKind.u64.wrap a := by rw [IntKind.wrap_u64]; omega
  rw [Int.tmod_eq_emod_of_nonneg h0]
  have e0 := Int.emod_nonneg (IntKind.u64.wrap a) (show (n : Int) - 1 ≠ 0 by omega)
  rw [show wrap64 (IntKind.u64.wrap a % ((n : Int) - 1)) = IntKind.u64.wrap a % ((n : Int) - 1) from i64_keeps (by omega) (by omega)]
  rw [h3]
  exact i64_keeps (by omega) (by omega)

set_option maxRecDepth 100000 in
set_option maxHeartbeats 4000000 in
theorem joinC (m a b q : List Rn) (U : List Int) (n p : Nat) (g1 : 2 ≤ n) (g2 : n ≤ 256) (p1 : 1 ≤ p) (p2 : p < n) (at_ : Int) (v : Value) (w : World)
    (hp : wrap64 (1 + wrap64 ((IntKind.u64.wrap at_).tmod ((n : Int) - 1))) = (p : Int)) (hqU : Hid (timesR q = U ∧ (∀ r ∈ q, RunOk r) ∧ U.length ≤ 256)) (hq : q.length ≤ 256)
    (WK : Hid (Calls Try.prog 11 #[] w (Ret w (.bool true)))) (OW : Hid (∀ W, Below w.heap.size w W → Calls Try.prog 12 #[v] W (LaidR W m)))
    (CN : Hid (∀ v W, ReadsR W v m → Calls Try.prog 16 #[v] W (Ret W (.int .i64 (n : Int)))))
    (C1 : Hid (∀ v W, ReadsR W v m → Calls Try.prog 28 #[v, .int .i64 0, .int .i64 (p : Int)] W (GotR W a)))
    (C2 : Hid (∀ v W, ReadsR W v m → Calls Try.prog 28 #[v, .int .i64 (p : Int), .int .i64 (n : Int)] W (GotR W b)))
    (JN : Hid (∀ v u W, ReadsR W v a → ReadsR W u b → Calls Try.prog 30 #[v, u] W (GotR W m)))
    (EQ : Hid (∀ v u W, ReadsR W v m → ReadsR W u m → Calls Try.prog 19 #[v, u] W (Ret W (.bool true))))
    (CA : Hid (∀ v W, ReadsR W v a → Calls Try.prog 16 #[v] W (Ret W (.int .i64 (p : Int)))))
    (CB : Hid (∀ v W, ReadsR W v b → Calls Try.prog 16 #[v] W (Ret W (.int .i64 ((n : Int) - (p : Int))))))
    (PI : Hid (∀ v W, ReadsR W v m → Calls Try.prog 29 #[v, .int .i64 (p : Int), .int .i64 (n : Int)] W (GotR W q)))
    (TB : Hid (∀ v W, ReadsR W v b → Calls Try.prog 14 #[v] W (GotI W U)))
    (EI : Hid (∀ v u W, Reads .i64 W v U → Reads .i64 W u U → Calls Try.prog 18 #[v, u] W (Ret W (.bool true)))) :
    Calls Try.prog 8 #[v, .int .i64 at_] w (Ret w (.bool true)) := by
  obtain ⟨i0, hi, hz0, hz1, hz2⟩ := info_parts infoI64
  have i1 : ¬ (n : Int) < 2 := by omega
  have i2 : IntKind.i64.wrap ((n : Int) - 1) = (n : Int) - 1 := by rw [IntKind.wrap_i64]; omega
  have n1 : wrap64 ((n : Int) - (p : Int)) = (n : Int) - (p : Int) := i64_keeps (by omega) (by omega)
  have n2 : IntKind.i64.wrap ((n : Int) - (p : Int)) = (n : Int) - (p : Int) := by rw [IntKind.wrap_i64]; omega
  have t1 : ((p : Int) != (p : Int)) = false := by simp
  have t2 : ((n : Int) - (p : Int) != (n : Int) - (p : Int)) = false := by simp
  clear p1 p2
  go_enter Try.func8, Try.ntmps8
  go_wp2_with fail
  refine WK.out.mono ?_
  rintro e w1 ⟨rfl, hb1⟩
  go_wp2_with fail
  refine (OW.out _ hb1).mono ?_
  rintro e w2 ⟨v2, rfl, hb2, ho2⟩
  have hr2 := readsR_own ho2
  have hB2 := under hb1 hb2
  obtain ⟨A2, c2, e2, _⟩ := id hr2
  subst e2
  have H2 := Lib.hid hr2
  clear hr2 ho2 hb1 hb2
  go_wp2_with fail
  refine (CN.out _ _ H2.out).mono ?_
  rintro e w3 ⟨rfl, hb3⟩
  have hB3 := under hB2 hb3
  have H3 := Lib.hid (H2.out.below hb3)
  clear hB2 H2 hb3
  go_wp2_with fail
  refine (C1.out _ _ H3.out).mono ?_
  rintro e w4 ⟨v4, rfl, hb4, ho4⟩
  have hr4 := readsR_own ho4
  have hB4 := under hB3 hb4
  have H4 := Lib.hid (H3.out.below hb4)
  obtain ⟨A4, c4, rfl, _⟩ := id hr4
  have R4 := Lib.hid hr4
  clear hr4 ho4 hb4 hB3 H3
  go_wp2_with fail
  refine (C2.out _ _ H4.out).mono ?_
  rintro e w5 ⟨v5, rfl, hb5, ho5⟩
  have hr5 := readsR_own ho5
  have hB5 := under hB4 hb5
  have H5 := Lib.hid (H4.out.below hb5)
  have Q4 := Lib.hid (R4.out.below hb5)
  obtain ⟨A5, c5, rfl, _⟩ := id hr5
  have R5 := Lib.hid hr5
  clear hr5 ho5 hb5 hB4 H4 R4
  go_wp2_with fail
  refine (JN.out _ _ _ Q4.out R5.out).mono ?_
  rintro e w6 ⟨v6, rfl, hb6, ho6⟩
  have hr6 := readsR_own ho6
  have hB6 := under hB5 hb6
  have H6 := Lib.hid (H5.out.below hb6)
  have P4 := Lib.hid (Q4.out.below hb6)
  have P5 := Lib.hid (R5.out.below hb6)
  obtain ⟨A6, c6, rfl, _⟩ := id hr6
  have R6 := Lib.hid hr6
  clear hr6 ho6 hb6 hB5 H5 Q4 R5
  go_wp2_with fail
  refine (EQ.out _ _ _ R6.out H6.out).mono ?_
  rintro e w7 ⟨rfl, hb7⟩
  have hB7 := under hB6 hb7
  have H7 := Lib.hid (H6.out.below hb7)
  have P74 := Lib.hid (P4.out.below hb7)
  have P75 := Lib.hid (P5.out.below hb7)
  clear hb7 hB6 H6 P4 P5 R6
  go_wp2_with fail
  refine (CA.out _ _ P74.out).mono ?_
  rintro e w8 ⟨rfl, hb8⟩
  have hB8 := under hB7 hb8
  have H8 := Lib.hid (H7.out.below hb8)
  have P85 := Lib.hid (P75.out.below hb8)
  clear hb8 hB7 H7 P74 P75
  go_wp2_with fail
  refine (CB.out _ _ P85.out).mono ?_
  rintro e w9 ⟨rfl, hb9⟩
  have hB9 := under hB8 hb9
  have H9 := Lib.hid (H8.out.below hb9)
  have P95 := Lib.hid (P85.out.below hb9)
  clear hb9 hB8 H8 P85
  go_wp2_with fail
  refine (PI.out _ _ H9.out).mono ?_
  rintro e w10 ⟨v10, rfl, hb10, ho10⟩
  have hr10 := readsR_own ho10
  have hB10 := under hB9 hb10
  have P105 := Lib.hid (P95.out.below hb10)
  obtain ⟨A10, c10, rfl, _⟩ := id hr10
  have R10 := Lib.hid hr10
  clear hr10 ho10 hb10 hB9 H9 P95
  go_wp2_with fail
  refine (TB.out _ _ P105.out).mono ?_
  rintro e w11 ⟨v11, rfl, hb11, ho11⟩
  have hr11 := reads_own (k := .i64) ho11
  have hB11 := under hB10 hb11
  obtain ⟨A', c', e', hc', hk'⟩ := R10.out.below hb11
  cases e'
  have HK := Lib.hid hk'
  have RT := Lib.hid hr11
  clear hr11 ho11 hb11 hB10 R10 P105 hk' WK OW CN C1 C2 JN EQ CA CB PI TB hp i1 i2 n1 n2 t1 t2
  go_wp2_with fail
  go_loopw [15, 111] (fun u i wr => ∃ k : Nat, i = .int .i64 k ∧ k ≤ q.length ∧ Hid (wr.ownsRow w11.heap.size 2 1 u (timesR (q.take k)).length ((timesR (q.take k)).map (Value.int .i64))) ∧ Below w11.heap.size w11 wr) (fun _ i _ => q.length - (intOf i).toNat)
  case atStart => exact ⟨0, rfl, by omega, Lib.hid (World.ownsRow_nil _ _ _ _), Below.refl _ _⟩
  case round =>
    obtain ⟨k, rfl, hkl, HO, hB⟩ := hrel
    by_cases gk : k < q.length
    · obtain ⟨⟨f, s, c⟩, hx⟩ : ∃ s, q[k]? = some s := ⟨_, List.getElem?_eq_getElem gk⟩
      obtain ⟨bb, off, rfl, hbw, hc1, hc2, hc3⟩ := HK.out k _ hx
      have c1 := (hB.cell (p := ⟨bb, off + k * 3, none⟩) hbw).trans hc1
      have c2 := (hB.cell (p := ⟨bb, off + k * 3 + 1, none⟩) hbw).trans hc2
      have c3 := (hB.cell (p := ⟨bb, off + k * 3 + 2, none⟩) hbw).trans hc3
      have j1 : (k : Int) < (q.length : Int) := by omega
      have j0 : (0 : Int) ≤ (k : Int) := by omega
      have hok : RunOk ⟨f, s, c⟩ := hqU.out.2.1 _ (List.mem_of_getElem? hx)
      have HOK := Lib.hid hok
      have d1 : 1 ≤ c := hok.1
      have d2 : c ≤ 256 := hok.2.1
      have hmin : min c 256 = c := by omega
      have hmin2 : min 256 c = c := by omega
      have ET := Lib.hid (times_more hx)
      have EL : (timesR (q.take k)).length ≤ 256 := by have := times_part q k; rw [hqU.out.1] at this; have := hqU.out.2.2; omega
      simp only at c1 c2 c3
      clear hc1 hc2 hc3 hx hok
      generalize timesR (q.take k) = P at *
      go_wp2_with fail
      obtain ⟨wo, rfl⟩ : ∃ wo : World, wo = wr := ⟨_, rfl⟩
      have E0 : P ++ stepsR f s 0 = P := List.append_nil _
      go_loopw [15, 118] (fun u i wi => ∃ j : Nat, i = .int .i64 j ∧ (j : Int) ≤ c ∧ Hid (wi.ownsRow w11.heap.size 2 1 u (P ++ stepsR f s j).length ((P ++ stepsR f s j).map (Value.int .i64))) ∧ Hid (wi.heap[wo.heap.size]? = some (.cells #[.int .i64 f, .int .i64 s, .int .i64 c] 36)) ∧ Below w11.heap.size w11 wi) (fun _ i _ => (c - intOf i).toNat)
      case atStart => exact ⟨0, rfl, by omega, Lib.hid (by rw [E0]; exact HO.out.alloc _), Lib.hid (alloc_at _ _), under hB (below_alloc wo _)⟩
      case round =>
        obtain ⟨j, rfl, hjc, HI, HR, hBi⟩ := hrel
        by_cases gj : (j : Int) < c
        · obtain ⟨e1, e2, -⟩ := run3_cells HR.out
          obtain ⟨b1, b2, b3, b4⟩ := step_small HOK.out (j := j) gj
          simp only at b1 b2 b3 b4
          have e3 : wrap64 (s * (j : Int)) = s * (j : Int) := i64_keeps (by omega) (by omega)
          have e4 : wrap64 (f + s * (j : Int)) = f + s * (j : Int) := i64_keeps (by omega) (by omega)
          have EV := Lib.hid (steps_more f s j)
          have hLn : (P ++ stepsR f s j).length ≤ 512 := by rw [List.length_append, steps_length]; omega
          clear b1 b2 b3 b4
          go_wp2_with (at_builtin; go_loud (refine wpList_append_own _ rfl _ _ 26 rfl w11.heap.size 2 i0 (.int .i64 0) 1 8 Try.underlying26 hi hz0 hz1 hz2 rfl (by decide) _ _ _ rfl (HI.out.alloc _) ⟨wr.heap.size, 0, none⟩ 1 1 [.int .i64 (f + s * (j : Int))] rfl rfl ?c1 ?c2 ?c3 ?c4 ?c5 ?_))
          case c1 =>
            intro j u hj
            match j, hj with
            | 0, hj => simp at hj; subst hj; simp [Addr.add]
          case c2 => intro u hu; simp at hu; subst hu; rfl
          case c3 => unfold maxLen; omega
          case c4 => omega
          case c5 => have := hBi.size; simp; omega
          intro v' w12 hown' hgrow _
          have HR3 := Lib.hid (run_grows (below_heap (below_alloc wr _) HR.out) (HI.out.alloc _) (by decide) hgrow)
          have HO3 : Hid (w12.ownsRow w11.heap.size 2 1 v' ((P ++ stepsR f s j) ++ [f + s * (j : Int)]).length (((P ++ stepsR f s j) ++ [f + s * (j : Int)]).map (Value.int .i64))) := Lib.hid (by simpa [Nat.add_assoc] using hown')
          have hB3 := own_grows hBi HI.out hgrow
          rw [List.append_assoc, ← EV.out] at HO3
          clear hown' hgrow HI HR hBi e1 e2 e3 e4
          go_wp2_with fail
          go_roundw
          case rel => exact ⟨j + 1, by simp, by omega, HO3, HR3, hB3⟩
          case measure => simp [intOf]; omega
        · have j2 : ¬ (j : Int) < c := by omega
          have EJ : j = c.toNat := by omega
          rw [EJ, ← ET.out] at HI
          go_wp2_with fail
          go_roundw
          case rel => exact ⟨k + 1, by simp, gk, HI, hBi⟩
          case measure => exact index_less7 gk
    · have hkl2 : k = q.length := by omega
      have i1 : ¬ (k : Int) < (q.length : Int) := by omega
      have EU : timesR (q.take k) = U := by rw [hkl2, List.take_length]; exact hqU.out.1
      rw [EU] at HO
      have RO := Lib.hid (reads_own (k := .i64) HO.out)
      have RT2 := Lib.hid (RT.out.below hB)
      clear HO EU
      go_wp2_with fail
      refine (EI.out _ _ _ RO.out RT2.out).mono ?_
      rintro e w12 ⟨rfl, hb12⟩
      go_wp2_with fail
      go_ret
      exact ⟨rfl, under (under hB11 hB) hb12⟩

set_option maxRecDepth 100000 in
set_option maxHeartbeats 1000000 in
theorem joinA (m : List Rn) (n c : Int) (hnc : n = 0 ∧ c = 170 ∨ n = 1 ∧ c = 0) (at_ : Int) (v : Value) (w : World)
    (WK : Hid (Calls Try.prog 11 #[] w (Ret w (.bool true)))) (OW : Hid (∀ W, Below w.heap.size w W → Calls Try.prog 12 #[v] W (LaidR W m)))
    (CN : Hid (∀ v W, ReadsR W v m → Calls Try.prog 16 #[v] W (Ret W (.int .i64 n))))
    (CK : Hid (∀ v W, ReadsR W v m → Calls Try.prog 15 #[v] W (Ret W (.int .i64 c)))) :
    Calls Try.prog 8 #[v, .int .i64 at_] w (Ret w (.bool true)) := by
  rcases hnc with ⟨rfl, rfl⟩ | ⟨rfl, rfl⟩
  all_goals
    go_enter Try.func8, Try.ntmps8
    go_wp2_with fail
    refine WK.out.mono ?_
    rintro e w1 ⟨rfl, hb1⟩
    go_wp2_with fail
    refine (OW.out _ hb1).mono ?_
    rintro e w2 ⟨v2, rfl, hb2, ho2⟩
    have hr2 := readsR_own ho2
    have hB2 := under hb1 hb2
    obtain ⟨A2, c2, e2, _⟩ := id hr2
    subst e2
    have H2 := Lib.hid hr2
    clear hr2 ho2 hb1 hb2
    go_wp2_with fail
    refine (CN.out _ _ H2.out).mono ?_
    rintro e w3 ⟨rfl, hb3⟩
    have hB3 := under hB2 hb3
    have H3 := Lib.hid (H2.out.below hb3)
    clear hB2 H2 hb3
    go_wp2_with fail
    refine (CK.out _ _ H3.out).mono ?_
    rintro e w4 ⟨rfl, hb4⟩
    go_wp2_with fail
    go_ret
    exact ⟨rfl, under hB3 hb4⟩

theorem joined_any (l : List Rn) (hl : l.length ≤ 9223372036854775807) (at_ : Int) (v : Value) (w : World) (h : ReadsR w v l) : Calls Try.prog 8 #[v, .int .i64 at_] w (Ret w (.bool true)) := by
  have WK := Lib.hid (wakes_any w)
  have OW := Lib.hid (fun W (hb : Below w.heap.size w W) => own_any l hl v W (h.below hb))
  have hml : (l.take 300).length ≤ 1000000 := by rw [List.length_take]; omega
  generalize l.take 300 = m at *
  cases gk : okB m
  · exact joinA m 0 170 (.inl ⟨rfl, rfl⟩) at_ v w WK OW (join_cnt0 hml gk) (join_chk0 hml gk)
  · obtain ⟨f1, f2, f3, f4⟩ := okB_facts gk
    have hnn := timesR_length (l := m) (fun r hr => by have := (f2 r hr).1; omega)
    obtain ⟨n, hn⟩ : ∃ n : Nat, totalR m = (n : Int) := ⟨_, hnn.symm⟩
    have h1 : 1 ≤ n := by have := ((areB_iff _).1 (times_are gk)).1; omega
    by_cases g2 : 2 ≤ n
    · obtain ⟨p, p1, p2, hp⟩ := at_place at_ n g2 (by omega)
      obtain ⟨a, b, q, U, J⟩ := joinedF gk hn p1 p2
      have ha : a.length ≤ 1000000 := by have := (okB_facts J.oa).2.2.2; omega
      have hb : b.length ≤ 1000000 := by have := (okB_facts J.ob).2.2.2; omega
      have hu : U.length ≤ 1000000 := by have := J.lu; omega
      exact joinC m a b q U n p g2 (by omega) p1 p2 at_ v w hp (Lib.hid ⟨J.tq, J.rq, J.lu⟩) J.lq WK OW (join_cnt hml gk hn) (join_cut hml J.c1 J.e1) (join_cut hml J.c2 J.e2) (join_join ha hb J.cj J.ej) (join_eq hml)
        (join_cnt ha J.oa J.ta) (join_cnt hb J.ob J.tb) (join_pieces hml J.c2 J.eq) (join_times hb J.ob J.ub) (join_eqi hu)
    · obtain rfl : n = 1 := by omega
      exact joinA m 1 0 (.inr ⟨rfl, rfl⟩) at_ v w WK OW (join_cnt hml gk hn) (join_chk hml gk)
end Go.Proofs.Ytlfjmdfplmdmgaa
