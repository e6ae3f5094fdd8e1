/-
  Layer 7: the document's own answer: may runs be? Conditions: those written at each fact.
-/
import Derived.Test.YtlfjmdfplmdmgaaRfB
import Derived.Test.YtlfjmdfplmdmgaaRfT
namespace Go.Proofs.Ytlfjmdfplmdmgaa
open Go.RowKit

theorem take_step {l m : List Rn} {k : Nat} {r : Rn} (h : l.take k = m.take k) (h1 : l[k]? = some r) (h2 : m[k]? = some r) : l.take (k + 1) = m.take (k + 1) := by
  obtain ⟨a1, e1⟩ := List.getElem?_eq_some_iff.1 h1
  obtain ⟨a2, e2⟩ := List.getElem?_eq_some_iff.1 h2
  rw [List.take_succ_eq_append_getElem a1, List.take_succ_eq_append_getElem a2, e1, e2, h]
set_option maxRecDepth 100000 in
set_option maxHeartbeats 4000000 in
theorem refSame_any (l m : List Rn) (hl : l.length ≤ 1000000) (hm : m.length ≤ 1000000) (v u : Value) (w : World) (h : ReadsR w v l) (hu : ReadsR w u m) : Calls Try.prog 35 #[v, u] w (Ret w (.bool (decide (l = m)))) := by
  obtain ⟨A, c, rfl, hc, hk⟩ := h
  obtain ⟨A2, c2, rfl, hc2, hk2⟩ := hu
  have HK := Lib.hid hk
  have HK2 := Lib.hid hk2
  clear hk hk2
  by_cases g : l.length = m.length
  · have t0 : ((l.length : Int) != (m.length : Int)) = false := by simp [g]
    have HG := Lib.hid g
    go_enter Try.func35, Try.ntmps35
    go_wp2_with fail
    go_loopw [5] (fun i wr => ∃ k : Nat, i = .int .i64 k ∧ k ≤ l.length ∧ Hid (l.take k = m.take k) ∧ Below w.heap.size w wr) (fun i _ => l.length - (intOf i).toNat)
    case atStart => exact ⟨0, rfl, by omega, Lib.hid rfl, by go_grown⟩
    case round =>
      obtain ⟨k, rfl, hkl, HT, hB⟩ := hrel
      by_cases gk : k < l.length
      · obtain ⟨⟨x, y, z⟩, hx⟩ : ∃ s, l[k]? = some s := ⟨_, List.getElem?_eq_getElem gk⟩
        obtain ⟨⟨x2, y2, z2⟩, hx2⟩ : ∃ s, m[k]? = some s := ⟨_, List.getElem?_eq_getElem (by have := HG.out; omega)⟩
        obtain ⟨b, off, rfl, hbw, d1, d2, d5⟩ := HK.out k _ hx
        obtain ⟨b2, off2, rfl, hbw2, d3, d4, d6⟩ := HK2.out k _ hx2
        have c1 := (hB.cell (p := ⟨b, off + k * 3, none⟩) hbw).trans d1
        have c2 := (hB.cell (p := ⟨b, off + k * 3 + 1, none⟩) hbw).trans d2
        have c5 := (hB.cell (p := ⟨b, off + k * 3 + 2, none⟩) hbw).trans d5
        have c3 := (hB.cell (p := ⟨b2, off2 + k * 3, none⟩) hbw2).trans d3
        have c4 := (hB.cell (p := ⟨b2, off2 + k * 3 + 1, none⟩) hbw2).trans d4
        have c6 := (hB.cell (p := ⟨b2, off2 + k * 3 + 2, none⟩) hbw2).trans d6
        simp only at c1 c2 c3 c4 c5 c6
        have i1 : (k : Int) < (l.length : Int) := by omega
        have i2 : (k : Int) < (m.length : Int) := by omega
        have i0 : (0 : Int) ≤ (k : Int) := by omega
        clear d1 d2 d3 d4 d5 d6
        by_cases ge : (⟨x, y, z⟩ : Rn) = ⟨x2, y2, z2⟩
        · have HT2 := Lib.hid (take_step HT.out hx (by rw [hx2, ge]))
          cases ge
          clear hx hx2
          go_wp2_with fail
          go_quiet (fail)
          go_wp2_with fail
          go_roundw
          case rel => exact ⟨k + 1, by simp, by omega, HT2, below_drewN hB _⟩
          case measure => exact index_less7 gk
        · have HN : Hid (decide (l = m) = false) := Lib.hid (decide_eq_false fun e => by
            subst e
            rw [hx] at hx2
            injection hx2 with hx2
            exact ge hx2)
          have bx : (x == x2) = false ∨ (x = x2 ∧ (y == y2) = false) ∨ (x = x2 ∧ y = y2 ∧ (z == z2) = false) := by
            by_cases g1 : x = x2
            · by_cases g2 : y = y2
              · by_cases g3 : z = z2
                · exact absurd (by rw [g1, g2, g3]) ge
                · exact .inr (.inr ⟨g1, g2, beq_eq_false_iff_ne.2 g3⟩)
              · exact .inr (.inl ⟨g1, beq_eq_false_iff_ne.2 g2⟩)
            · exact .inl (beq_eq_false_iff_ne.2 g1)
          clear hx hx2 ge HT
          rcases bx with bx | ⟨rfl, bx⟩ | ⟨rfl, rfl, bx⟩
          all_goals
            go_wp2_with fail
            go_quiet (fail)
            go_wp2_with fail
            go_ret
            exact ⟨by rw [HN.out]; rfl, below_drewN hB _⟩
      · have hkk : k = l.length := by omega
        have i1 : ¬ (k : Int) < (l.length : Int) := by omega
        have EL : Hid (decide (l = m) = true) := Lib.hid (decide_eq_true (by
          have h1 := HT.out
          rw [hkk, List.take_length] at h1
          rw [h1, HG.out, List.take_length]))
        go_wp2_with fail
        go_ret
        exact ⟨by rw [EL.out]; rfl, hB⟩
  · have t0 : ((l.length : Int) != (m.length : Int)) = true := by simp; omega
    have e0 : decide (l = m) = false := decide_eq_false fun e => g (by rw [e])
    rw [e0]
    clear e0
    go_enter Try.func35, Try.ntmps35
    go_wp2_with fail
    go_ret
    exact ⟨rfl, by go_grown⟩
theorem timesD_small (l : List Rn) : (timesD l).length ≤ 1000000 := by
  have key : ∀ (l : List Rn) (n : Int), smallAll n l = true → ((timesR l).length : Int) + n ≤ 256 ∨ l = [] := by
    intro l
    induction l with
    | nil => intro n _; exact .inr rfl
    | cons r l ih =>
      intro n h
      simp only [smallAll, Bool.and_eq_true] at h
      obtain ⟨h1, h2⟩ := h
      have h3 := of_decide_eq_true h1
      left
      rw [timesR, List.length_append, steps_length]
      rcases ih _ h2 with h4 | h4
      · omega
      · subst h4; simp [timesR]; omega
  unfold timesD
  split
  · next h =>
    rcases key l 0 h with h4 | h4
    · omega
    · subst h4; simp [timesR]
  · simp
set_option maxRecDepth 100000 in
set_option maxHeartbeats 1000000 in
theorem refRight_any (l : List Rn) (hl : l.length ≤ 1000000) (v : Value) (w : World) (h : ReadsR w v l) : Calls Try.prog 13 #[v] w (Ret w (.bool (okB l))) := by
  have TM := Lib.hid (refTimes_any l hl v w h)
  have HR := Lib.hid h
  have RT := Lib.hid (right_is l)
  have RI := Lib.hid (fun v W hr => refRising_any (timesD l) (timesD_small l) v W hr)
  obtain ⟨A, c, rfl, _, _⟩ := h
  cases g : areB (timesD l) with
  | false =>
    rw [g] at RI RT
    replace RT : Hid (okB l = false) := Lib.hid (by rw [RT.out]; rfl)
    rw [RT.out]
    clear RT g
    generalize timesD l = T at *
    go_enter Try.func13, Try.ntmps13
    go_wp2_with fail
    refine TM.out.mono ?_
    rintro e w1 ⟨u, rfl, hb1, ho1⟩
    have R1 := Lib.hid (reads_own (k := .i64) ho1)
    clear ho1
    go_wp2_with fail
    refine (RI.out _ _ R1.out).mono ?_
    rintro e w2 ⟨rfl, hb2⟩
    go_wp2_with fail
    go_ret
    exact ⟨rfl, under hb1 hb2⟩
  | true =>
    have RO := Lib.hid (fun v W hr => refOf_any (timesD l) g v W hr)
    have hl2 := (okB_facts (laid_are g).1).2.2.2
    rw [g] at RI RT
    have SA := Lib.hid (fun v u W h1 h2 => refSame_any (laidR (timesD l)) l (by omega) hl v u W h1 h2)
    replace RT : Hid (decide (laidR (timesD l) = l) = okB l) := Lib.hid (by rw [RT.out]; rfl)
    rw [RT.out] at SA
    clear RT g
    generalize laidR (timesD l) = L at *
    generalize timesD l = T at *
    generalize okB l = b at *
    go_enter Try.func13, Try.ntmps13
    go_wp2_with fail
    refine TM.out.mono ?_
    rintro e w1 ⟨u, rfl, hb1, ho1⟩
    have R1 := Lib.hid (reads_own (k := .i64) ho1)
    have H1 := Lib.hid (HR.out.below hb1)
    clear ho1
    go_wp2_with fail
    refine (RI.out _ _ R1.out).mono ?_
    rintro e w2 ⟨rfl, hb2⟩
    have R2 := Lib.hid (R1.out.below hb2)
    have H2 := Lib.hid (H1.out.below hb2)
    have hB2 := under hb1 hb2
    clear hb1 hb2 R1 H1
    go_wp2_with fail
    refine (RO.out _ _ R2.out).mono ?_
    rintro e w3 ⟨u3, rfl, hb3, ho3⟩
    have R3 := Lib.hid (readsR_own ho3)
    have H3 := Lib.hid (H2.out.below hb3)
    have hB3 := under hB2 hb3
    clear hb3 hB2 R2 H2 ho3
    go_wp2_with fail
    refine (SA.out _ _ _ R3.out H3.out).mono ?_
    rintro e w4 ⟨rfl, hb4⟩
    have hB4 := under hB3 hb4
    cases b
    all_goals
      go_wp2_with fail
      go_ret
      exact ⟨rfl, hB4⟩
end Go.Proofs.Ytlfjmdfplmdmgaa
