/-
  Layer 7: the document's own answer: may these be times? How many are below one, or at most as great? Conditions: those written at each fact.
-/
import Derived.Test.YtlfjmdfplmdmgaaRnG
import Derived.Test.YtlfjmdfplmdmgaaRnT
import Derived.Deep.QuietTactic
import Derived.BigQuiet
namespace Go.Proofs.Ytlfjmdfplmdmgaa
open Go.RowKit

set_option maxRecDepth 100000 in
set_option maxHeartbeats 1000000 in
theorem refRising_any (l : List Int) (hl : l.length ≤ 1000000) (v : Value) (w : World) (h : Reads .i64 w v l) : Calls Try.prog 21 #[v] w (Ret w (.bool (areB l))) := by
  obtain ⟨A, c, rfl, hc, hk⟩ := h
  have HK := Lib.hid hk
  clear hk
  by_cases g0 : (l.length : Int) < 1
  · have e : areB l = false := by
      have : ¬ 1 ≤ l.length := by omega
      simp [areB, this]
    rw [e]
    clear e
    go_enter Try.func21, Try.ntmps21
    go_wp2_with fail
    go_ret
    exact ⟨rfl, by go_grown⟩
  by_cases g1 : 256 < (l.length : Int)
  · have e : areB l = false := by
      have : ¬ l.length ≤ 256 := by omega
      simp [areB, this]
    rw [e]
    clear e
    go_enter Try.func21, Try.ntmps21
    go_wp2_with fail
    go_ret
    exact ⟨rfl, by go_grown⟩
  have OE : Hid (areB l = upB none l) := Lib.hid (by
    have h1 : 1 ≤ l.length := by omega
    have h2 : l.length ≤ 256 := by omega
    simp [areB, h1, h2])
  go_enter Try.func21, Try.ntmps21
  go_wp2_with fail
  go_loopw [3] (fun i wr => ∃ (k : Nat), i = .int .i64 k ∧ k ≤ l.length ∧ Hid (areB l = upB (aheadI l k) (l.drop k)) ∧ Below w.heap.size w wr) (fun i _ => l.length - (intOf i).toNat)
  case atStart => exact ⟨0, rfl, by omega, Lib.hid (by simpa [aheadI] using OE.out), by go_grown⟩
  case round =>
    obtain ⟨k, rfl, hkl, hO, hB⟩ := hrel
    by_cases gk : k < l.length
    · obtain ⟨t, hx⟩ : ∃ s, l[k]? = some s := ⟨_, List.getElem?_eq_getElem gk⟩
      obtain ⟨bb, off, rfl, hbw, hc1⟩ := HK.out k _ hx
      have c1 := (hB.cell (p := ⟨bb, off + k, none⟩) hbw).trans hc1
      have i1 : (k : Int) < (l.length : Int) := by omega
      have i0 : (0 : Int) ≤ (k : Int) := by omega
      have RD := Lib.hid (upB_drop hx (aheadI l k))
      have HX := Lib.hid hx
      clear hc1 hx OE
      by_cases ga1 : t < 0
      · have hO2 : Hid (areB l = false) := Lib.hid (by rw [hO.out, RD.out, show timeR t = false by unfold timeR; rw [decide_eq_false (by omega)]; rfl]; rfl)
        clear hO RD
        go_wp2_with fail
        go_quiet (fail)
        go_wp2_with fail
        go_ret
        exact ⟨(by rw [hO2.out]; try rfl), below_drewN hB _⟩
      have d1 : decide (t < 0) = false := decide_eq_false ga1
      by_cases ga2 : 281474976710656 < t
      · have hO2 : Hid (areB l = false) := Lib.hid (by rw [hO.out, RD.out, show timeR t = false by unfold timeR; rw [decide_eq_false (show ¬ t ≤ 281474976710656 by omega)]; simp]; rfl)
        clear hO RD
        go_wp2_with fail
        go_quiet (fail)
        go_wp2_with fail
        go_ret
        exact ⟨(by rw [hO2.out]; try rfl), below_drewN hB _⟩
      have d2 : decide (281474976710656 < t) = false := decide_eq_false ga2
      have gt : timeR t = true := (timeR_iff t).2 ⟨by omega, by omega⟩
      by_cases gz : k = 0
      · subst gz
        simp only [Nat.add_zero] at c1
        have ON : Hid (areB l = upB (aheadI l (0 + 1)) (l.drop (0 + 1))) := Lib.hid (by
          rw [hO.out, RD.out, gt]
          have e : aheadI l (0 + 1) = some t := HX.out
          rw [e]; rfl)
        have d3 : decide ((0 : Int) < 0) = false := rfl
        clear hO RD gt
        go_wp2_with fail
        go_quiet (fail)
        go_wp2_with fail
        go_roundw
        case rel => exact ⟨1, by simp, gk, ON, below_drewN hB _⟩
        case measure => simp [intOf]; omega
      · obtain ⟨j, hj⟩ : ∃ j, k = j + 1 := ⟨k - 1, by omega⟩
        obtain ⟨a, hy⟩ : ∃ s, l[j]? = some s := ⟨_, List.getElem?_eq_getElem (by omega)⟩
        obtain ⟨bb', off', hbe, hbw', hp1⟩ := HK.out j _ hy
        cases hbe
        have hak : aheadI l k = some a := by rw [hj]; exact hy
        have ej : wrap64 ((k : Int) - 1) = (j : Int) := by rw [hj]; exact (i64_keeps (by omega) (by omega)).trans (by omega)
        have ek : IntKind.i64.wrap ((k : Int) - 1) = (j : Int) := (by rw [IntKind.wrap_i64]; omega)
        have ij : (j : Int) < (l.length : Int) := by omega
        have j0 : (0 : Int) ≤ (j : Int) := by omega
        have hk0 : (0 : Int) < (k : Int) := by omega
        have hkn : 0 < k := by omega
        have hp2 := (hB.cell (p := ⟨bb, off + j, none⟩) hbw).trans hp1
        rw [hak] at RD
        clear hp1
        by_cases ga : a < t
        · have ON : Hid (areB l = upB (aheadI l (k + 1)) (l.drop (k + 1))) := Lib.hid (by
            rw [hO.out, hak, RD.out, gt]; show (decide (a < t) && _) = _
            rw [decide_eq_true ga, Bool.true_and]
            have e : aheadI l (k + 1) = some t := HX.out
            rw [e])
          have gb : decide (t ≤ a) = false := decide_eq_false (by omega)
          clear hO RD gt hak hj hy
          go_wp2_with fail
          go_quiet (fail)
          go_wp2_with fail
          go_roundw
          case rel => exact ⟨k + 1, by simp, gk, ON, below_drewN hB _⟩
          case measure => exact index_less7 gk
        · have hO2 : Hid (areB l = false) := Lib.hid (by
            rw [hO.out, hak, RD.out, gt]; show (decide (a < t) && _) = _
            rw [decide_eq_false ga]; rfl)
          have gb : t ≤ a := by omega
          clear hO RD gt hak hj hy
          go_wp2_with fail
          go_quiet (fail)
          go_wp2_with fail
          go_ret
          exact ⟨(by rw [hO2.out]; try rfl), below_drewN hB _⟩
    · have hkk : k = l.length := by omega
      have hO2 : Hid (areB l = true) := Lib.hid (by rw [hO.out, hkk, List.drop_length]; rfl)
      have i1 : ¬ (k : Int) < (l.length : Int) := by omega
      clear hO OE hkk
      go_wp2_with fail
      go_ret
      exact ⟨(by rw [hO2.out]; try rfl), hB⟩
/-- The first so many, told by the program's count over them. -/
theorem belowN_next {l : List Int} {k : Nat} {x : Int} (h : l[k]? = some x) (a : Int) : belowN (l.take (k + 1)) a = belowN (l.take k) a + (if x < a then 1 else 0) := by
  obtain ⟨a1, e1⟩ := List.getElem?_eq_some_iff.1 h
  rw [List.take_succ_eq_append_getElem a1, e1, belowN_snoc]
theorem uptoN_next {l : List Int} {k : Nat} {x : Int} (h : l[k]? = some x) (a : Int) : uptoN (l.take (k + 1)) a = uptoN (l.take k) a + (if x ≤ a then 1 else 0) := by
  obtain ⟨a1, e1⟩ := List.getElem?_eq_some_iff.1 h
  rw [List.take_succ_eq_append_getElem a1, e1, uptoN_snoc]
set_option maxRecDepth 100000 in
set_option maxHeartbeats 1000000 in
theorem refBelow_any (l : List Int) (hl : l.length ≤ 1000000) (a : Int) (v : Value) (w : World) (h : Reads .i64 w v l) : Calls Try.prog 26 #[v, .int .i64 a] w (Ret w (.int .i64 (belowN l a))) := by
  obtain ⟨A, c, rfl, hc, hk⟩ := h
  have HK := Lib.hid hk
  clear hk
  go_enter Try.func26, Try.ntmps26
  go_wp2_with fail
  go_loopw [5, 6] (fun n i wr => ∃ (k : Nat) (m : Nat), i = .int .i64 k ∧ n = .int .i64 m ∧ Hid (m = belowN (l.take k) a) ∧ m ≤ k ∧ k ≤ l.length ∧ Below w.heap.size w wr) (fun _ i _ => l.length - (intOf i).toNat)
  case atStart => exact ⟨0, 0, rfl, rfl, Lib.hid (by simp [belowN]), Nat.le_refl _, by omega, by go_grown⟩
  case round =>
    obtain ⟨k, m, rfl, rfl, hm, hmk, hkl, hB⟩ := hrel
    by_cases gk : k < l.length
    · obtain ⟨t, hx⟩ : ∃ s, l[k]? = some s := ⟨_, List.getElem?_eq_getElem gk⟩
      obtain ⟨bb, off, rfl, hbw, hc1⟩ := HK.out k _ hx
      have c1 := (hB.cell (p := ⟨bb, off + k, none⟩) hbw).trans hc1
      have i1 : (k : Int) < (l.length : Int) := by omega
      have i0 : (0 : Int) ≤ (k : Int) := by omega
      have RD := Lib.hid (belowN_next hx a)
      clear hc1 hx
      by_cases ga : t < a
      · have hm2 : Hid (m + 1 = belowN (l.take (k + 1)) a) := Lib.hid (by rw [RD.out, if_pos ga, ← hm.out])
        clear RD hm
        go_wp2_with fail
        go_roundw
        case rel => exact ⟨k + 1, m + 1, by simp, by simp, hm2, by omega, gk, hB⟩
        case measure => exact index_less7 gk
      · have hm2 : Hid (m = belowN (l.take (k + 1)) a) := Lib.hid (by rw [RD.out, if_neg ga, ← hm.out]; rfl)
        clear RD hm
        go_wp2_with fail
        go_roundw
        case rel => exact ⟨k + 1, m, by simp, rfl, hm2, by omega, gk, hB⟩
        case measure => exact index_less7 gk
    · have hkk : k = l.length := by omega
      have hm2 : Hid (m = belowN l a) := Lib.hid (by rw [hm.out, hkk, List.take_length])
      have i1 : ¬ (k : Int) < (l.length : Int) := by omega
      clear hm hkk
      go_wp2_with fail
      go_ret
      exact ⟨(by rw [hm2.out]; try rfl), hB⟩
set_option maxRecDepth 100000 in
set_option maxHeartbeats 1000000 in
theorem refUpto_any (l : List Int) (hl : l.length ≤ 1000000) (a : Int) (v : Value) (w : World) (h : Reads .i64 w v l) : Calls Try.prog 27 #[v, .int .i64 a] w (Ret w (.int .i64 (uptoN l a))) := by
  obtain ⟨A, c, rfl, hc, hk⟩ := h
  have HK := Lib.hid hk
  clear hk
  go_enter Try.func27, Try.ntmps27
  go_wp2_with fail
  go_loopw [5, 6] (fun n i wr => ∃ (k : Nat) (m : Nat), i = .int .i64 k ∧ n = .int .i64 m ∧ Hid (m = uptoN (l.take k) a) ∧ m ≤ k ∧ k ≤ l.length ∧ Below w.heap.size w wr) (fun _ i _ => l.length - (intOf i).toNat)
  case atStart => exact ⟨0, 0, rfl, rfl, Lib.hid (by simp [uptoN]), Nat.le_refl _, by omega, by go_grown⟩
  case round =>
    obtain ⟨k, m, rfl, rfl, hm, hmk, hkl, hB⟩ := hrel
    by_cases gk : k < l.length
    · obtain ⟨t, hx⟩ : ∃ s, l[k]? = some s := ⟨_, List.getElem?_eq_getElem gk⟩
      obtain ⟨bb, off, rfl, hbw, hc1⟩ := HK.out k _ hx
      have c1 := (hB.cell (p := ⟨bb, off + k, none⟩) hbw).trans hc1
      have i1 : (k : Int) < (l.length : Int) := by omega
      have i0 : (0 : Int) ≤ (k : Int) := by omega
      have RD := Lib.hid (uptoN_next hx a)
      clear hc1 hx
      by_cases ga : t ≤ a
      · have hm2 : Hid (m + 1 = uptoN (l.take (k + 1)) a) := Lib.hid (by rw [RD.out, if_pos ga, ← hm.out])
        clear RD hm
        go_wp2_with fail
        go_roundw
        case rel => exact ⟨k + 1, m + 1, by simp, by simp, hm2, by omega, gk, hB⟩
        case measure => exact index_less7 gk
      · have hm2 : Hid (m = uptoN (l.take (k + 1)) a) := Lib.hid (by rw [RD.out, if_neg ga, ← hm.out]; rfl)
        clear RD hm
        go_wp2_with fail
        go_roundw
        case rel => exact ⟨k + 1, m, by simp, rfl, hm2, by omega, gk, hB⟩
        case measure => exact index_less7 gk
    · have hkk : k = l.length := by omega
      have hm2 : Hid (m = uptoN l a) := Lib.hid (by rw [hm.out, hkk, List.take_length])
      have i1 : ¬ (k : Int) < (l.length : Int) := by omega
      clear hm hkk
      go_wp2_with fail
      go_ret
      exact ⟨(by rw [hm2.out]; try rfl), hB⟩
end Go.Proofs.Ytlfjmdfplmdmgaa
