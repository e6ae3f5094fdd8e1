/-
  Layer 7: runs: in which run a place is; may these be times? Conditions: those written at each fact.
-/
import Derived.Test.YtlfjmdfplmdmgaaRnC
namespace Go.Proofs.Ytlfjmdfplmdmgaa
open Go.RowKit

/-- In which run a place is, and how many of that run's times are ahead of it. -/
def whereR : List Rn → Int → Nat × Int
  | [], p => (0, p)
  | r :: l, p => if p < r.c then (0, p) else ((whereR l (p - r.c)).1 + 1, (whereR l (p - r.c)).2)
theorem totalR_pos : ∀ {l : List Rn}, (∀ r ∈ l, 0 ≤ r.c) → 0 ≤ totalR l
  | [], _ => Int.le_refl _
  | r :: l, h => by
    have h1 := h r (List.mem_cons_self ..)
    have h2 := totalR_pos (l := l) fun x hx => h x (List.mem_cons_of_mem _ hx)
    simp only [totalR]; omega
theorem drop_of {l : List Rn} {k : Nat} {r : Rn} (hx : l[k]? = some r) : l.drop k = r :: l.drop (k + 1) := by
  obtain ⟨hlt, e⟩ := List.getElem?_eq_some_iff.1 hx
  rw [List.drop_eq_getElem_cons hlt, e]

set_option maxRecDepth 100000 in
set_option maxHeartbeats 1000000 in
theorem where_any (l : List Rn) (hl : l.length ≤ 1000000) (hR : ∀ r ∈ l, RunOk r) (p : Int) (h0 : 0 ≤ p) (h1 : p < totalR l) (h2 : totalR l ≤ 1000000) (v : Value) (w : World) (h : ReadsR w v l) :
    Calls Try.prog 51 #[v, .int .i64 p] w (Ret w (.tuple #[.int .i64 (whereR l p).1, .int .i64 (whereR l p).2])) := by
  obtain ⟨A, c, rfl, hc, hk⟩ := h
  have HK := Lib.hid hk
  have HR := Lib.hid hR
  have hne : 0 < l.length := by
    cases l with
    | nil => simp [totalR] at h1; omega
    | cons => simp
  obtain ⟨R, hRs⟩ : ∃ R, R = whereR l p := ⟨_, rfl⟩
  rw [← hRs]
  have AS : Hid (R = (0 + (whereR (l.drop 0) p).1, (whereR (l.drop 0) p).2)) := Lib.hid (by rw [hRs]; simp)
  have T0 : Hid (p < totalR (l.drop 0)) := Lib.hid (by simpa using h1)
  have hp1 : p ≤ 1000000 := by omega
  clear hk hR h1 h2 hRs
  go_enter Try.func51, Try.ntmps51
  go_wp2_with fail
  go_loopw [1, 4] (fun x i wr => ∃ (k : Nat) (q : Int), x = .int .i64 q ∧ i = .int .i64 k ∧ k < l.length ∧ 0 ≤ q ∧ q ≤ p ∧ Hid (q < totalR (l.drop k)) ∧ Hid (R = (k + (whereR (l.drop k) q).1, (whereR (l.drop k) q).2)) ∧ Below w.heap.size w wr) (fun _ i => fun _ => l.length - (intOf i).toNat)
  case atStart => exact ⟨0, p, rfl, rfl, hne, h0, Int.le_refl _, T0, AS, by go_grown⟩
  case round =>
    obtain ⟨k, q, rfl, rfl, hkl, hq0, hqp, hT, hA, hB⟩ := hrel
    obtain ⟨⟨f, s, d⟩, hx⟩ : ∃ s, l[k]? = some s := ⟨_, List.getElem?_eq_getElem hkl⟩
    obtain ⟨bb, off, rfl, hbw, hc1, hc2, hc3⟩ := HK.out k _ hx
    have c3 := (hB.cell (p := ⟨bb, off + k * 3 + 2, none⟩) hbw).trans hc3
    simp only at c3
    have i1 : (k : Int) < (l.length : Int) := by omega
    have i0 : (0 : Int) ≤ (k : Int) := by omega
    have hd1 : 1 ≤ d := (HR.out _ (List.mem_of_getElem? hx)).1
    have hdr := drop_of hx
    have hT2 : q < d + totalR (l.drop (k + 1)) := by have := hT.out; rw [hdr] at this; exact this
    have hA2 := hA.out
    rw [hdr] at hA2
    clear hc1 hc2 hc3 hT hA T0 AS hdr
    by_cases g : q < d
    · have E : Hid (R = (k, q)) := Lib.hid (by rw [hA2, whereR, if_pos g]; simp)
      clear hA2 hx hT2
      go_wp2_with fail
      go_returns
      exact ⟨(by rw [E.out]; try rfl), hB⟩
    · have E : Hid (R = ((k + 1 : Nat) + (whereR (l.drop (k + 1)) (q - d)).1, (whereR (l.drop (k + 1)) (q - d)).2)) := Lib.hid (by
        rw [hA2, whereR, if_neg g]
        simp only
        rw [Prod.mk.injEq]
        exact ⟨by omega, rfl⟩)
      have em : wrap64 (q - d) = q - d := i64_keeps (by omega) (by omega)
      have E2 : Hid (q - d < totalR (l.drop (k + 1)) ∧ k + 1 < l.length ∧ 0 ≤ q - d ∧ q - d ≤ p) := Lib.hid (by
        refine ⟨by omega, ?_, by omega, by omega⟩
        by_cases hk2 : k + 1 < l.length
        · exact hk2
        · rw [List.drop_eq_nil_of_le (by omega)] at hT2
          simp only [totalR] at hT2
          omega)
      clear hA2 hx hT2
      go_wp2_with fail
      go_roundw
      case rel => exact ⟨k + 1, q - d, rfl, by simp, E2.out.2.1, E2.out.2.2.1, E2.out.2.2.2, Lib.hid E2.out.1, E, hB⟩
      case measure => simp [intOf]; omega

/-- Do the rest of times rise, behind p? -/
def upB : Option Int → List Int → Bool
  | _, [] => true
  | p, t :: l => timeR t && ((match p with | none => true | some a => decide (a < t)) && upB (some t) l)
/-- May these be times? -/
def areB (l : List Int) : Bool := decide (1 ≤ l.length) && (decide (l.length ≤ 256) && upB none l)
def aheadI (l : List Int) : Nat → Option Int
  | 0 => none
  | k + 1 => l[k]?
theorem upB_drop {l : List Int} {k : Nat} {t : Int} (h : l[k]? = some t) (p : Option Int) : upB p (l.drop k) = (timeR t && ((match p with | none => true | some a => decide (a < t)) && upB (some t) (l.drop (k + 1)))) := by
  obtain ⟨a1, e1⟩ := List.getElem?_eq_some_iff.1 h
  rw [List.drop_eq_getElem_cons a1, e1]
  rfl
theorem index_less7 {k n : Nat} (h : k < n) : n - (intOf (Value.int .i64 ((k : Int) + 1))).toNat < n - (intOf (Value.int .i64 (k : Int))).toNat := by simp [intOf]; omega

set_option maxRecDepth 100000 in
set_option maxHeartbeats 1000000 in
theorem areTimes_any (l : List Int) (hl : l.length ≤ 1000000) (v : Value) (w : World) (h : Reads .i64 w v l) : Calls Try.prog 46 #[v] w (Ret w (.bool (areB l))) := by
  obtain ⟨A, c, rfl, hc, hk⟩ := h
  have HK := Lib.hid hk
  clear hk
  by_cases g0 : (l.length : Int) < 1
  · have e : areB l = false := by
      have : ¬ 1 ≤ l.length := by omega
      simp [areB, this]
    rw [e]
    clear e
    go_enter Try.func46, Try.ntmps46
    go_wp2_with fail
    go_ret
    exact ⟨rfl, by go_grown⟩
  by_cases g1 : 256 < (l.length : Int)
  · have e : areB l = false := by
      have : ¬ l.length ≤ 256 := by omega
      simp [areB, this]
    rw [e]
    clear e
    go_enter Try.func46, Try.ntmps46
    go_wp2_with fail
    go_ret
    exact ⟨rfl, by go_grown⟩
  have OE : Hid (areB l = upB none l) := Lib.hid (by
    have h1 : 1 ≤ l.length := by omega
    have h2 : l.length ≤ 256 := by omega
    simp [areB, h1, h2])
  go_enter Try.func46, Try.ntmps46
  go_wp2_with fail
  go_loopw [15] (fun i wr => ∃ (k : Nat), i = .int .i64 k ∧ k ≤ l.length ∧ Hid (areB l = upB (aheadI l k) (l.drop k)) ∧ Below w.heap.size w wr) (fun i _ => l.length - (intOf i).toNat)
  case atStart => exact ⟨0, rfl, by omega, Lib.hid (by simpa [aheadI] using OE.out), by go_grown⟩
  case round =>
    obtain ⟨k, rfl, hkl, hO, hB⟩ := hrel
    by_cases gk : k < l.length
    · obtain ⟨t, hx⟩ : ∃ s, l[k]? = some s := ⟨_, List.getElem?_eq_getElem gk⟩
      obtain ⟨bb, off, rfl, hbw, hc1⟩ := HK.out k _ hx
      have c1 := (hB.cell (p := ⟨bb, off + k, none⟩) hbw).trans hc1
      have i1 : (k : Int) < (l.length : Int) := by omega
      have i0 : (0 : Int) ≤ (k : Int) := by omega
      have RD := Lib.hid (upB_drop hx (aheadI l k))
      have HX := Lib.hid hx
      have IT := Lib.hid (isTime_any t)
      clear hc1 hx OE
      cases gt : timeR t
      · have hO2 : Hid (areB l = false) := Lib.hid (by rw [hO.out, RD.out, gt]; rfl)
        rw [gt] at IT
        clear hO RD gt
        go_wp2_with fail
        refine (IT.out _).mono ?_
        rintro en w1 ⟨rfl, hb1⟩
        go_wp2_with fail
        go_ret
        exact ⟨(by rw [hO2.out]; try rfl), under hB hb1⟩
      rw [gt] at IT
      by_cases gz : k = 0
      · subst gz
        simp only [Nat.add_zero] at c1
        have ON : Hid (areB l = upB (aheadI l (0 + 1)) (l.drop (0 + 1))) := Lib.hid (by
          rw [hO.out, RD.out, gt]
          have e : aheadI l (0 + 1) = some t := HX.out
          rw [e]; rfl)
        clear hO RD gt
        go_wp2_with fail
        refine (IT.out _).mono ?_
        rintro en w1 ⟨rfl, hb1⟩
        have hB1 := under hB hb1
        go_wp2_with fail
        go_roundw
        case rel => exact ⟨1, by simp, gk, ON, hB1⟩
        case measure => simp [intOf]; omega
      · obtain ⟨j, hj⟩ : ∃ j, k = j + 1 := ⟨k - 1, by omega⟩
        obtain ⟨a, hy⟩ : ∃ s, l[j]? = some s := ⟨_, List.getElem?_eq_getElem (by omega)⟩
        obtain ⟨bb', off', hbe, hbw', hp1⟩ := HK.out j _ hy
        cases hbe
        have hak : aheadI l k = some a := by rw [hj]; exact hy
        have ej : wrap64 ((k : Int) - 1) = (j : Int) := by rw [hj]; exact (i64_keeps (by omega) (by omega)).trans (by omega)
        have ek : IntKind.i64.wrap ((k : Int) - 1) = (j : Int) := (by rw [IntKind.wrap_i64]; omega)
        have ij : (j : Int) < (l.length : Int) := by omega
        have j0 : (0 : Int) ≤ (j : Int) := by omega
        have hk0 : (0 : Int) < (k : Int) := by omega
        rw [hak] at RD
        have HP := Lib.hid hp1
        clear hp1
        by_cases ga : a < t
        · have ON : Hid (areB l = upB (aheadI l (k + 1)) (l.drop (k + 1))) := Lib.hid (by
            rw [hO.out, hak, RD.out, gt]; show (decide (a < t) && _) = _
            rw [decide_eq_true ga, Bool.true_and]
            have e : aheadI l (k + 1) = some t := HX.out
            rw [e])
          clear hO RD gt hak hj hy
          go_wp2_with fail
          refine (IT.out _).mono ?_
          rintro en w1 ⟨rfl, hb1⟩
          have hB1 := under hB hb1
          have hp2 := (hB1.cell (p := ⟨bb, off + j, none⟩) hbw).trans HP.out
          go_wp2_with fail
          go_roundw
          case rel => exact ⟨k + 1, by simp, gk, ON, hB1⟩
          case measure => exact index_less7 gk
        · have hO2 : Hid (areB l = false) := Lib.hid (by
            rw [hO.out, hak, RD.out, gt]; show (decide (a < t) && _) = _
            rw [decide_eq_false ga]; rfl)
          have gb : t ≤ a := by omega
          clear hO RD gt hak hj hy
          go_wp2_with fail
          refine (IT.out _).mono ?_
          rintro en w1 ⟨rfl, hb1⟩
          have hB1 := under hB hb1
          have hp2 := (hB1.cell (p := ⟨bb, off + j, none⟩) hbw).trans HP.out
          go_wp2_with fail
          go_ret
          exact ⟨(by rw [hO2.out]; try rfl), hB1⟩
    · have hkk : k = l.length := by omega
      have hO2 : Hid (areB l = true) := Lib.hid (by rw [hO.out, hkk, List.drop_length]; rfl)
      have i1 : ¬ (k : Int) < (l.length : Int) := by omega
      clear hO OE hkk
      go_wp2_with fail
      go_ret
      exact ⟨(by rw [hO2.out]; try rfl), hB⟩
end Go.Proofs.Ytlfjmdfplmdmgaa
