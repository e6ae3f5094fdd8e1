/-
  Layer 8: the laws' helpers: does a constant go through bands? Conditions: those written at each fact.
-/
import Derived.Test.YtmkminaipeodnaaHlB
namespace Go.Proofs.Ytmkminaipeodnaa.P8
open Go.RowKit Go.Shelf

/-- Is a number outside of a band? -/
def outB (v : Int) (b : Bd) : Bool := decide (v < b.lo) || decide (b.hi < v)
/-- Does a constant go through bands? -/
def thruB (l : List Bd) (v : Int) : Bool := l.all fun b => !outB v b
theorem thruB_iff (l : List Bd) (v : Int) : thruB l v = true ↔ ∀ b ∈ l, b.lo ≤ v ∧ v ≤ b.hi := by
  unfold thruB outB
  simp only [List.all_eq_true, Bool.not_eq_true', Bool.or_eq_false_iff, decide_eq_false_iff_not]
  exact ⟨fun h b hb => by have := h b hb; omega, fun h b hb => by have := h b hb; omega⟩
/-- The place of the first band that it is outside of, from place k on; -1: none. -/
def idxF (v : Int) : Nat → List Bd → Int
  | _, [] => -1
  | k, b :: l => if outB v b then (k : Int) else idxF v (k + 1) l
theorem idxF_thru (v : Int) : ∀ (l : List Bd) (k : Nat), decide (idxF v k l ≥ 0) = !thruB l v
  | [], _ => rfl
  | b :: l, k => by
    unfold idxF thruB
    rw [List.all_cons]
    cases g : outB v b
    · rw [if_neg (by simp)]
      have := idxF_thru v l (k + 1)
      rw [this]
      simp [thruB]
    · rw [if_pos rfl]
      simp
set_option maxHeartbeats 1000000 in
theorem thr1_any (v : Int) (t a d : Int) (Bv : Nat) (w : World) (hbx : Boxed w Bv 2 (.int .i64 v)) :
    Calls Try.prog 40 #[bandV ⟨t, a, d⟩, .pointer (some ⟨Bv, 0, none⟩)] w (Ret w (.bool (outB v ⟨t, a, d⟩))) := by
  have hc := hbx.cell
  have hl := hbx.lt
  clear hbx
  by_cases g1 : v < a
  · have e : outB v ⟨t, a, d⟩ = true := by simp [outB, g1]
    rw [e]
    clear e
    go_enter Try.func40, Try.ntmps40
    go_wp2_with fail
    go_ret
    exact ⟨rfl, below_alloc w _⟩
  · have e : outB v ⟨t, a, d⟩ = decide (d < v) := by simp [outB, g1]
    rw [e]
    clear e
    go_enter Try.func40, Try.ntmps40
    go_wp2_with fail
    go_ret
    exact ⟨by first | rfl | simp, below_alloc w _⟩
set_option maxRecDepth 100000 in
set_option maxHeartbeats 1000000 in
theorem index_any (l : List Bd) (hl : l.length ≤ 1000000) (x : Int) (Bv : Nat) (v : Value) (w : World) (h : ReadsD w v l) (hbx : Boxed w Bv 2 (.int .i64 x)) :
    Calls Try.prog 51 #[v, .func (.func 40) #[] #[.pointer (some ⟨Bv, 0, none⟩)]] w (Ret w (.int .i64 (idxF x 0 l))) := by
  obtain ⟨A, c, rfl, _, hk⟩ := h
  have HK := Lib.hid hk
  obtain ⟨R, hR⟩ : ∃ R, R = idxF x 0 l := ⟨_, rfl⟩
  rw [← hR]
  have AS : Hid (R = idxF x 0 (l.drop 0)) := Lib.hid (by simpa using hR)
  have HX := Lib.hid hbx
  clear hk hR hbx
  go_enter Try.func51, Try.ntmps51
  go_wp2_with fail
  go_loopw [8] (fun i wr => ∃ k : Nat, i = .int .i64 k ∧ k ≤ l.length ∧ Hid (R = idxF x k (l.drop k)) ∧ Below w.heap.size w wr) (fun i _ => l.length - (intOf i).toNat)
  case atStart => exact ⟨0, rfl, by omega, AS, Below.refl _ _⟩
  case round =>
    obtain ⟨k, rfl, hkl, hA, hB⟩ := hrel
    clear AS
    by_cases gk : k < l.length
    · obtain ⟨⟨t, a, d⟩, hx⟩ : ∃ s, l[k]? = some s := ⟨_, List.getElem?_eq_getElem gk⟩
      obtain ⟨bb, off, rfl, hbw, hc1, hc2, hc3⟩ := HK.out k _ hx
      have c1 := (hB.cell (p := ⟨bb, off + k * 3, none⟩) hbw).trans hc1
      have c2 := (hB.cell (p := ⟨bb, off + k * 3 + 1, none⟩) hbw).trans hc2
      have c3 := (hB.cell (p := ⟨bb, off + k * 3 + 2, none⟩) hbw).trans hc3
      simp only at c1 c2 c3
      have i1 : (k : Int) < (l.length : Int) := by omega
      have i0 : (0 : Int) ≤ (k : Int) := by omega
      have hA2 := hA.out
      rw [drop_of hx, idxF] at hA2
      have TN := Lib.hid (thr1_any x t a d Bv wr ((hB.block Bv HX.out.lt).trans HX.out))
      clear hc1 hc2 hc3 hA hx
      cases g : outB x ⟨t, a, d⟩
      · rw [g] at hA2 TN
        have E : Hid (R = idxF x (k + 1) (l.drop (k + 1))) := Lib.hid (by simpa using hA2)
        clear hA2 g
        go_wp2_with fail
        refine TN.out.mono ?_
        rintro e w1 ⟨rfl, hb1⟩
        have hB1 := under hB hb1
        go_wp2_with fail
        go_roundw
        case rel => exact ⟨k + 1, by simp, gk, E, hB1⟩
        case measure => exact index_less gk
      · rw [g] at hA2 TN
        have E : Hid (R = (k : Int)) := Lib.hid (by simpa using hA2)
        clear hA2 g
        go_wp2_with fail
        refine TN.out.mono ?_
        rintro e w1 ⟨rfl, hb1⟩
        have hB1 := under hB hb1
        go_wp2_with fail
        go_ret
        exact ⟨by rw [E.out]; rfl, hB1⟩
    · have hkk : k = l.length := by omega
      have E : Hid (R = -1) := Lib.hid (by rw [hA.out, hkk, List.drop_length]; rfl)
      have i1 : ¬ (k : Int) < (l.length : Int) := by omega
      clear hA
      go_wp2_with fail
      go_ret
      exact ⟨by rw [E.out]; rfl, hB⟩
set_option maxHeartbeats 1000000 in
theorem contains_any (l : List Bd) (hl : l.length ≤ 1000000) (x : Int) (Bv : Nat) (v : Value) (w : World) (h : ReadsD w v l) (hbx : Boxed w Bv 2 (.int .i64 x)) :
    Calls Try.prog 39 #[v, .func (.func 40) #[] #[.pointer (some ⟨Bv, 0, none⟩)]] w (Ret w (.bool (!thruB l x))) := by
  have IX := Lib.hid (index_any l hl x Bv v w h hbx)
  have HE := Lib.hid (idxF_thru x l 0)
  obtain ⟨A, c, rfl, _, _⟩ := h
  clear hbx
  generalize idxF x 0 l = z at *
  generalize thruB l x = b at *
  go_enter Try.func39, Try.ntmps39
  go_wp2_with fail
  refine IX.out.mono ?_
  rintro e w1 ⟨rfl, hb1⟩
  go_wp2_with fail
  go_ret
  exact ⟨by rw [← HE.out]; rfl, hb1⟩
set_option maxHeartbeats 1000000 in
theorem through_any (l : List Bd) (hl : l.length ≤ 1000000) (x : Int) (v : Value) (w : World) (h : ReadsD w v l) :
    Calls Try.prog 24 #[v, .int .i64 x] w (Ret w (.bool (thruB l x))) := by
  have CN := Lib.hid (contains_any l hl x w.heap.size v (w.alloc (.cells #[.int .i64 x] 2)) (h.below (below_alloc w _)) (Boxed.new w _ _))
  have hmf := makes_func
  obtain ⟨A, c, rfl, _, _⟩ := h
  generalize thruB l x = b at *
  go_enter Try.func24, Try.ntmps24
  go_wp2_with fail
  refine CN.out.mono ?_
  rintro e w1 ⟨rfl, hb1⟩
  go_wp2_with fail
  go_ret
  exact ⟨by simp, past1 hb1⟩
end Go.Proofs.Ytmkminaipeodnaa.P8
