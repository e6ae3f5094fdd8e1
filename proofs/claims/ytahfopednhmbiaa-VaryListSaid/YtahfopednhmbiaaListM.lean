/-
  Layer 2, plain facts: rows that were put are got. No program. Conditions: those written at each fact.
-/
import Derived.Test.YtahfopednhmbiaaAloneM
import Derived.Test.YtahfopednhmbiaaPutB
namespace Go.Proofs.Ytahfopednhmbiaa

theorem rowOf_put : ∀ (ms pre t : List Int), (∀ z ∈ ms, -9223372036854775808 ≤ z ∧ z ≤ 9223372036854775807) →
    rowOf ms.length (pre ++ bytesOf Lib.zigzag ms ++ t) pre.length = (ms, (pre.length : Int) + (bytesOf Lib.zigzag ms).length, 0)
  | [], pre, t, _ => by simp [rowOf, bytesOf]
  | m :: ms, pre, t, hr => by
    have hm := hr m (List.mem_cons_self ..)
    have hz := Lib.zigzag_lt hm.1 hm.2
    have eb : bytesOf Lib.zigzag (m :: ms) = digs (Lib.zigzag m) ++ bytesOf Lib.zigzag ms := by simp [bytesOf]
    have el : pre ++ bytesOf Lib.zigzag (m :: ms) ++ t = pre ++ digs (Lib.zigzag m) ++ (bytesOf Lib.zigzag ms ++ t) := by rw [eb]; simp [List.append_assoc]
    have g := got_put (l := pre) (r := bytesOf Lib.zigzag ms ++ t) hz
    have ih := rowOf_put ms (pre ++ digs (Lib.zigzag m)) t (fun z hz => hr z (List.mem_cons_of_mem _ hz))
    have ep : ((pre.length : Int) + ((digs (Lib.zigzag m)).length : Int)) = (((pre ++ digs (Lib.zigzag m)).length : Nat) : Int) := by simp
    rw [List.length_cons, rowOf, el, g.2.2, if_pos rfl, g.2.1, g.1, unz_zig, ep, ← List.append_assoc, ih, if_pos rfl]
    simp only [eb, List.length_append]
    congr 2
    omega
theorem gotE_cut {pre : List Int} {n j : Nat} (hn : n < 18446744073709551616) (hj : j < (digs n).length) : gotE (pre ++ (digs n).take j) pre.length = 6 := by
  have hc : Cont ((digs n).take j) := ⟨by have := (digs_ten hn).2; simp; omega, digs_init 9 n (by omega) j hj⟩
  have hs := scan_short hc
  have hd : (pre ++ (digs n).take j).drop pre.length = (digs n).take j := List.drop_left
  have := got_err (l := pre ++ (digs n).take j) (a := pre.length) (by simp) (by rw [hd, hs]; exact (by decide : (6 : Int) ≠ 0))
  rw [hd, hs] at this
  exact this.2.2
theorem rowOf_cut : ∀ (ms pre : List Int) (j : Nat), (∀ z ∈ ms, -9223372036854775808 ≤ z ∧ z ≤ 9223372036854775807) → j < (bytesOf Lib.zigzag ms).length →
    rowOf ms.length (pre ++ (bytesOf Lib.zigzag ms).take j) pre.length = ([], 0, 6)
  | [], pre, j, _, hj => by simp [bytesOf] at hj
  | m :: ms, pre, j, hr, hj => by
    have hm := hr m (List.mem_cons_self ..)
    have hz := Lib.zigzag_lt hm.1 hm.2
    have eb : bytesOf Lib.zigzag (m :: ms) = digs (Lib.zigzag m) ++ bytesOf Lib.zigzag ms := by simp [bytesOf]
    rw [eb] at hj ⊢
    rw [List.length_cons, rowOf]
    by_cases g : j < (digs (Lib.zigzag m)).length
    · have e1 : (digs (Lib.zigzag m) ++ bytesOf Lib.zigzag ms).take j = (digs (Lib.zigzag m)).take j := List.take_append_of_le_length (by omega)
      rw [e1, gotE_cut hz g, if_neg (by decide)]
    · have e1 : pre ++ (digs (Lib.zigzag m) ++ bytesOf Lib.zigzag ms).take j = pre ++ digs (Lib.zigzag m) ++ (bytesOf Lib.zigzag ms).take (j - (digs (Lib.zigzag m)).length) := by
        rw [List.take_append, List.take_of_length_le (by omega), List.append_assoc]
      have gp := got_put (l := pre) (r := (bytesOf Lib.zigzag ms).take (j - (digs (Lib.zigzag m)).length)) hz
      have ih := rowOf_cut ms (pre ++ digs (Lib.zigzag m)) (j - (digs (Lib.zigzag m)).length) (fun z hz => hr z (List.mem_cons_of_mem _ hz)) (by rw [List.length_append] at hj; omega)
      have ep : ((pre.length : Int) + ((digs (Lib.zigzag m)).length : Int)) = (((pre ++ digs (Lib.zigzag m)).length : Nat) : Int) := by simp
      rw [e1, gp.2.2, if_pos rfl, gp.2.1, ep, ih, if_neg (by decide)]

/-- A row that was put is got. -/
theorem gotRow_put {ms pre t : List Int} (hm : ms.length ≤ 60) (hr : ∀ z ∈ ms, -9223372036854775808 ≤ z ∧ z ≤ 9223372036854775807) :
    gotRow (pre ++ rowBytes ms ++ t) pre.length ms.length = (ms, (pre.length : Int) + (rowBytes ms).length, 0) := by
  have e0 : pre ++ rowBytes ms ++ t = pre ++ digs ms.length ++ (bytesOf Lib.zigzag ms ++ t) := by unfold rowBytes; simp [List.append_assoc]
  have g := got_put (l := pre) (r := bytesOf Lib.zigzag ms ++ t) (n := ms.length) (by omega)
  have p := rowOf_put ms (pre ++ digs ms.length) t hr
  have ep : ((pre.length : Int) + ((digs ms.length).length : Int)) = (((pre ++ digs ms.length).length : Nat) : Int) := by simp
  unfold gotRow
  rw [if_neg (by omega), e0, g.2.2, if_neg (by simp), g.1, if_neg (by omega), g.2.1, ep, Int.toNat_natCast, ← List.append_assoc, p]
  unfold rowBytes
  simp only [List.length_append]
  congr 2
  omega
theorem gotRow_less {ms pre t : List Int} (hm : ms.length ≤ 60) (h1 : 1 ≤ ms.length) :
    gotRow (pre ++ rowBytes ms ++ t) pre.length ((ms.length : Int) - 1) = ([], 0, 3) := by
  have e0 : pre ++ rowBytes ms ++ t = pre ++ digs ms.length ++ (bytesOf Lib.zigzag ms ++ t) := by unfold rowBytes; simp [List.append_assoc]
  have g := got_put (l := pre) (r := bytesOf Lib.zigzag ms ++ t) (n := ms.length) (by omega)
  unfold gotRow
  rw [if_neg (by omega), e0, g.2.2, if_neg (by simp), g.1, if_pos (by omega)]
/-- Cut off anywhere, it is told as such. -/
theorem gotRow_cut {ms pre t : List Int} {j : Nat} (hm : ms.length ≤ 60) (hr : ∀ z ∈ ms, -9223372036854775808 ≤ z ∧ z ≤ 9223372036854775807) (hj : j < (rowBytes ms).length) :
    gotRow ((pre ++ rowBytes ms ++ t).take (pre.length + j)) pre.length ms.length = ([], 0, 6) := by
  have e0 : (pre ++ rowBytes ms ++ t).take (pre.length + j) = pre ++ (rowBytes ms).take j := by
    rw [List.append_assoc, List.take_append, List.take_of_length_le (by omega), Nat.add_sub_cancel_left, List.take_append_of_le_length (by omega)]
  rw [e0]
  unfold gotRow
  rw [if_neg (by omega)]
  by_cases g : j < (digs ms.length).length
  · have e1 : (rowBytes ms).take j = (digs ms.length).take j := by unfold rowBytes; exact List.take_append_of_le_length (by omega)
    rw [e1, gotE_cut (by omega) g, if_pos (by decide)]
  · have e1 : pre ++ (rowBytes ms).take j = pre ++ digs ms.length ++ (bytesOf Lib.zigzag ms).take (j - (digs ms.length).length) := by
      unfold rowBytes
      rw [List.take_append, List.take_of_length_le (by omega), List.append_assoc]
    have gp := got_put (l := pre) (r := (bytesOf Lib.zigzag ms).take (j - (digs ms.length).length)) (n := ms.length) (by omega)
    have hb : j - (digs ms.length).length < (bytesOf Lib.zigzag ms).length := by unfold rowBytes at hj; rw [List.length_append] at hj; omega
    have ep : ((pre.length : Int) + ((digs ms.length).length : Int)) = (((pre ++ digs ms.length).length : Nat) : Int) := by simp
    rw [e1, gp.2.2, if_neg (by simp), gp.1, if_neg (by omega), gp.2.1, ep, Int.toNat_natCast]
    exact rowOf_cut ms (pre ++ digs ms.length) _ hr hb
end Go.Proofs.Ytahfopednhmbiaa
