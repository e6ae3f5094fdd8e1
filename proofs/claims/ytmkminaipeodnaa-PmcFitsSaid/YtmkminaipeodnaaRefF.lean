/-
  The document's own answers, sixth part: is one size less than another one? Conditions: those written at each fact.
-/
import Derived.Test.YtmkminaipeodnaaRefE
namespace Go.Proofs.Ytmkminaipeodnaa
open Go.RowKit

theorem len_lt {x y : Nat} (h : (sizeL x).length < (sizeL y).length) : x < y := by
  have g1 := (bit_lt (sizeL x).length y).1 h
  have g2 : x / 2 ^ (sizeL x).length = 0 := by
    rcases Nat.eq_zero_or_pos (x / 2 ^ (sizeL x).length) with e | e
    · exact e
    · exact absurd ((bit_lt (sizeL x).length x).2 (by omega)) (Nat.lt_irrefl _)
  rcases Nat.lt_or_ge x y with g | g
  · exact g
  · exact absurd (Nat.le_zero.1 (g2 ▸ Nat.div_le_div_right g)) g1
theorem top_zero (x : Nat) : x / 2 ^ (sizeL x).length = 0 := by
  rcases Nat.eq_zero_or_pos (x / 2 ^ (sizeL x).length) with e | e
  · exact e
  · exact absurd ((bit_lt (sizeL x).length x).2 (by omega)) (Nat.lt_irrefl _)
theorem less_step {x y s : Nat} (h : x / 2 ^ (s + 1) = y / 2 ^ (s + 1)) (e : bitI x s = bitI y s) : x / 2 ^ s = y / 2 ^ s := by
  rw [pow_half, pow_half] at h
  unfold bitI at e
  omega
theorem less_end {x y s : Nat} (h : x / 2 ^ (s + 1) = y / 2 ^ (s + 1)) (e : bitI x s < bitI y s) : x < y := by
  rw [pow_half, pow_half] at h
  unfold bitI at e
  rcases Nat.lt_or_ge x y with g | g
  · exact g
  · have := Nat.div_le_div_right (c := 2 ^ s) g
    omega

set_option maxRecDepth 100000 in
set_option maxHeartbeats 3200000 in
theorem less_any (x y : Nat) (hx : (sizeL x).length ≤ 4000) (hy : (sizeL y).length ≤ 4000) (v v' : Value) (w : World) (h : Num w v x) (h' : Num w v' y) :
    Calls Try.prog 58 #[v, v'] w (Ret w (.bool (decide (x < y)))) := by
  obtain ⟨A, ca, rfl, hca, HA⟩ := h
  obtain ⟨A', cb, rfl, hcb, HB⟩ := h'
  have LA := hx
  have LB := hy
  have e1 : (sizeL x).length < (sizeL y).length → x < y := len_lt
  have e2 : (sizeL y).length < (sizeL x).length → y < x := len_lt
  have tx := top_zero x
  have ty := top_zero y
  generalize (sizeL x).length = la at *
  generalize (sizeL y).length = lb at *
  replace HA := Lib.hid HA
  replace HB := Lib.hid HB
  clear hx hy
  by_cases g : la = lb
  · subst g
    have HT := Lib.hid (tx.trans ty.symm)
    clear e1 e2 tx ty
    go_enter Try.func58, Try.ntmps58
    go_wp2_with fail
    go_loopw [5] (fun i wr => ∃ (s : Nat) (j : Int), i = .int .i64 j ∧ j = (s : Int) - 1 ∧ s ≤ la ∧ Hid (x / 2 ^ s = y / 2 ^ s) ∧ Below w.heap.size w wr) (fun i _ => (intOf i + 1).toNat)
    case atStart => exact ⟨la, _, rfl, by omega, Nat.le_refl _, HT, Below.refl _ _⟩
    case round =>
      obtain ⟨s, j, rfl, hj, hs, hE, hnx⟩ := hrel
      cases s with
      | zero =>
        have gj : ¬ (0 : Int) ≤ j := by omega
        clear hj
        have e : x = y := by simpa using hE.out
        have E := Lib.hid (show decide (x < y) = false by simp; omega)
        clear e hE HT HA HB
        go_wp2_with fail
        go_ret
        exact ⟨by rw [E.out]; rfl, hnx⟩
      | succ s =>
        obtain rfl : j = (s : Int) := by omega
        have ga : s < la := by omega
        obtain ⟨b, off, rfl, hbw, hcell⟩ := HA.out s ga
        obtain ⟨b', off', rfl, hbw', hcell'⟩ := HB.out s ga
        have hc1 := (hnx.cell (p := ⟨b, off + s, none⟩) (by exact hbw)).trans hcell
        have hc2 := (hnx.cell (p := ⟨b', off' + s, none⟩) (by exact hbw')).trans hcell'
        clear hcell hcell'
        have F1 := Lib.hid (fun e => less_step hE.out e)
        have F2 := Lib.hid (fun e => less_end hE.out e)
        have F3 := Lib.hid (fun e => less_end hE.out.symm e)
        have r1 := bit_range x s
        have r2 := bit_range y s
        have pp : bitI x s = 0 ∨ bitI x s = 1 := by omega
        have pq : bitI y s = 0 ∨ bitI y s = 1 := by omega
        clear r1 r2 hE hj
        generalize bitI x s = p at *
        generalize bitI y s = q at *
        rcases pp with rfl | rfl <;> rcases pq with rfl | rfl
        · go_wp2_with fail
          go_region
          go_wp2_with fail
          go_roundw
          case rel => exact ⟨s, _, rfl, by simp, by omega, Lib.hid (F1.out (by trivial)), hnx.drew⟩
          case measure => simp [intOf]
        · have E := Lib.hid (show decide (x < y) = true from by simpa using F2.out (by decide))
          go_wp2_with fail
          go_region
          go_wp2_with fail
          go_region
          go_wp2_with fail
          go_ret
          exact ⟨by rw [E.out]; rfl, hnx.drew.drew⟩
        · have E := Lib.hid (show decide (x < y) = false from by have := F3.out (by decide); simp; omega)
          go_wp2_with fail
          go_region
          go_wp2_with fail
          go_region
          go_wp2_with fail
          go_ret
          exact ⟨by rw [E.out]; rfl, hnx.drew.drew⟩
        · go_wp2_with fail
          go_region
          go_wp2_with fail
          go_roundw
          case rel => exact ⟨s, _, rfl, by simp, by omega, Lib.hid (F1.out (by trivial)), hnx.drew⟩
          case measure => simp [intOf]
  · by_cases k : la < lb
    · have E := Lib.hid (show decide (x < y) = true from by simpa using e1 k)
      clear e1 e2 tx ty
      go_enter Try.func58, Try.ntmps58
      go_wp2_with fail
      go_ret
      exact ⟨by rw [E.out]; rfl, Below.refl _ _⟩
    · have E := Lib.hid (show decide (x < y) = false from by have := e2 (by omega); simp; omega)
      clear e1 e2 tx ty
      go_enter Try.func58, Try.ntmps58
      go_wp2_with fail
      go_ret
      exact ⟨by rw [E.out]; rfl, Below.refl _ _⟩
end Go.Proofs.Ytmkminaipeodnaa
