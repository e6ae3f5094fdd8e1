/-
  The document's own answers, second part: two sizes together. Conditions: those written at each fact.
-/
import Derived.Test.YtmkminaipeodnaaRefA
namespace Go.Proofs.Ytmkminaipeodnaa
open Go.RowKit

/-- A binary digit. -/
def bitI (x k : Nat) : Int := ((x / 2 ^ k % 2 : Nat) : Int)
theorem bit_range (x k : Nat) : 0 ≤ bitI x k ∧ bitI x k ≤ 1 := by unfold bitI; omega
theorem half_pow (x k : Nat) : x / 2 / 2 ^ k = x / 2 ^ (k + 1) := by rw [Nat.div_div_eq_div_mul, Nat.pow_succ, Nat.mul_comm]
theorem pow_half (x k : Nat) : x / 2 ^ (k + 1) = x / 2 ^ k / 2 := by rw [Nat.div_div_eq_div_mul, Nat.pow_succ]
theorem bit_lt : ∀ (k x : Nat), k < (sizeL x).length ↔ x / 2 ^ k ≠ 0
  | 0, x => by
    by_cases g : x = 0
    · subst g; rw [sizeL_zero]; simp
    · rw [sizeL_pos g]; simpa using g
  | k + 1, x => by
    by_cases g : x = 0
    · subst g; rw [sizeL_zero]; simp
    · rw [sizeL_pos g, List.length_cons, ← half_pow, ← bit_lt k (x / 2)]
      omega
theorem bit_at : ∀ (k x : Nat), k < (sizeL x).length → (sizeL x)[k]? = some (bitI x k)
  | 0, x, h => by
    have g : x ≠ 0 := by intro g; subst g; rw [sizeL_zero] at h; simp at h
    rw [sizeL_pos g]
    simp [bitI]
  | k + 1, x, h => by
    have g : x ≠ 0 := by intro g; subst g; rw [sizeL_zero] at h; simp at h
    rw [sizeL_pos g] at h ⊢
    rw [List.getElem?_cons_succ, bit_at k (x / 2) (by simpa using h)]
    unfold bitI
    rw [half_pow]
/-- A row that is a number's binary digits. -/
def Num (w : World) (v : Value) (x : Nat) : Prop :=
  ∃ A c, v = .slice A (sizeL x).length c ∧ ((sizeL x).length ≤ c ∧ (A = none → c = 0)) ∧ ∀ k, k < (sizeL x).length → ∃ b off, A = some ⟨b, off, none⟩ ∧ b < w.heap.size ∧ w.cell? ⟨b, off + k, none⟩ = some (.int .i64 (bitI x k))
theorem Num.below {w w' : World} {v : Value} {x : Nat} (h : Num w v x) (hb : Below w.heap.size w w') : Num w' v x := by
  obtain ⟨A, c, e, hc, hk⟩ := h
  refine ⟨A, c, e, hc, fun k hl => ?_⟩
  obtain ⟨b, off, e1, e2, e3⟩ := hk k hl
  exact ⟨b, off, e1, Nat.lt_of_lt_of_le e2 hb.size, (hb.cell (by exact e2)).trans e3⟩

/-- A number's row is as long as it must be. -/
theorem size_lt (x : Nat) : x < 2 ^ (sizeL x).length := by
  have h := bit_lt (sizeL x).length x
  have h0 : x / 2 ^ (sizeL x).length = 0 := by
    rcases Nat.eq_zero_or_pos (x / 2 ^ (sizeL x).length) with e | e
    · exact e
    · exact absurd (h.2 (by omega)) (Nat.lt_irrefl _)
  exact (Nat.div_eq_zero_iff.1 h0).resolve_left (by have := Nat.two_pow_pos (sizeL x).length; omega)
theorem size_mono {x y : Nat} (h : x ≤ y) : (sizeL x).length ≤ (sizeL y).length := sizeL_length _ x (Nat.lt_of_le_of_lt h (size_lt y))
theorem size_add (x y : Nat) : (sizeL (x + y)).length ≤ max (sizeL x).length (sizeL y).length + 1 := by
  refine sizeL_length _ _ ?_
  have h1 := size_lt x
  have h2 := size_lt y
  have h3 : 2 ^ (sizeL x).length ≤ 2 ^ max (sizeL x).length (sizeL y).length := Nat.pow_le_pow_right (by decide) (Nat.le_max_left ..)
  have h4 : 2 ^ (sizeL y).length ≤ 2 ^ max (sizeL x).length (sizeL y).length := Nat.pow_le_pow_right (by decide) (Nat.le_max_right ..)
  rw [Nat.pow_succ]
  omega
theorem size_mul (x y : Nat) : (sizeL (x * y)).length ≤ (sizeL x).length + (sizeL y).length := by
  refine sizeL_length _ _ ?_
  rw [Nat.pow_add]
  exact Nat.mul_lt_mul'' (size_lt x) (size_lt y)
theorem size_pow (n : Nat) : (sizeL (2 ^ n)).length ≤ n + 1 := sizeL_length _ _ (Nat.pow_lt_pow_right (by decide) (Nat.lt_succ_self n))
theorem ne_mid {a b c : Nat} (h : b ≠ 0) : a + b + c ≠ 0 := by omega
theorem ne_end {a b c : Nat} (h : c ≠ 0) : a + b + c ≠ 0 := by omega
/-- One digit of a sum. -/
theorem plus_step {x y k : Nat} {z n : Int} (h0 : 0 ≤ z) (hn : n = z + bitI x k + bitI y k) (hS : z.toNat + x / 2 ^ k + y / 2 ^ k ≠ 0) :
    sizeL (z.toNat + x / 2 ^ k + y / 2 ^ k) = (n % 2) :: sizeL ((n / 2).toNat + x / 2 ^ (k + 1) + y / 2 ^ (k + 1)) := by
  rw [sizeL_pos hS, pow_half, pow_half]
  unfold bitI at hn
  generalize x / 2 ^ k = X at *
  generalize y / 2 ^ k = Y at *
  have e1 : ((z.toNat + X + Y : Nat) : Int) % 2 = n % 2 := by omega
  have e2 : (z.toNat + X + Y) / 2 = (n / 2).toNat + X / 2 + Y / 2 := by omega
  rw [e1, e2]

set_option maxRecDepth 100000 in
set_option maxHeartbeats 1600000 in
theorem plusN_any (x y : Nat) (hx : (sizeL x).length ≤ 4000) (hy : (sizeL y).length ≤ 4000) (v v' : Value) (w : World) (h : Num w v x) (h' : Num w v' y) :
    Calls Try.prog 55 #[v, v'] w (Made w (sizeL (x + y))) := by
  obtain ⟨A, ca, rfl, hca, HA⟩ := h
  obtain ⟨A', cb, rfl, hcb, HB⟩ := h'
  have HL := Lib.hid (show (sizeL (x + y)).length ≤ 4001 from Nat.le_trans (size_add x y) (by omega))
  have LA := hx
  have LB := hy
  have EA := Lib.hid (fun k => bit_lt k x)
  have EB := Lib.hid (fun k => bit_lt k y)
  generalize (sizeL x).length = la at *
  generalize (sizeL y).length = lb at *
  replace HA := Lib.hid HA
  replace HB := Lib.hid HB
  clear hx hy
  obtain ⟨i0, hi, hz0, hz1, hz2⟩ := info_parts infoInt
  go_enter Try.func55, Try.ntmps55
  go_wp2_with fail
  go_loopw [5, 6, 7] (fun v c i wr => ∃ (k : Nat) (z : Int) (K : List Int), i = .int .i64 k ∧ c = .int .i64 z ∧ 0 ≤ z ∧ z ≤ 1 ∧ k = K.length ∧ Hid (K ++ sizeL (z.toNat + x / 2 ^ k + y / 2 ^ k) = sizeL (x + y)) ∧ wr.ownsRow w.heap.size 3 1 v K.length (K.map (Value.int .i64)) ∧ Below w.heap.size w wr)
    (fun _ _ i _ => 5000 - (intOf i).toNat)
  case atStart => exact ⟨0, 0, [], rfl, rfl, by omega, by omega, rfl, Lib.hid (by simp), World.ownsRow_nil _ _ _ _, Below.refl _ _⟩
  case round =>
    obtain ⟨k, z, K, rfl, rfl, hz0', hz1', hk, hK, hown, hnx⟩ := hrel
    subst hk
    have hle : K.length ≤ 4001 := by
      have := HL.out
      rw [← hK.out, List.length_append] at this
      omega
    by_cases ga : K.length < la
    · by_cases gb : K.length < lb
      · skip
        obtain ⟨b, off, rfl, hbw, hcell⟩ := HA.out _ ga
        have hc1 := (hnx.cell (p := ⟨b, off + K.length, none⟩) (by exact hbw)).trans hcell
        have r1 := bit_range x K.length
        obtain ⟨b', off', rfl, hbw', hcell'⟩ := HB.out _ gb
        have hc2 := (hnx.cell (p := ⟨b', off' + K.length, none⟩) (by exact hbw')).trans hcell'
        have r2 := bit_range y K.length
        have sx := (EA.out K.length).1 ga
        have sy := (EB.out K.length).1 gb
        have ST := Lib.hid (plus_step (x := x) (y := y) (k := K.length) (z := z) (n := z + bitI x K.length + bitI y K.length) hz0' (by rfl) (ne_mid sx))
        clear sx sy
        clear hcell
        clear hcell'
        generalize bitI x K.length = p at *
        generalize bitI y K.length = q at *
        go_wp2_with (at_builtin; refine wpList_append_own _ rfl _ _ 43 rfl w.heap.size 3 i0 (.int .i64 0) 1 8 Try.underlying43 hi hz0 hz1 hz2 rfl (by decide) _ _ _ rfl (hown.alloc _) ⟨wr.heap.size, 0, none⟩ 1 1 [.int .i64 ((z + p + q) % 2)] rfl rfl ?c1 ?c2 ?c3 ?c4 ?c5 ?_)
        case c1 =>
          intro j u hj
          match j, hj with
          | 0, hj => simp at hj; subst hj; simp [Addr.add]
        case c2 => intro u hu; simp at hu; subst hu; rfl
        case c3 => unfold maxLen; omega
        case c4 => omega
        case c5 => have := hnx.size; simp; omega
        intro v' w1 hown' hgrow _
        have R := row_more hnx.size hown hnx hown' hgrow
        have hK' : Hid ((K ++ [(z + p + q) % 2]) ++ sizeL (((z + p + q) / 2).toNat + x / 2 ^ (K.length + 1) + y / 2 ^ (K.length + 1)) = sizeL (x + y)) := Lib.hid (by rw [← hK.out, ST.out, List.append_assoc]; rfl)
        clear hown' hgrow hown hnx hK ST
        go_wp2_with fail
        go_roundw
        case rel => exact ⟨K.length + 1, (z + p + q) / 2, K ++ [(z + p + q) % 2], by simp, by simp, by omega, by omega, by simp, hK', R.1, R.2⟩
        case measure => simp [intOf]; omega
      · skip
        obtain ⟨b, off, rfl, hbw, hcell⟩ := HA.out _ ga
        have hc1 := (hnx.cell (p := ⟨b, off + K.length, none⟩) (by exact hbw)).trans hcell
        have r1 := bit_range x K.length
        have sx := (EA.out K.length).1 ga
        have sy : y / 2 ^ K.length = 0 := by have := (EB.out K.length).2; omega
        have ST := Lib.hid (plus_step (x := x) (y := y) (k := K.length) (z := z) (n := z + bitI x K.length) hz0' (by unfold bitI; rw [sy]; simp) (ne_mid sx))
        clear sx sy
        clear hcell
        generalize bitI x K.length = p at *
        go_wp2_with (at_builtin; refine wpList_append_own _ rfl _ _ 43 rfl w.heap.size 3 i0 (.int .i64 0) 1 8 Try.underlying43 hi hz0 hz1 hz2 rfl (by decide) _ _ _ rfl (hown.alloc _) ⟨wr.heap.size, 0, none⟩ 1 1 [.int .i64 ((z + p) % 2)] rfl rfl ?c1 ?c2 ?c3 ?c4 ?c5 ?_)
        case c1 =>
          intro j u hj
          match j, hj with
          | 0, hj => simp at hj; subst hj; simp [Addr.add]
        case c2 => intro u hu; simp at hu; subst hu; rfl
        case c3 => unfold maxLen; omega
        case c4 => omega
        case c5 => have := hnx.size; simp; omega
        intro v' w1 hown' hgrow _
        have R := row_more hnx.size hown hnx hown' hgrow
        have hK' : Hid ((K ++ [(z + p) % 2]) ++ sizeL (((z + p) / 2).toNat + x / 2 ^ (K.length + 1) + y / 2 ^ (K.length + 1)) = sizeL (x + y)) := Lib.hid (by rw [← hK.out, ST.out, List.append_assoc]; rfl)
        clear hown' hgrow hown hnx hK ST
        go_wp2_with fail
        go_roundw
        case rel => exact ⟨K.length + 1, (z + p) / 2, K ++ [(z + p) % 2], by simp, by simp, by omega, by omega, by simp, hK', R.1, R.2⟩
        case measure => simp [intOf]; omega
    · by_cases gb : K.length < lb
      · skip
        obtain ⟨b', off', rfl, hbw', hcell'⟩ := HB.out _ gb
        have hc2 := (hnx.cell (p := ⟨b', off' + K.length, none⟩) (by exact hbw')).trans hcell'
        have r2 := bit_range y K.length
        have sx : x / 2 ^ K.length = 0 := by have := (EA.out K.length).2; omega
        have sy := (EB.out K.length).1 gb
        have ST := Lib.hid (plus_step (x := x) (y := y) (k := K.length) (z := z) (n := z + bitI y K.length) hz0' (by unfold bitI; rw [sx]; simp) (ne_end sy))
        clear sx sy
        clear hcell'
        generalize bitI y K.length = q at *
        go_wp2_with (at_builtin; refine wpList_append_own _ rfl _ _ 43 rfl w.heap.size 3 i0 (.int .i64 0) 1 8 Try.underlying43 hi hz0 hz1 hz2 rfl (by decide) _ _ _ rfl (hown.alloc _) ⟨wr.heap.size, 0, none⟩ 1 1 [.int .i64 ((z + q) % 2)] rfl rfl ?c1 ?c2 ?c3 ?c4 ?c5 ?_)
        case c1 =>
          intro j u hj
          match j, hj with
          | 0, hj => simp at hj; subst hj; simp [Addr.add]
        case c2 => intro u hu; simp at hu; subst hu; rfl
        case c3 => unfold maxLen; omega
        case c4 => omega
        case c5 => have := hnx.size; simp; omega
        intro v' w1 hown' hgrow _
        have R := row_more hnx.size hown hnx hown' hgrow
        have hK' : Hid ((K ++ [(z + q) % 2]) ++ sizeL (((z + q) / 2).toNat + x / 2 ^ (K.length + 1) + y / 2 ^ (K.length + 1)) = sizeL (x + y)) := Lib.hid (by rw [← hK.out, ST.out, List.append_assoc]; rfl)
        clear hown' hgrow hown hnx hK ST
        go_wp2_with fail
        go_roundw
        case rel => exact ⟨K.length + 1, (z + q) / 2, K ++ [(z + q) % 2], by simp, by simp, by omega, by omega, by simp, hK', R.1, R.2⟩
        case measure => simp [intOf]; omega
      · by_cases gz : 0 < z
        · skip
          have sx : x / 2 ^ K.length = 0 := by have := (EA.out K.length).2; omega
          have sy : y / 2 ^ K.length = 0 := by have := (EB.out K.length).2; omega
          have ST := Lib.hid (plus_step (x := x) (y := y) (k := K.length) (z := z) (n := z) hz0' (by unfold bitI; rw [sx, sy]; simp) (by omega))
          clear sx sy
          go_wp2_with (at_builtin; refine wpList_append_own _ rfl _ _ 43 rfl w.heap.size 3 i0 (.int .i64 0) 1 8 Try.underlying43 hi hz0 hz1 hz2 rfl (by decide) _ _ _ rfl (hown.alloc _) ⟨wr.heap.size, 0, none⟩ 1 1 [.int .i64 ((z) % 2)] rfl rfl ?c1 ?c2 ?c3 ?c4 ?c5 ?_)
          case c1 =>
            intro j u hj
            match j, hj with
            | 0, hj => simp at hj; subst hj; simp [Addr.add]
          case c2 => intro u hu; simp at hu; subst hu; rfl
          case c3 => unfold maxLen; omega
          case c4 => omega
          case c5 => have := hnx.size; simp; omega
          intro v' w1 hown' hgrow _
          have R := row_more hnx.size hown hnx hown' hgrow
          have hK' : Hid ((K ++ [(z) % 2]) ++ sizeL (((z) / 2).toNat + x / 2 ^ (K.length + 1) + y / 2 ^ (K.length + 1)) = sizeL (x + y)) := Lib.hid (by rw [← hK.out, ST.out, List.append_assoc]; rfl)
          clear hown' hgrow hown hnx hK ST
          go_wp2_with fail
          go_roundw
          case rel => exact ⟨K.length + 1, (z) / 2, K ++ [(z) % 2], by simp, by simp, by omega, by omega, by simp, hK', R.1, R.2⟩
          case measure => simp [intOf]; omega
        · have sx : x / 2 ^ K.length = 0 := by have := (EA.out K.length).2; omega
          have sy : y / 2 ^ K.length = 0 := by have := (EB.out K.length).2; omega
          have e := hK.out
          have z0 : z = 0 := by omega
          rw [sx, sy, z0, show (0 : Int).toNat + 0 + 0 = 0 from rfl, sizeL_zero, List.append_nil] at e
          have E := Lib.hid e
          clear e hK sx sy z0
          go_wp2_with fail
          go_ret
          rw [← E.out]
          exact ⟨_, rfl, hnx, hown⟩
end Go.Proofs.Ytmkminaipeodnaa
