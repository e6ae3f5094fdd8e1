/-
  The document's own answers, fifth part: a size less one that is not greater. Conditions: those written at each fact.
-/
import Derived.Test.YtmkminaipeodnaaRefD
namespace Go.Proofs.Ytmkminaipeodnaa
open Go.RowKit

theorem one_cell {w : World} {t : TypeId} {x : Value} : ∀ (j : Nat) (u : Value), [x][j]? = some u → (w.alloc (.cells #[x] t)).cell? ((⟨w.heap.size, 0, none⟩ : Addr).add j) = some u := by
  intro j u hj
  match j, hj with
  | 0, hj => simp at hj; subst hj; simp [Addr.add]
theorem one_int {z : Int} : ∀ u ∈ [Value.int .i64 z], u.oneCell' = true := by
  intro u hu; simp at hu; subst hu; rfl
theorem below_thru {w W w' : World} (h : Below w.heap.size w W) (k : Below W.heap.size W w') : Below w.heap.size w w' := (Keeps.next (L := []) ⟨h, trivial⟩ k).1

set_option maxRecDepth 100000 in
set_option maxHeartbeats 3200000 in
theorem minus_any (x y : Nat) (hx : (sizeL x).length ≤ 4000) (hle : y ≤ x) (v v' : Value) (w : World) (h : Num w v x) (h' : Num w v' y) :
    Calls Try.prog 57 #[v, v'] w (Gave w (x - y)) := by
  obtain ⟨A, ca, rfl, hca, HA⟩ := h
  obtain ⟨A', cb, rfl, hcb, HB⟩ := h'
  have LA := hx
  have LB : (sizeL y).length ≤ 4000 := Nat.le_trans (size_mono hle) hx
  have EA := Lib.hid (fun k => bit_lt k x)
  have EB := Lib.hid (fun k => bit_lt k y)
  have HE := Lib.hid hle
  have hab : (sizeL y).length ≤ (sizeL x).length := by
    rcases Nat.lt_or_ge (sizeL x).length (sizeL y).length with g | g
    · have g1 := (bit_lt (sizeL x).length y).1 g
      have g2 : x / 2 ^ (sizeL x).length = 0 := by
        rcases Nat.eq_zero_or_pos (x / 2 ^ (sizeL x).length) with e | e
        · exact e
        · exact absurd ((bit_lt (sizeL x).length x).2 (by omega)) (Nat.lt_irrefl _)
      exact absurd (Nat.le_zero.1 (g2 ▸ Nat.div_le_div_right hle)) g1
    · exact g
  generalize (sizeL x).length = la at *
  generalize (sizeL y).length = lb at *
  replace HA := Lib.hid HA
  replace HB := Lib.hid HB
  clear hx hle
  obtain ⟨i0, hi, hz0, hz1, hz2⟩ := info_parts infoInt
  go_enter Try.func57, Try.ntmps57
  go_wp2_with fail
  go_loopw [5, 6, 7] (fun v c i wr => ∃ (z : Int) (K : List Int), i = .int .i64 K.length ∧ c = .int .i64 z ∧ 0 ≤ z ∧ z ≤ 1 ∧ K.length ≤ la ∧ Hid (∀ d ∈ K, d = 0 ∨ d = 1) ∧ Hid ((valB K : Int) + 2 ^ K.length * (((x / 2 ^ K.length : Nat) : Int) - (y / 2 ^ K.length : Nat) - z) = (x : Int) - y) ∧ wr.ownsRow w.heap.size 3 1 v K.length (K.map (Value.int .i64)) ∧ Below w.heap.size w wr)
    (fun _ _ i _ => la - (intOf i).toNat)
  case atStart => exact ⟨0, [], rfl, rfl, by omega, by omega, by simp, Lib.hid (by simp), Lib.hid (by simp [valB]), World.ownsRow_nil _ _ _ _, Below.refl _ _⟩
  case round =>
    obtain ⟨z, K, rfl, rfl, hz0', hz1', hk, hD, hK, hown, hnx⟩ := hrel
    by_cases ga : K.length < la
    · obtain ⟨b, off, rfl, hbw, hcell⟩ := HA.out _ ga
      have hc1 := (hnx.cell (p := ⟨b, off + K.length, none⟩) (by exact hbw)).trans hcell
      have r1 := bit_range x K.length
      clear hcell
      have pz : z = 0 ∨ z = 1 := by omega
      have pp : bitI x K.length = 0 ∨ bitI x K.length = 1 := by omega
      clear r1 hz0' hz1'
      by_cases gb : K.length < lb
      · obtain ⟨b', off', rfl, hbw', hcell'⟩ := HB.out _ gb
        have hc2 := (hnx.cell (p := ⟨b', off' + K.length, none⟩) (by exact hbw')).trans hcell'
        have r2 := bit_range y K.length
        have pq : bitI y K.length = 0 ∨ bitI y K.length = 1 := by omega
        clear hcell' r2
        have ST : Hid (∀ (d : Nat) (z' : Int), bitI x K.length - z - bitI y K.length = (d : Int) - 2 * z' → _) := Lib.hid (fun d z' hn => minus_step (x := x) (y := y) (k := K.length) (V := valB K) (d := d) (z := z) (z' := z') hK.out hn)
        generalize bitI x K.length = p at *
        generalize bitI y K.length = q at *
        rcases pp with rfl | rfl <;> rcases pz with rfl | rfl <;> rcases pq with rfl | rfl
        · skip
          have hM := Lib.hid (ST.out 0 0 (by omega))
          go_wp2_with (at_builtin; refine wpList_append_own _ rfl _ _ 43 rfl w.heap.size 3 i0 (.int .i64 0) 1 8 Try.underlying43 hi hz0 hz1 hz2 rfl (by decide) _ _ _ rfl (hown.alloc _) ⟨wr.heap.size, 0, none⟩ 1 1 [.int .i64 0] rfl rfl one_cell one_int ?c3 ?c4 ?c5 ?_)
          case c3 => unfold maxLen; omega
          case c4 => omega
          case c5 => have := hnx.size; simp; omega
          intro v' w1 hown' hgrow _
          have R := row_more hnx.size hown hnx hown' hgrow
          have hD' : Hid (∀ d ∈ K ++ [0], d = 0 ∨ d = 1) := Lib.hid (fun d hd => (List.mem_append.1 hd).elim (hD.out d) (fun g => by rw [List.mem_singleton.1 g]; decide))
          have hK' : Hid ((valB (K ++ [0]) : Int) + 2 ^ (K ++ [0]).length * (((x / 2 ^ (K ++ [0]).length : Nat) : Int) - (y / 2 ^ (K ++ [0]).length : Nat) - 0) = (x : Int) - y) := Lib.hid (by rw [valB_more, List.length_append]; exact hM.out)
          clear hown' hgrow hown hnx hK ST hM hD
          go_wp2_with fail
          go_roundw
          case rel => exact ⟨0, K ++ [0], by simp, by simp, by omega, by omega, by simp; omega, hD', hK', R.1, R.2⟩
          case measure => simp [intOf]; omega
        · skip
          have hM := Lib.hid (ST.out 1 1 (by omega))
          go_wp2_with (at_builtin; refine wpList_append_own _ rfl _ _ 43 rfl w.heap.size 3 i0 (.int .i64 0) 1 8 Try.underlying43 hi hz0 hz1 hz2 rfl (by decide) _ _ _ rfl (hown.alloc _) ⟨wr.heap.size, 0, none⟩ 1 1 [.int .i64 1] rfl rfl one_cell one_int ?c3 ?c4 ?c5 ?_)
          case c3 => unfold maxLen; omega
          case c4 => omega
          case c5 => have := hnx.size; simp; omega
          intro v' w1 hown' hgrow _
          have R := row_more hnx.size hown hnx hown' hgrow
          have hD' : Hid (∀ d ∈ K ++ [1], d = 0 ∨ d = 1) := Lib.hid (fun d hd => (List.mem_append.1 hd).elim (hD.out d) (fun g => by rw [List.mem_singleton.1 g]; decide))
          have hK' : Hid ((valB (K ++ [1]) : Int) + 2 ^ (K ++ [1]).length * (((x / 2 ^ (K ++ [1]).length : Nat) : Int) - (y / 2 ^ (K ++ [1]).length : Nat) - 1) = (x : Int) - y) := Lib.hid (by rw [valB_more, List.length_append]; exact hM.out)
          clear hown' hgrow hown hnx hK ST hM hD
          go_wp2_with fail
          go_roundw
          case rel => exact ⟨1, K ++ [1], by simp, by simp, by omega, by omega, by simp; omega, hD', hK', R.1, R.2⟩
          case measure => simp [intOf]; omega
        · skip
          have hM := Lib.hid (ST.out 1 1 (by omega))
          go_wp2_with (at_builtin; refine wpList_append_own _ rfl _ _ 43 rfl w.heap.size 3 i0 (.int .i64 0) 1 8 Try.underlying43 hi hz0 hz1 hz2 rfl (by decide) _ _ _ rfl (hown.alloc _) ⟨wr.heap.size, 0, none⟩ 1 1 [.int .i64 1] rfl rfl one_cell one_int ?c3 ?c4 ?c5 ?_)
          case c3 => unfold maxLen; omega
          case c4 => omega
          case c5 => have := hnx.size; simp; omega
          intro v' w1 hown' hgrow _
          have R := row_more hnx.size hown hnx hown' hgrow
          have hD' : Hid (∀ d ∈ K ++ [1], d = 0 ∨ d = 1) := Lib.hid (fun d hd => (List.mem_append.1 hd).elim (hD.out d) (fun g => by rw [List.mem_singleton.1 g]; decide))
          have hK' : Hid ((valB (K ++ [1]) : Int) + 2 ^ (K ++ [1]).length * (((x / 2 ^ (K ++ [1]).length : Nat) : Int) - (y / 2 ^ (K ++ [1]).length : Nat) - 1) = (x : Int) - y) := Lib.hid (by rw [valB_more, List.length_append]; exact hM.out)
          clear hown' hgrow hown hnx hK ST hM hD
          go_wp2_with fail
          go_roundw
          case rel => exact ⟨1, K ++ [1], by simp, by simp, by omega, by omega, by simp; omega, hD', hK', R.1, R.2⟩
          case measure => simp [intOf]; omega
        · skip
          have hM := Lib.hid (ST.out 0 1 (by omega))
          go_wp2_with (at_builtin; refine wpList_append_own _ rfl _ _ 43 rfl w.heap.size 3 i0 (.int .i64 0) 1 8 Try.underlying43 hi hz0 hz1 hz2 rfl (by decide) _ _ _ rfl (hown.alloc _) ⟨wr.heap.size, 0, none⟩ 1 1 [.int .i64 0] rfl rfl one_cell one_int ?c3 ?c4 ?c5 ?_)
          case c3 => unfold maxLen; omega
          case c4 => omega
          case c5 => have := hnx.size; simp; omega
          intro v' w1 hown' hgrow _
          have R := row_more hnx.size hown hnx hown' hgrow
          have hD' : Hid (∀ d ∈ K ++ [0], d = 0 ∨ d = 1) := Lib.hid (fun d hd => (List.mem_append.1 hd).elim (hD.out d) (fun g => by rw [List.mem_singleton.1 g]; decide))
          have hK' : Hid ((valB (K ++ [0]) : Int) + 2 ^ (K ++ [0]).length * (((x / 2 ^ (K ++ [0]).length : Nat) : Int) - (y / 2 ^ (K ++ [0]).length : Nat) - 1) = (x : Int) - y) := Lib.hid (by rw [valB_more, List.length_append]; exact hM.out)
          clear hown' hgrow hown hnx hK ST hM hD
          go_wp2_with fail
          go_roundw
          case rel => exact ⟨1, K ++ [0], by simp, by simp, by omega, by omega, by simp; omega, hD', hK', R.1, R.2⟩
          case measure => simp [intOf]; omega
        · skip
          have hM := Lib.hid (ST.out 1 0 (by omega))
          go_wp2_with (at_builtin; refine wpList_append_own _ rfl _ _ 43 rfl w.heap.size 3 i0 (.int .i64 0) 1 8 Try.underlying43 hi hz0 hz1 hz2 rfl (by decide) _ _ _ rfl (hown.alloc _) ⟨wr.heap.size, 0, none⟩ 1 1 [.int .i64 1] rfl rfl one_cell one_int ?c3 ?c4 ?c5 ?_)
          case c3 => unfold maxLen; omega
          case c4 => omega
          case c5 => have := hnx.size; simp; omega
          intro v' w1 hown' hgrow _
          have R := row_more hnx.size hown hnx hown' hgrow
          have hD' : Hid (∀ d ∈ K ++ [1], d = 0 ∨ d = 1) := Lib.hid (fun d hd => (List.mem_append.1 hd).elim (hD.out d) (fun g => by rw [List.mem_singleton.1 g]; decide))
          have hK' : Hid ((valB (K ++ [1]) : Int) + 2 ^ (K ++ [1]).length * (((x / 2 ^ (K ++ [1]).length : Nat) : Int) - (y / 2 ^ (K ++ [1]).length : Nat) - 0) = (x : Int) - y) := Lib.hid (by rw [valB_more, List.length_append]; exact hM.out)
          clear hown' hgrow hown hnx hK ST hM hD
          go_wp2_with fail
          go_roundw
          case rel => exact ⟨0, K ++ [1], by simp, by simp, by omega, by omega, by simp; omega, hD', hK', R.1, R.2⟩
          case measure => simp [intOf]; omega
        · skip
          have hM := Lib.hid (ST.out 0 0 (by omega))
          go_wp2_with (at_builtin; refine wpList_append_own _ rfl _ _ 43 rfl w.heap.size 3 i0 (.int .i64 0) 1 8 Try.underlying43 hi hz0 hz1 hz2 rfl (by decide) _ _ _ rfl (hown.alloc _) ⟨wr.heap.size, 0, none⟩ 1 1 [.int .i64 0] rfl rfl one_cell one_int ?c3 ?c4 ?c5 ?_)
          case c3 => unfold maxLen; omega
          case c4 => omega
          case c5 => have := hnx.size; simp; omega
          intro v' w1 hown' hgrow _
          have R := row_more hnx.size hown hnx hown' hgrow
          have hD' : Hid (∀ d ∈ K ++ [0], d = 0 ∨ d = 1) := Lib.hid (fun d hd => (List.mem_append.1 hd).elim (hD.out d) (fun g => by rw [List.mem_singleton.1 g]; decide))
          have hK' : Hid ((valB (K ++ [0]) : Int) + 2 ^ (K ++ [0]).length * (((x / 2 ^ (K ++ [0]).length : Nat) : Int) - (y / 2 ^ (K ++ [0]).length : Nat) - 0) = (x : Int) - y) := Lib.hid (by rw [valB_more, List.length_append]; exact hM.out)
          clear hown' hgrow hown hnx hK ST hM hD
          go_wp2_with fail
          go_roundw
          case rel => exact ⟨0, K ++ [0], by simp, by simp, by omega, by omega, by simp; omega, hD', hK', R.1, R.2⟩
          case measure => simp [intOf]; omega
        · skip
          have hM := Lib.hid (ST.out 0 0 (by omega))
          go_wp2_with (at_builtin; refine wpList_append_own _ rfl _ _ 43 rfl w.heap.size 3 i0 (.int .i64 0) 1 8 Try.underlying43 hi hz0 hz1 hz2 rfl (by decide) _ _ _ rfl (hown.alloc _) ⟨wr.heap.size, 0, none⟩ 1 1 [.int .i64 0] rfl rfl one_cell one_int ?c3 ?c4 ?c5 ?_)
          case c3 => unfold maxLen; omega
          case c4 => omega
          case c5 => have := hnx.size; simp; omega
          intro v' w1 hown' hgrow _
          have R := row_more hnx.size hown hnx hown' hgrow
          have hD' : Hid (∀ d ∈ K ++ [0], d = 0 ∨ d = 1) := Lib.hid (fun d hd => (List.mem_append.1 hd).elim (hD.out d) (fun g => by rw [List.mem_singleton.1 g]; decide))
          have hK' : Hid ((valB (K ++ [0]) : Int) + 2 ^ (K ++ [0]).length * (((x / 2 ^ (K ++ [0]).length : Nat) : Int) - (y / 2 ^ (K ++ [0]).length : Nat) - 0) = (x : Int) - y) := Lib.hid (by rw [valB_more, List.length_append]; exact hM.out)
          clear hown' hgrow hown hnx hK ST hM hD
          go_wp2_with fail
          go_roundw
          case rel => exact ⟨0, K ++ [0], by simp, by simp, by omega, by omega, by simp; omega, hD', hK', R.1, R.2⟩
          case measure => simp [intOf]; omega
        · skip
          have hM := Lib.hid (ST.out 1 1 (by omega))
          go_wp2_with (at_builtin; refine wpList_append_own _ rfl _ _ 43 rfl w.heap.size 3 i0 (.int .i64 0) 1 8 Try.underlying43 hi hz0 hz1 hz2 rfl (by decide) _ _ _ rfl (hown.alloc _) ⟨wr.heap.size, 0, none⟩ 1 1 [.int .i64 1] rfl rfl one_cell one_int ?c3 ?c4 ?c5 ?_)
          case c3 => unfold maxLen; omega
          case c4 => omega
          case c5 => have := hnx.size; simp; omega
          intro v' w1 hown' hgrow _
          have R := row_more hnx.size hown hnx hown' hgrow
          have hD' : Hid (∀ d ∈ K ++ [1], d = 0 ∨ d = 1) := Lib.hid (fun d hd => (List.mem_append.1 hd).elim (hD.out d) (fun g => by rw [List.mem_singleton.1 g]; decide))
          have hK' : Hid ((valB (K ++ [1]) : Int) + 2 ^ (K ++ [1]).length * (((x / 2 ^ (K ++ [1]).length : Nat) : Int) - (y / 2 ^ (K ++ [1]).length : Nat) - 1) = (x : Int) - y) := Lib.hid (by rw [valB_more, List.length_append]; exact hM.out)
          clear hown' hgrow hown hnx hK ST hM hD
          go_wp2_with fail
          go_roundw
          case rel => exact ⟨1, K ++ [1], by simp, by simp, by omega, by omega, by simp; omega, hD', hK', R.1, R.2⟩
          case measure => simp [intOf]; omega
      · have sy : bitI y K.length = 0 := by
          have e : y / 2 ^ K.length = 0 := by
            rcases Nat.eq_zero_or_pos (y / 2 ^ K.length) with e | e
            · exact e
            · exact absurd ((EB.out K.length).2 (by omega)) gb
          unfold bitI
          rw [e]
          rfl
        have ST : Hid (∀ (d : Nat) (z' : Int), bitI x K.length - z = (d : Int) - 2 * z' → _) := Lib.hid (fun d z' hn => minus_step (x := x) (y := y) (k := K.length) (V := valB K) (d := d) (z := z) (z' := z') hK.out (by rw [sy]; omega))
        clear sy
        generalize bitI x K.length = p at *
        rcases pp with rfl | rfl <;> rcases pz with rfl | rfl
        · skip
          have hM := Lib.hid (ST.out 0 0 (by omega))
          go_wp2_with (at_builtin; refine wpList_append_own _ rfl _ _ 43 rfl w.heap.size 3 i0 (.int .i64 0) 1 8 Try.underlying43 hi hz0 hz1 hz2 rfl (by decide) _ _ _ rfl (hown.alloc _) ⟨wr.heap.size, 0, none⟩ 1 1 [.int .i64 0] rfl rfl one_cell one_int ?c3 ?c4 ?c5 ?_)
          case c3 => unfold maxLen; omega
          case c4 => omega
          case c5 => have := hnx.size; simp; omega
          intro v' w1 hown' hgrow _
          have R := row_more hnx.size hown hnx hown' hgrow
          have hD' : Hid (∀ d ∈ K ++ [0], d = 0 ∨ d = 1) := Lib.hid (fun d hd => (List.mem_append.1 hd).elim (hD.out d) (fun g => by rw [List.mem_singleton.1 g]; decide))
          have hK' : Hid ((valB (K ++ [0]) : Int) + 2 ^ (K ++ [0]).length * (((x / 2 ^ (K ++ [0]).length : Nat) : Int) - (y / 2 ^ (K ++ [0]).length : Nat) - 0) = (x : Int) - y) := Lib.hid (by rw [valB_more, List.length_append]; exact hM.out)
          clear hown' hgrow hown hnx hK ST hM hD
          go_wp2_with fail
          go_roundw
          case rel => exact ⟨0, K ++ [0], by simp, by simp, by omega, by omega, by simp; omega, hD', hK', R.1, R.2⟩
          case measure => simp [intOf]; omega
        · skip
          have hM := Lib.hid (ST.out 1 1 (by omega))
          go_wp2_with (at_builtin; refine wpList_append_own _ rfl _ _ 43 rfl w.heap.size 3 i0 (.int .i64 0) 1 8 Try.underlying43 hi hz0 hz1 hz2 rfl (by decide) _ _ _ rfl (hown.alloc _) ⟨wr.heap.size, 0, none⟩ 1 1 [.int .i64 1] rfl rfl one_cell one_int ?c3 ?c4 ?c5 ?_)
          case c3 => unfold maxLen; omega
          case c4 => omega
          case c5 => have := hnx.size; simp; omega
          intro v' w1 hown' hgrow _
          have R := row_more hnx.size hown hnx hown' hgrow
          have hD' : Hid (∀ d ∈ K ++ [1], d = 0 ∨ d = 1) := Lib.hid (fun d hd => (List.mem_append.1 hd).elim (hD.out d) (fun g => by rw [List.mem_singleton.1 g]; decide))
          have hK' : Hid ((valB (K ++ [1]) : Int) + 2 ^ (K ++ [1]).length * (((x / 2 ^ (K ++ [1]).length : Nat) : Int) - (y / 2 ^ (K ++ [1]).length : Nat) - 1) = (x : Int) - y) := Lib.hid (by rw [valB_more, List.length_append]; exact hM.out)
          clear hown' hgrow hown hnx hK ST hM hD
          go_wp2_with fail
          go_roundw
          case rel => exact ⟨1, K ++ [1], by simp, by simp, by omega, by omega, by simp; omega, hD', hK', R.1, R.2⟩
          case measure => simp [intOf]; omega
        · skip
          have hM := Lib.hid (ST.out 1 0 (by omega))
          go_wp2_with (at_builtin; refine wpList_append_own _ rfl _ _ 43 rfl w.heap.size 3 i0 (.int .i64 0) 1 8 Try.underlying43 hi hz0 hz1 hz2 rfl (by decide) _ _ _ rfl (hown.alloc _) ⟨wr.heap.size, 0, none⟩ 1 1 [.int .i64 1] rfl rfl one_cell one_int ?c3 ?c4 ?c5 ?_)
          case c3 => unfold maxLen; omega
          case c4 => omega
          case c5 => have := hnx.size; simp; omega
          intro v' w1 hown' hgrow _
          have R := row_more hnx.size hown hnx hown' hgrow
          have hD' : Hid (∀ d ∈ K ++ [1], d = 0 ∨ d = 1) := Lib.hid (fun d hd => (List.mem_append.1 hd).elim (hD.out d) (fun g => by rw [List.mem_singleton.1 g]; decide))
          have hK' : Hid ((valB (K ++ [1]) : Int) + 2 ^ (K ++ [1]).length * (((x / 2 ^ (K ++ [1]).length : Nat) : Int) - (y / 2 ^ (K ++ [1]).length : Nat) - 0) = (x : Int) - y) := Lib.hid (by rw [valB_more, List.length_append]; exact hM.out)
          clear hown' hgrow hown hnx hK ST hM hD
          go_wp2_with fail
          go_roundw
          case rel => exact ⟨0, K ++ [1], by simp, by simp, by omega, by omega, by simp; omega, hD', hK', R.1, R.2⟩
          case measure => simp [intOf]; omega
        · skip
          have hM := Lib.hid (ST.out 0 0 (by omega))
          go_wp2_with (at_builtin; refine wpList_append_own _ rfl _ _ 43 rfl w.heap.size 3 i0 (.int .i64 0) 1 8 Try.underlying43 hi hz0 hz1 hz2 rfl (by decide) _ _ _ rfl (hown.alloc _) ⟨wr.heap.size, 0, none⟩ 1 1 [.int .i64 0] rfl rfl one_cell one_int ?c3 ?c4 ?c5 ?_)
          case c3 => unfold maxLen; omega
          case c4 => omega
          case c5 => have := hnx.size; simp; omega
          intro v' w1 hown' hgrow _
          have R := row_more hnx.size hown hnx hown' hgrow
          have hD' : Hid (∀ d ∈ K ++ [0], d = 0 ∨ d = 1) := Lib.hid (fun d hd => (List.mem_append.1 hd).elim (hD.out d) (fun g => by rw [List.mem_singleton.1 g]; decide))
          have hK' : Hid ((valB (K ++ [0]) : Int) + 2 ^ (K ++ [0]).length * (((x / 2 ^ (K ++ [0]).length : Nat) : Int) - (y / 2 ^ (K ++ [0]).length : Nat) - 0) = (x : Int) - y) := Lib.hid (by rw [valB_more, List.length_append]; exact hM.out)
          clear hown' hgrow hown hnx hK ST hM hD
          go_wp2_with fail
          go_roundw
          case rel => exact ⟨0, K ++ [0], by simp, by simp, by omega, by omega, by simp; omega, hD', hK', R.1, R.2⟩
          case measure => simp [intOf]; omega
    · have el : K.length = la := by omega
      have sx : x / 2 ^ K.length = 0 := by
        rcases Nat.eq_zero_or_pos (x / 2 ^ K.length) with e | e
        · exact e
        · exact absurd ((EA.out K.length).2 (by omega)) ga
      have sy : y / 2 ^ K.length = 0 := by
        rcases Nat.eq_zero_or_pos (y / 2 ^ K.length) with e | e
        · exact e
        · exact absurd ((EB.out K.length).2 (by omega)) (by omega)
      have e := minus_end sx sy HE.out hz0' hz1' (valB_lt K hD.out) hK.out
      have TR := Lib.hid (trim_any K hD.out _ wr (rowL_of_own hown) (by omega))
      rw [e] at TR
      clear e sx sy el hK hD hown
      go_wp2_with fail
      refine TR.out.mono ?_
      rintro e w1 ⟨v1, rfl, hb1, hnum⟩
      go_wp2_with fail
      go_ret
      exact ⟨_, rfl, below_thru hnx hb1, hnum⟩
end Go.Proofs.Ytmkminaipeodnaa
