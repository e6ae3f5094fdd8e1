/-
 The document's own answers, first part: the binary digits of a number from 0 on, as a row. Conditions: those written at each fact.
-/
import Derived.Test.YtcfidimnbamnkaaGreatKitV
import Derived.Test.YtcfidimnbamnkaaGreatKitW
import Derived.Maps.RangeWalk
import Derived.Test.YtcfidimnbamnkaaGreatProg
import Derived.Test.YtcfidimnbamnkaaGreatKit
import Derived.WalkKit
import Derived.Laws.AppendOwnNone
import Derived.Test.YtcfidimnbamnkaaGreatStruct
import Derived.Test.YtcfidimnbamnkaaGreatKitX
namespace Go.Proofs.YtcfidimnbamnkaaGreat
open Go.RowKit

def sizeL (u : Nat) : List Int := if h : u = 0 then [] else ((u : Int) % 2) :: sizeL (u / 2)
termination_by u
decreasing_by omega
theorem sizeL_zero : sizeL 0 = [] := by rw [sizeL]; rfl
theorem sizeL_pos {u : Nat} (h : u ≠ 0) : sizeL u = ((u : Int) % 2) :: sizeL (u / 2) := by rw [sizeL, dif_neg h]
theorem sizeL_length : ∀ (k u : Nat), u < 2 ^ k → (sizeL u).length ≤ k
 | 0, u, h => by
  have : u = 0 := by simpa using h
  subst this
  rw [sizeL_zero]
  exact Nat.le_refl _
 | k + 1, u, h => by
  by_cases g : u = 0
  ·subst g; rw [sizeL_zero]; simp
  ·rw [sizeL_pos g, List.length_cons]
   have := sizeL_length k (u / 2) (by rw [Nat.pow_succ] at h; omega)
   omega
theorem infoInt : (Tryz.prog.info? 3).map (fun i => (i.zero, i.size, i.bytes)) = some (some (.int .i64 0), 1, 8) := by kernel_rfl

def Made (w : World) (l : List Int) (e : Ending) (w' : World) : Prop :=
 ∃ v, e = .returned v ∧ Below w.heap.size w w' ∧ w'.ownsRow w.heap.size 3 1 v l.length (l.map (Value.int .i64))

theorem row_more {B : Nat} {K : List Int} {z : Int} {w wr w1 : World} {v v' : Value} {o : Obj} (hB : B ≤ wr.heap.size)
  (hown : wr.ownsRow B 3 1 v K.length (K.map (Value.int .i64))) (hnx : Below B w wr)
  (hown' : w1.ownsRow B 3 1 v' (K.length + 1) (K.map (Value.int .i64) ++ [.int .i64 z])) (hgrow : (wr.alloc o).grownBy w1 v.ownBlock) :
  w1.ownsRow B 3 1 v' (K ++ [z]).length ((K ++ [z]).map (Value.int .i64)) ∧ Below B w w1 :=
 ⟨by simpa using hown', (hnx.alloc (by omega) o).grown hgrow (by simp; omega) (fun j hj => by have := (hown.lt j hj).1; omega)⟩

set_option maxRecDepth 100000 in
set_option maxHeartbeats 1600000 in
theorem size_any (u : Nat) (hu : u < 18446744073709551616) (w : World) :
  Calls Tryz.prog 134 #[.int .u64 u] w (Made w (sizeL u)) := by
 have HL := Lib.hid (sizeL_length 64 u (by omega))
 obtain ⟨i0, hi, hz0, hz1, hz2⟩ := info_parts infoInt
 go_enter Tryz.func134, Tryz.ntmps134
 go_wp2_with fail
 go_loopw [3, 0] (fun v i wr => ∃ (x : Nat) (K : List Int), i = .int .u64 x ∧ x < 18446744073709551616 ∧ Hid (K ++ sizeL x = sizeL u) ∧ wr.ownsRow w.heap.size 3 1 v K.length (K.map (Value.int .i64)) ∧ Below w.heap.size w wr)
  (fun _ i _ => (intOf i).toNat)
 case atStart => exact ⟨u, [], rfl, hu, Lib.hid rfl, World.ownsRow_nil _ _ _ _, Below.refl _ _⟩
 case round =>
  obtain ⟨x, K, rfl, hx, hK, hown, hnx⟩ := hrel
  have hle : K.length ≤ 64 := by
   have := HL.out
   rw [← hK.out, List.length_append] at this
   omega
  by_cases g : x = 0
  ·subst g
   have e := hK.out
   rw [sizeL_zero, List.append_nil] at e
   have E := Lib.hid e
   clear e hK
   go_wp2_with fail
   go_ret
   rw [← E.out]
   exact ⟨_, rfl, hnx, hown⟩
  ·have g1 : (0 : Int) < (x : Int) := by omega
   go_wp2_with (at_builtin; refine wpList_append_own _ rfl _ _ 130 rfl w.heap.size 3 i0 (.int .i64 0) 1 8 Tryz.underlying130 hi hz0 hz1 hz2 rfl (by decide) _ _ _ rfl (hown.alloc _) ⟨wr.heap.size, 0, none⟩ 1 1 [.int .i64 ((x : Int) % 2)] rfl rfl ?c1 ?c2 ?c3 ?c4 ?c5 ?_)
   case c1 =>
    intro j u hj
    match j, hj with
    | 0, hj => simp at hj; subst hj; simp [Addr.add]
   case c2 => intro u hu; simp at hu; subst hu; rfl
   case c3 => unfold maxLen; omega
   case c4 => omega
   case c5 => have := hnx.size; simp; omega
   intro v' w1 hown' hgrow _
   have R := row_more hnx.size hown hnx hown' hgrow
   have hK' : Hid ((K ++ [(x : Int) % 2]) ++ sizeL (x / 2) = sizeL u) := Lib.hid (by rw [← hK.out, sizeL_pos g, List.append_assoc]; rfl)
   clear hown' hgrow hown hnx hK
   go_wp2_with fail
   go_roundw
   case rel => exact ⟨x / 2, _, by simp, by omega, hK', R.1, R.2⟩
   case measure => simp [intOf]; omega
end Go.Proofs.YtcfidimnbamnkaaGreat

/-
 The document's own answers, second part: two sizes together. Conditions: those written at each fact.
-/
namespace Go.Proofs.YtcfidimnbamnkaaGreat
open Go.RowKit

def bitI (x k : Nat) : Int := ((x / 2 ^ k % 2 : Nat) : Int)
theorem bit_range (x k : Nat) : 0 ≤ bitI x k ∧ bitI x k ≤ 1 := by unfold bitI; omega
theorem half_pow (x k : Nat) : x / 2 / 2 ^ k = x / 2 ^ (k + 1) := by rw [Nat.div_div_eq_div_mul, Nat.pow_succ, Nat.mul_comm]
theorem pow_half (x k : Nat) : x / 2 ^ (k + 1) = x / 2 ^ k / 2 := by rw [Nat.div_div_eq_div_mul, Nat.pow_succ]
theorem bit_lt : ∀ (k x : Nat), k < (sizeL x).length ↔ x / 2 ^ k ≠ 0
 | 0, x => by
  by_cases g : x = 0
  ·subst g; rw [sizeL_zero]; simp
  ·rw [sizeL_pos g]; simpa using g
 | k + 1, x => by
  by_cases g : x = 0
  ·subst g; rw [sizeL_zero]; simp
  ·rw [sizeL_pos g, List.length_cons, ← half_pow, ← bit_lt k (x / 2)]
   omega
theorem bit_at : ∀ (k x : Nat), k < (sizeL x).length → (sizeL x)[k]? = some (bitI x k)
 | 0, x, h => by
  have g : x ≠ 0 := by intro g; subst g; rw [sizeL_zero] at h; simp at h
  rw [sizeL_pos g]
  simp [bitI]
 | k + 1, x, h => by
  have g : x ≠ 0 := by intro g; subst g; rw [sizeL_zero] at h; simp at h
  rw [sizeL_pos g] at h ⊢
  rw [List.getElem?_cons_succ, bit_at k (x / 2) (by simpa using h)]
  unfold bitI
  rw [half_pow]
def Num (w : World) (v : Value) (x : Nat) : Prop :=
 ∃ A c, v = .slice A (sizeL x).length c ∧ ((sizeL x).length ≤ c ∧ (A = none → c = 0)) ∧ ∀ k, k < (sizeL x).length → ∃ b off, A = some ⟨b, off, none⟩ ∧ b < w.heap.size ∧ w.cell? ⟨b, off + k, none⟩ = some (.int .i64 (bitI x k))
theorem Num.below {w w' : World} {v : Value} {x : Nat} (h : Num w v x) (hb : Below w.heap.size w w') : Num w' v x := by
 obtain ⟨A, c, e, hc, hk⟩ := h
 refine ⟨A, c, e, hc, fun k hl => ?_⟩
 obtain ⟨b, off, e1, e2, e3⟩ := hk k hl
 exact ⟨b, off, e1, Nat.lt_of_lt_of_le e2 hb.size, (hb.cell (by exact e2)).trans e3⟩

theorem size_lt (x : Nat) : x < 2 ^ (sizeL x).length := by
 have h := bit_lt (sizeL x).length x
 have h0 : x / 2 ^ (sizeL x).length = 0 := by
  rcases Nat.eq_zero_or_pos (x / 2 ^ (sizeL x).length) with e | e
  ·exact e
  ·exact absurd (h.2 (by omega)) (Nat.lt_irrefl _)
 exact (Nat.div_eq_zero_iff.1 h0).resolve_left (by have := Nat.two_pow_pos (sizeL x).length; omega)
theorem size_mono {x y : Nat} (h : x ≤ y) : (sizeL x).length ≤ (sizeL y).length := sizeL_length _ x (Nat.lt_of_le_of_lt h (size_lt y))
theorem size_add (x y : Nat) : (sizeL (x + y)).length ≤ max (sizeL x).length (sizeL y).length + 1 := by
 refine sizeL_length _ _ ?_
 have h1 := size_lt x
 have h2 := size_lt y
 have h3 : 2 ^ (sizeL x).length ≤ 2 ^ max (sizeL x).length (sizeL y).length := Nat.pow_le_pow_right (by decide) (Nat.le_max_left ..)
 have h4 : 2 ^ (sizeL y).length ≤ 2 ^ max (sizeL x).length (sizeL y).length := Nat.pow_le_pow_right (by decide) (Nat.le_max_right ..)
 rw [Nat.pow_succ]
 omega
theorem size_mul (x y : Nat) : (sizeL (x * y)).length ≤ (sizeL x).length + (sizeL y).length := by
 refine sizeL_length _ _ ?_
 rw [Nat.pow_add]
 exact Nat.mul_lt_mul'' (size_lt x) (size_lt y)
theorem size_pow (n : Nat) : (sizeL (2 ^ n)).length ≤ n + 1 := sizeL_length _ _ (Nat.pow_lt_pow_right (by decide) (Nat.lt_succ_self n))
theorem ne_mid {a b c : Nat} (h : b ≠ 0) : a + b + c ≠ 0 := by omega
theorem ne_end {a b c : Nat} (h : c ≠ 0) : a + b + c ≠ 0 := by omega
theorem plus_step {x y k : Nat} {z n : Int} (h0 : 0 ≤ z) (hn : n = z + bitI x k + bitI y k) (hS : z.toNat + x / 2 ^ k + y / 2 ^ k ≠ 0) :
  sizeL (z.toNat + x / 2 ^ k + y / 2 ^ k) = (n % 2) :: sizeL ((n / 2).toNat + x / 2 ^ (k + 1) + y / 2 ^ (k + 1)) := by
 rw [sizeL_pos hS, pow_half, pow_half]
 unfold bitI at hn
 generalize x / 2 ^ k = X at *
 generalize y / 2 ^ k = Y at *
 have e1 : ((z.toNat + X + Y : Nat) : Int) % 2 = n % 2 := by omega
 have e2 : (z.toNat + X + Y) / 2 = (n / 2).toNat + X / 2 + Y / 2 := by omega
 rw [e1, e2]

set_option maxRecDepth 100000 in
set_option maxHeartbeats 1600000 in
theorem plusN_any (x y : Nat) (hx : (sizeL x).length ≤ 4000) (hy : (sizeL y).length ≤ 4000) (v v' : Value) (w : World) (h : Num w v x) (h' : Num w v' y) :
  Calls Tryz.prog 138 #[v, v'] w (Made w (sizeL (x + y))) := by
 obtain ⟨A, ca, rfl, hca, HA⟩ := h
 obtain ⟨A', cb, rfl, hcb, HB⟩ := h'
 have HL := Lib.hid (show (sizeL (x + y)).length ≤ 4001 from Nat.le_trans (size_add x y) (by omega))
 have LA := hx
 have LB := hy
 have EA := Lib.hid (fun k => bit_lt k x)
 have EB := Lib.hid (fun k => bit_lt k y)
 generalize (sizeL x).length = la at *
 generalize (sizeL y).length = lb at *
 replace HA := Lib.hid HA
 replace HB := Lib.hid HB
 clear hx hy
 obtain ⟨i0, hi, hz0, hz1, hz2⟩ := info_parts infoInt
 go_enter Tryz.func138, Tryz.ntmps138
 go_wp2_with fail
 go_loopw [5, 6, 7] (fun v c i wr => ∃ (k : Nat) (z : Int) (K : List Int), i = .int .i64 k ∧ c = .int .i64 z ∧ 0 ≤ z ∧ z ≤ 1 ∧ k = K.length ∧ Hid (K ++ sizeL (z.toNat + x / 2 ^ k + y / 2 ^ k) = sizeL (x + y)) ∧ wr.ownsRow w.heap.size 3 1 v K.length (K.map (Value.int .i64)) ∧ Below w.heap.size w wr)
  (fun _ _ i _ => 5000 - (intOf i).toNat)
 case atStart => exact ⟨0, 0, [], rfl, rfl, by omega, by omega, rfl, Lib.hid (by simp), World.ownsRow_nil _ _ _ _, Below.refl _ _⟩
 case round =>
  obtain ⟨k, z, K, rfl, rfl, hz0', hz1', hk, hK, hown, hnx⟩ := hrel
  subst hk
  have hle : K.length ≤ 4001 := by
   have := HL.out
   rw [← hK.out, List.length_append] at this
   omega
  by_cases ga : K.length < la
  ·by_cases gb : K.length < lb
   ·skip
    obtain ⟨b, off, rfl, hbw, hcell⟩ := HA.out _ ga
    have hc1 := (hnx.cell (p := ⟨b, off + K.length, none⟩) (by exact hbw)).trans hcell
    have r1 := bit_range x K.length
    obtain ⟨b', off', rfl, hbw', hcell'⟩ := HB.out _ gb
    have hc2 := (hnx.cell (p := ⟨b', off' + K.length, none⟩) (by exact hbw')).trans hcell'
    have r2 := bit_range y K.length
    have sx := (EA.out K.length).1 ga
    have sy := (EB.out K.length).1 gb
    have ST := Lib.hid (plus_step (x := x) (y := y) (k := K.length) (z := z) (n := z + bitI x K.length + bitI y K.length) hz0' (by rfl) (ne_mid sx))
    clear sx sy
    clear hcell
    clear hcell'
    generalize bitI x K.length = p at *
    generalize bitI y K.length = q at *
    go_wp2_with (at_builtin; refine wpList_append_own _ rfl _ _ 130 rfl w.heap.size 3 i0 (.int .i64 0) 1 8 Tryz.underlying130 hi hz0 hz1 hz2 rfl (by decide) _ _ _ rfl (hown.alloc _) ⟨wr.heap.size, 0, none⟩ 1 1 [.int .i64 ((z + p + q) % 2)] rfl rfl ?c1 ?c2 ?c3 ?c4 ?c5 ?_)
    case c1 =>
     intro j u hj
     match j, hj with
     | 0, hj => simp at hj; subst hj; simp [Addr.add]
    case c2 => intro u hu; simp at hu; subst hu; rfl
    case c3 => unfold maxLen; omega
    case c4 => omega
    case c5 => have := hnx.size; simp; omega
    intro v' w1 hown' hgrow _
    have R := row_more hnx.size hown hnx hown' hgrow
    have hK' : Hid ((K ++ [(z + p + q) % 2]) ++ sizeL (((z + p + q) / 2).toNat + x / 2 ^ (K.length + 1) + y / 2 ^ (K.length + 1)) = sizeL (x + y)) := Lib.hid (by rw [← hK.out, ST.out, List.append_assoc]; rfl)
    clear hown' hgrow hown hnx hK ST
    go_wp2_with fail
    go_roundw
    case rel => exact ⟨K.length + 1, (z + p + q) / 2, K ++ [(z + p + q) % 2], by simp, by simp, by omega, by omega, by simp, hK', R.1, R.2⟩
    case measure => simp [intOf]; omega
   ·skip
    obtain ⟨b, off, rfl, hbw, hcell⟩ := HA.out _ ga
    have hc1 := (hnx.cell (p := ⟨b, off + K.length, none⟩) (by exact hbw)).trans hcell
    have r1 := bit_range x K.length
    have sx := (EA.out K.length).1 ga
    have sy : y / 2 ^ K.length = 0 := by have := (EB.out K.length).2; omega
    have ST := Lib.hid (plus_step (x := x) (y := y) (k := K.length) (z := z) (n := z + bitI x K.length) hz0' (by unfold bitI; rw [sy]; simp) (ne_mid sx))
    clear sx sy
    clear hcell
    generalize bitI x K.length = p at *
    go_wp2_with (at_builtin; refine wpList_append_own _ rfl _ _ 130 rfl w.heap.size 3 i0 (.int .i64 0) 1 8 Tryz.underlying130 hi hz0 hz1 hz2 rfl (by decide) _ _ _ rfl (hown.alloc _) ⟨wr.heap.size, 0, none⟩ 1 1 [.int .i64 ((z + p) % 2)] rfl rfl ?c1 ?c2 ?c3 ?c4 ?c5 ?_)
    case c1 =>
     intro j u hj
     match j, hj with
     | 0, hj => simp at hj; subst hj; simp [Addr.add]
    case c2 => intro u hu; simp at hu; subst hu; rfl
    case c3 => unfold maxLen; omega
    case c4 => omega
    case c5 => have := hnx.size; simp; omega
    intro v' w1 hown' hgrow _
    have R := row_more hnx.size hown hnx hown' hgrow
    have hK' : Hid ((K ++ [(z + p) % 2]) ++ sizeL (((z + p) / 2).toNat + x / 2 ^ (K.length + 1) + y / 2 ^ (K.length + 1)) = sizeL (x + y)) := Lib.hid (by rw [← hK.out, ST.out, List.append_assoc]; rfl)
    clear hown' hgrow hown hnx hK ST
    go_wp2_with fail
    go_roundw
    case rel => exact ⟨K.length + 1, (z + p) / 2, K ++ [(z + p) % 2], by simp, by simp, by omega, by omega, by simp, hK', R.1, R.2⟩
    case measure => simp [intOf]; omega
  ·by_cases gb : K.length < lb
   ·skip
    obtain ⟨b', off', rfl, hbw', hcell'⟩ := HB.out _ gb
    have hc2 := (hnx.cell (p := ⟨b', off' + K.length, none⟩) (by exact hbw')).trans hcell'
    have r2 := bit_range y K.length
    have sx : x / 2 ^ K.length = 0 := by have := (EA.out K.length).2; omega
    have sy := (EB.out K.length).1 gb
    have ST := Lib.hid (plus_step (x := x) (y := y) (k := K.length) (z := z) (n := z + bitI y K.length) hz0' (by unfold bitI; rw [sx]; simp) (ne_end sy))
    clear sx sy
    clear hcell'
    generalize bitI y K.length = q at *
    go_wp2_with (at_builtin; refine wpList_append_own _ rfl _ _ 130 rfl w.heap.size 3 i0 (.int .i64 0) 1 8 Tryz.underlying130 hi hz0 hz1 hz2 rfl (by decide) _ _ _ rfl (hown.alloc _) ⟨wr.heap.size, 0, none⟩ 1 1 [.int .i64 ((z + q) % 2)] rfl rfl ?c1 ?c2 ?c3 ?c4 ?c5 ?_)
    case c1 =>
     intro j u hj
     match j, hj with
     | 0, hj => simp at hj; subst hj; simp [Addr.add]
    case c2 => intro u hu; simp at hu; subst hu; rfl
    case c3 => unfold maxLen; omega
    case c4 => omega
    case c5 => have := hnx.size; simp; omega
    intro v' w1 hown' hgrow _
    have R := row_more hnx.size hown hnx hown' hgrow
    have hK' : Hid ((K ++ [(z + q) % 2]) ++ sizeL (((z + q) / 2).toNat + x / 2 ^ (K.length + 1) + y / 2 ^ (K.length + 1)) = sizeL (x + y)) := Lib.hid (by rw [← hK.out, ST.out, List.append_assoc]; rfl)
    clear hown' hgrow hown hnx hK ST
    go_wp2_with fail
    go_roundw
    case rel => exact ⟨K.length + 1, (z + q) / 2, K ++ [(z + q) % 2], by simp, by simp, by omega, by omega, by simp, hK', R.1, R.2⟩
    case measure => simp [intOf]; omega
   ·by_cases gz : 0 < z
    ·skip
     have sx : x / 2 ^ K.length = 0 := by have := (EA.out K.length).2; omega
     have sy : y / 2 ^ K.length = 0 := by have := (EB.out K.length).2; omega
     have ST := Lib.hid (plus_step (x := x) (y := y) (k := K.length) (z := z) (n := z) hz0' (by unfold bitI; rw [sx, sy]; simp) (by omega))
     clear sx sy
     go_wp2_with (at_builtin; refine wpList_append_own _ rfl _ _ 130 rfl w.heap.size 3 i0 (.int .i64 0) 1 8 Tryz.underlying130 hi hz0 hz1 hz2 rfl (by decide) _ _ _ rfl (hown.alloc _) ⟨wr.heap.size, 0, none⟩ 1 1 [.int .i64 ((z) % 2)] rfl rfl ?c1 ?c2 ?c3 ?c4 ?c5 ?_)
     case c1 =>
      intro j u hj
      match j, hj with
      | 0, hj => simp at hj; subst hj; simp [Addr.add]
     case c2 => intro u hu; simp at hu; subst hu; rfl
     case c3 => unfold maxLen; omega
     case c4 => omega
     case c5 => have := hnx.size; simp; omega
     intro v' w1 hown' hgrow _
     have R := row_more hnx.size hown hnx hown' hgrow
     have hK' : Hid ((K ++ [(z) % 2]) ++ sizeL (((z) / 2).toNat + x / 2 ^ (K.length + 1) + y / 2 ^ (K.length + 1)) = sizeL (x + y)) := Lib.hid (by rw [← hK.out, ST.out, List.append_assoc]; rfl)
     clear hown' hgrow hown hnx hK ST
     go_wp2_with fail
     go_roundw
     case rel => exact ⟨K.length + 1, (z) / 2, K ++ [(z) % 2], by simp, by simp, by omega, by omega, by simp, hK', R.1, R.2⟩
     case measure => simp [intOf]; omega
    ·have sx : x / 2 ^ K.length = 0 := by have := (EA.out K.length).2; omega
     have sy : y / 2 ^ K.length = 0 := by have := (EB.out K.length).2; omega
     have e := hK.out
     have z0 : z = 0 := by omega
     rw [sx, sy, z0, show (0 : Int).toNat + 0 + 0 = 0 from rfl, sizeL_zero, List.append_nil] at e
     have E := Lib.hid e
     clear e hK sx sy z0
     go_wp2_with fail
     go_ret
     rw [← E.out]
     exact ⟨_, rfl, hnx, hown⟩
end Go.Proofs.YtcfidimnbamnkaaGreat

/-
 The document's own answers, third part: a power of 2, a word of a row, a row without noughts at its end. Conditions: those written at each fact.
-/
namespace Go.Proofs.YtcfidimnbamnkaaGreat
open Go.RowKit

theorem sizeL_pow (n : Nat) : sizeL (2 ^ n) = List.replicate n 0 ++ [1] := by
 induction n with
 | zero => rw [Nat.pow_zero, sizeL_pos (by decide), show 1 / 2 = 0 from rfl, sizeL_zero]; rfl
 | succ n ih =>
  have p : 0 < 2 ^ n := Nat.pow_pos (by decide)
  have e : 2 ^ (n + 1) = 2 * 2 ^ n := by rw [Nat.pow_succ, Nat.mul_comm]
  rw [e, sizeL_pos (by omega), show 2 * 2 ^ n / 2 = 2 ^ n from by omega, ih, List.replicate_succ, List.cons_append]
  congr 1
  omega

def Gave (w : World) (x : Nat) (e : Ending) (w' : World) : Prop := ∃ v, e = .returned v ∧ Below w.heap.size w w' ∧ Num w' v x
theorem num_of_own {w : World} {B : Nat} {v : Value} {x : Nat} (h : w.ownsRow B 3 1 v (sizeL x).length ((sizeL x).map (Value.int .i64))) : Num w v x := by
 have hc := fun (g : Nat) (hg : v.ownBlock = some g) => h.cells hg
 rcases h.2 with ⟨rfl, h0⟩ | ⟨g, cap, cur, rfl, _, hg, h1, _⟩
 ·exact ⟨none, 0, by rw [h0], ⟨by omega, fun _ => rfl⟩, fun k hk => by omega⟩
 ·refine ⟨some ⟨g, 0, none⟩, cap, rfl, ⟨h1, fun e => by cases e⟩, fun k hk => ⟨g, 0, rfl, (Array.getElem?_eq_some_iff.1 hg).1, ?_⟩⟩
  have e : (⟨g, 0, none⟩ : Addr).add k = ⟨g, 0 + k, none⟩ := by unfold Addr.add; split <;> simp_all
  rw [← e]
  exact hc g rfl k _ (by rw [List.getElem?_map, bit_at k x hk]; rfl)
theorem Made.gave {w w' : World} {x : Nat} {e : Ending} (h : Made w (sizeL x) e w') : Gave w x e w' := by
 obtain ⟨v, e1, e2, e3⟩ := h
 exact ⟨v, e1, e2, num_of_own e3⟩

set_option maxRecDepth 100000 in
set_option maxHeartbeats 1600000 in
theorem power_any (n : Nat) (hn : n ≤ 4000) (w : World) : Calls Tryz.prog 137 #[.int .i64 n] w (Made w (sizeL (2 ^ n))) := by
 rw [sizeL_pow]
 obtain ⟨i0, hi, hz0, hz1, hz2⟩ := info_parts infoInt
 go_enter Tryz.func137, Tryz.ntmps137
 go_wp2_with fail
 go_loopw [3, 4] (fun v i wr => ∃ (k : Nat), i = .int .i64 k ∧ k ≤ n ∧ wr.ownsRow w.heap.size 3 1 v (List.replicate k (0 : Int)).length ((List.replicate k (0 : Int)).map (Value.int .i64)) ∧ Below w.heap.size w wr)
  (fun _ i _ => n - (intOf i).toNat)
 case atStart => exact ⟨0, rfl, by omega, World.ownsRow_nil _ _ _ _, Below.refl _ _⟩
 case round =>
  obtain ⟨k, rfl, hk, hown, hnx⟩ := hrel
  have hle : (List.replicate k (0 : Int)).length ≤ 4000 := by simp; omega
  by_cases g : k < n
  ·have E : Hid (List.replicate k (0 : Int) ++ [0] = List.replicate (k + 1) 0) := Lib.hid (List.replicate_succ').symm
   generalize List.replicate k (0 : Int) = K at *
   go_wp2_with (at_builtin; refine wpList_append_own _ rfl _ _ 130 rfl w.heap.size 3 i0 (.int .i64 0) 1 8 Tryz.underlying130 hi hz0 hz1 hz2 rfl (by decide) _ _ _ rfl (hown.alloc _) ⟨wr.heap.size, 0, none⟩ 1 1 [.int .i64 0] rfl rfl ?c1 ?c2 ?c3 ?c4 ?c5 ?_)
   case c1 =>
    intro j u hj
    match j, hj with
    | 0, hj => simp at hj; subst hj; simp [Addr.add]
   case c2 => intro u hu; simp at hu; subst hu; rfl
   case c3 => unfold maxLen; omega
   case c4 => omega
   case c5 => have := hnx.size; simp; omega
   intro v' w1 hown' hgrow _
   have R := row_more hnx.size hown hnx hown' hgrow
   rw [E.out] at R
   clear hown' hgrow hown hnx
   go_wp2_with fail
   go_roundw
   case rel => exact ⟨k + 1, by simp, by omega, R.1, R.2⟩
   case measure => simp [intOf]; omega
  ·obtain rfl : k = n := by omega
   have hlk : ¬ k < k := by omega
   generalize List.replicate k (0 : Int) = K at *
   go_wp2_with (at_builtin; refine wpList_append_own _ rfl _ _ 130 rfl w.heap.size 3 i0 (.int .i64 0) 1 8 Tryz.underlying130 hi hz0 hz1 hz2 rfl (by decide) _ _ _ rfl (hown.alloc _) ⟨wr.heap.size, 0, none⟩ 1 1 [.int .i64 1] rfl rfl ?c1 ?c2 ?c3 ?c4 ?c5 ?_)
   case c1 =>
    intro j u hj
    match j, hj with
    | 0, hj => simp at hj; subst hj; simp [Addr.add]
   case c2 => intro u hu; simp at hu; subst hu; rfl
   case c3 => unfold maxLen; omega
   case c4 => omega
   case c5 => have := hnx.size; simp; omega
   intro v' w1 hown' hgrow _
   have R := row_more hnx.size hown hnx hown' hgrow
   clear hown' hgrow hown hnx
   go_wp2_with fail
   go_ret
   exact ⟨_, rfl, R.2, R.1⟩

theorem word_step (x m t : Nat) : (x / 2 ^ (m + 1) % 2 ^ t) * 2 + x / 2 ^ m % 2 = x / 2 ^ m % 2 ^ (t + 1) := by
 rw [pow_half, show 2 ^ (t + 1) = 2 * 2 ^ t from by rw [Nat.pow_succ, Nat.mul_comm], Nat.mod_mul]
 omega

set_option maxRecDepth 100000 in
set_option maxHeartbeats 1600000 in
theorem word_any (x f : Nat) (hf : f ≤ 64) (v : Value) (w : World) (h : Num w v x) (hx : (sizeL x).length ≤ 4000) :
  Calls Tryz.prog 141 #[v, .int .i64 f] w (Ret w (.int .u64 ((x / 2 ^ f % 18446744073709551616 : Nat) : Int))) := by
 obtain ⟨A, ca, rfl, hca, HA⟩ := h
 have LA := hx
 have EA := Lib.hid (fun k => bit_lt k x)
 generalize (sizeL x).length = la at *
 replace HA := Lib.hid HA
 clear hx
 have hend : Hid (x / 2 ^ f % 18446744073709551616 = x / 2 ^ (f + 0) % 2 ^ (64 - 0)) := Lib.hid rfl
 have hbeg : Hid (x / 2 ^ (f + 64) % 2 ^ (64 - 64) = 0) := Lib.hid (by rw [Nat.sub_self, Nat.pow_zero, Nat.mod_one])
 go_enter Tryz.func141, Tryz.ntmps141
 go_wp2_with fail
 go_loopw [5, 6] (fun n i wr => ∃ (s : Nat) (j : Int) (N : Nat), s ≤ 64 ∧ i = .int .i64 j ∧ j = (f : Int) + s - 1 ∧ n = .int .u64 N ∧ Hid (N = x / 2 ^ (f + s) % 2 ^ (64 - s)) ∧ wr = w)
  (fun _ i _ => (intOf i + 1).toNat)
 case atStart => exact ⟨64, _, 0, by omega, rfl, by omega, rfl, Lib.hid hbeg.out.symm, rfl⟩
 case round =>
  obtain ⟨s, j, N, hs, rfl, hj, rfl, hN, rfl⟩ := hrel
  cases s with
  | zero =>
   have g : ¬ (f : Int) ≤ j := by omega
   have e := hN.out.trans hend.out.symm
   have E := Lib.hid e
   clear e hN
   go_wp2_with fail
   go_ret
   exact ⟨by rw [E.out]; rfl, Below.refl _ _⟩
  | succ s =>
   obtain rfl : j = ((f + s : Nat) : Int) := by omega
   have g : (f : Int) ≤ ((f + s : Nat) : Int) := by omega
   have st := word_step x (f + s) (64 - (s + 1))
   rw [show 64 - (s + 1) + 1 = 64 - s from by omega, show f + s + 1 = f + (s + 1) from rfl, ← hN.out] at st
   have hlt : N < 2 ^ (64 - (s + 1)) := by rw [hN.out]; exact Nat.mod_lt _ (Nat.pow_pos (by decide))
   have hle : 2 ^ (64 - (s + 1)) ≤ 2 ^ 63 := Nat.pow_le_pow_right (by decide) (by omega)
   have hN2 : N < 9223372036854775808 := by omega
   clear hlt hle hj
   by_cases ga : f + s < la
   ·obtain ⟨b, off, rfl, hbw, hcell⟩ := HA.out _ ga
    have hbit := bit_range x (f + s)
    have hb2 : bitI x (f + s) = ((x / 2 ^ (f + s) % 2 : Nat) : Int) := rfl
    rw [hb2] at hcell
    clear hbit hb2
    have h2 : x / 2 ^ (f + s) % 2 < 2 := Nat.mod_lt _ (by decide)
    have ST := Lib.hid st
    clear st
    generalize x / 2 ^ (f + s) % 2 = q at *
    by_cases gq : q = 1
    ·subst gq
     go_wp2_with fail
     go_roundw
     case rel => exact ⟨s, _, N * 2 + 1, by omega, rfl, by simp, by simp <;> omega, ST, by trivial⟩
     case measure => simp [intOf]; omega
    ·obtain rfl : q = 0 := by omega
     go_wp2_with fail
     go_roundw
     case rel => exact ⟨s, _, N * 2, by omega, rfl, by simp, by simp <;> omega, ST, by trivial⟩
     case measure => simp [intOf]; omega
   ·have sx : x / 2 ^ (f + s) = 0 := by
     rcases Nat.eq_zero_or_pos (x / 2 ^ (f + s)) with e | e
     ·exact e
     ·exact absurd ((EA.out (f + s)).2 (by omega)) ga
    rw [sx] at st
    have ST := Lib.hid (show N * 2 = x / 2 ^ (f + s) % 2 ^ (64 - s) by rw [sx]; simpa using st)
    clear st sx
    go_wp2_with fail
    go_roundw
    case rel => exact ⟨s, _, N * 2, by omega, rfl, by simp, by simp <;> omega, ST, by trivial⟩
    case measure => simp [intOf]; omega
end Go.Proofs.YtcfidimnbamnkaaGreat

/-
 The document's own answers, fourth part: a row without noughts at its end; a size less one that is not greater. Conditions: those written at each fact.
-/
namespace Go.Proofs.YtcfidimnbamnkaaGreat
open Go.RowKit

def valB : List Int → Nat
 | [] => 0
 | d :: l => d.toNat + 2 * valB l
theorem sizeL_nil {x : Nat} (h : sizeL x = []) : x = 0 := by
 by_cases g : x = 0
 ·exact g
 ·rw [sizeL_pos g] at h; cases h
theorem trim_list : ∀ (l : List Int) (n : Nat), (∀ d ∈ l, d = 0 ∨ d = 1) → n ≤ l.length → (∀ j, n ≤ j → j < l.length → l.getD j 0 = 0) → (n = 0 ∨ l.getD (n - 1) 0 = 1) → l.take n = sizeL (valB l)
 | [], n, _, h, _, _ => by
  have : n = 0 := by simpa using h
  subst this
  rw [valB, sizeL_zero]; rfl
 | d :: t, 0, hd, _, hz, _ => by
  have e := trim_list t 0 (fun x hx => hd x (List.mem_cons_of_mem _ hx)) (Nat.zero_le _) (fun j _ hj => by simpa using hz (j + 1) (Nat.zero_le _) (by simpa using hj)) (Or.inl rfl)
  have e0 : d = 0 := by simpa using hz 0 (Nat.le_refl _) (by simp)
  have e1 := sizeL_nil e.symm
  rw [valB, e0, e1, show (0 : Int).toNat + 2 * 0 = 0 from rfl, sizeL_zero]; rfl
 | d :: t, m + 1, hd, hl, hz, ht => by
  have hl' : m ≤ t.length := by simpa using hl
  have ht' : m = 0 ∨ t.getD (m - 1) 0 = 1 := by
   cases m with
   | zero => exact Or.inl rfl
   | succ m => exact Or.inr (by simpa using ht)
  have e := trim_list t m (fun x hx => hd x (List.mem_cons_of_mem _ hx)) hl' (fun j h1 h2 => by simpa using hz (j + 1) (by omega) (by simpa using h2)) ht'
  have h01 := hd d (List.mem_cons_self ..)
  have hne : d.toNat + 2 * valB t ≠ 0 := by
   cases m with
   | zero =>
    have : d = 1 := by simpa using ht
    subst this
    simp
   | succ m =>
    have : valB t ≠ 0 := by
     intro g
     rw [g, sizeL_zero] at e
     have := congrArg List.length e
     rw [List.length_take, List.length_nil] at this
     omega
    omega
  rw [valB, sizeL_pos hne, List.take_succ_cons, e]
  have e1 : ((d.toNat + 2 * valB t : Nat) : Int) % 2 = d := by omega
  have e2 : (d.toNat + 2 * valB t) / 2 = valB t := by omega
  rw [e1, e2]

def RowL (w : World) (v : Value) (l : List Int) : Prop :=
 ∃ A c, v = .slice A l.length c ∧ (l.length ≤ c ∧ (A = none → c = 0)) ∧ ∀ k, k < l.length → ∃ b off, A = some ⟨b, off, none⟩ ∧ b < w.heap.size ∧ w.cell? ⟨b, off + k, none⟩ = some (.int .i64 (l.getD k 0))
theorem rowL_of_own {w : World} {B : Nat} {v : Value} {l : List Int} (h : w.ownsRow B 3 1 v l.length (l.map (Value.int .i64))) : RowL w v l := by
 have hc := fun (g : Nat) (hg : v.ownBlock = some g) => h.cells hg
 rcases h.2 with ⟨rfl, h0⟩ | ⟨g, cap, cur, rfl, _, hg, h1, _⟩
 ·exact ⟨none, 0, by rw [h0], ⟨by omega, fun _ => rfl⟩, fun k hk => by omega⟩
 ·refine ⟨some ⟨g, 0, none⟩, cap, rfl, ⟨h1, fun e => by cases e⟩, fun k hk => ⟨g, 0, rfl, (Array.getElem?_eq_some_iff.1 hg).1, ?_⟩⟩
  have e : (⟨g, 0, none⟩ : Addr).add k = ⟨g, 0 + k, none⟩ := by unfold Addr.add; split <;> simp_all
  rw [← e]
  exact hc g rfl k _ (by rw [List.getElem?_map, List.getD_eq_getElem?_getD, List.getElem?_eq_getElem hk]; rfl)
theorem trim_num {w : World} {l : List Int} {A : Option Addr} {n c : Nat} (hl : n ≤ l.length) (hc : l.length ≤ c ∧ (A = none → c = 0)) (hA : ∀ k, k < l.length → ∃ b off, A = some ⟨b, off, none⟩ ∧ b < w.heap.size ∧ w.cell? ⟨b, off + k, none⟩ = some (.int .i64 (l.getD k 0)))
  (e : l.take n = sizeL (valB l)) : Num w (.slice A n c) (valB l) := by
 have hn : (sizeL (valB l)).length = n := by rw [← e, List.length_take]; omega
 refine ⟨A, c, by rw [hn], ⟨by have := hc.1; omega, hc.2⟩, fun k hk => ?_⟩
 obtain ⟨b, off, e1, e2, e3⟩ := hA k (by omega)
 refine ⟨b, off, e1, e2, ?_⟩
 have eb := bit_at k (valB l) hk
 rw [← e, List.getElem?_take_of_lt (by omega)] at eb
 rw [e3, List.getD_eq_getElem?_getD, eb]
 rfl

set_option maxRecDepth 100000 in
set_option maxHeartbeats 1600000 in
theorem trim_any (l : List Int) (hd : ∀ d ∈ l, d = 0 ∨ d = 1) (v : Value) (w : World) (h : RowL w v l) (hl : l.length ≤ 9000) :
  Calls Tryz.prog 182 #[v] w (Gave w (valB l)) := by
 obtain ⟨A, ca, rfl, hca, HA⟩ := h
 have HN := Lib.hid (fun n (h1 : n ≤ l.length) (h2 : l.take n = sizeL (valB l)) => trim_num (w := w) (A := A) (c := ca) h1 hca HA h2)
 have HT := Lib.hid (fun n => trim_list l n hd)
 have HD : Hid (∀ k, k < l.length → l.getD k 0 = 0 ∨ l.getD k 0 = 1) := Lib.hid fun k hk => hd _ (by rw [List.getD_eq_getElem?_getD, List.getElem?_eq_getElem hk]; exact List.getElem_mem hk)
 replace HA := Lib.hid HA
 clear hd
 generalize l.length = la at *
 go_enter Tryz.func182, Tryz.ntmps182
 go_wp2_with fail
 go_loopw [3] (fun i wr => ∃ n : Nat, i = .int .i64 n ∧ n ≤ la ∧ Hid (∀ j, n ≤ j → j < la → l.getD j 0 = 0) ∧ wr = w) (fun i _ => (intOf i).toNat)
 case atStart => exact ⟨la, rfl, Nat.le_refl _, Lib.hid (fun j h1 h2 => by omega), rfl⟩
 case round =>
  obtain ⟨n, rfl, hn, hz, rfl⟩ := hrel
  cases n with
  | zero =>
   have R := Lib.hid (HN.out 0 hn (HT.out 0 hn hz.out (Or.inl rfl)))
   clear HN HT HD HA hz
   go_wp2_with fail
   go_ret
   exact ⟨_, rfl, Below.refl _ _, R.out⟩
  | succ m =>
   have hm : m < la := by omega
   have h01 := HD.out m hm
   have F := HN.out (m + 1) hn
   have G := HT.out (m + 1) hn hz.out
   have Z : l.getD m 0 = 0 → Hid (∀ j, m ≤ j → j < la → l.getD j 0 = 0) := fun e => Lib.hid fun j h1 h2 => by
    by_cases g : j = m
    ·rw [g]; exact e
    ·exact hz.out j (by omega) h2
   have FG := Lib.hid (fun e : l.getD m 0 = 1 => F (G (Or.inr (by simpa using e))))
   obtain ⟨b, off, rfl, hbw, hcell⟩ := HA.out m hm
   replace Z := Lib.hid Z
   clear HN HT HD F G hz
   generalize l.getD m 0 = d at *
   rcases h01 with rfl | rfl
   ·go_wp2_with fail
    go_roundw
    case rel => exact ⟨m, by simp, by omega, Z.out (by trivial), by trivial⟩
    case measure => simp [intOf]
   ·go_wp2_with fail
    go_ret
    exact ⟨_, rfl, Below.refl _ _, FG.out (by trivial)⟩

theorem valB_more (l : List Int) (d : Int) : valB (l ++ [d]) = valB l + 2 ^ l.length * d.toNat := by
 induction l with
 | nil => simp [valB]
 | cons e l ih =>
  rw [List.cons_append, valB, valB, ih, List.length_cons, Nat.pow_succ, Nat.mul_add, Nat.mul_right_comm, Nat.mul_comm _ 2]
  omega
theorem valB_lt : ∀ l : List Int, (∀ d ∈ l, d = 0 ∨ d = 1) → valB l < 2 ^ l.length
 | [], _ => by simp [valB]
 | d :: l, h => by
  have := valB_lt l (fun x hx => h x (List.mem_cons_of_mem _ hx))
  have := h d (List.mem_cons_self ..)
  rw [valB, List.length_cons, Nat.pow_succ]
  omega
theorem minus_step {x y k V d : Nat} {z z' : Int} {T : Int} (hT : (V : Int) + 2 ^ k * (((x / 2 ^ k : Nat) : Int) - (y / 2 ^ k : Nat) - z) = T) (hn : bitI x k - z - bitI y k = (d : Int) - 2 * z') :
  ((V + 2 ^ k * d : Nat) : Int) + 2 ^ (k + 1) * (((x / 2 ^ (k + 1) : Nat) : Int) - (y / 2 ^ (k + 1) : Nat) - z') = T := by
 rw [pow_half, pow_half]
 unfold bitI at hn
 generalize x / 2 ^ k = X at *
 generalize y / 2 ^ k = Y at *
 have e : ((X : Int) - Y - z) = d + 2 * (((X / 2 : Nat) : Int) - (Y / 2 : Nat) - z') := by omega
 rw [← hT, e, Int.pow_succ, Int.mul_add, Int.natCast_add, Int.natCast_mul, Int.natCast_pow, Int.mul_assoc, Int.add_assoc]
 rfl
theorem minus_end {x y k V : Nat} {z : Int} (hx : x / 2 ^ k = 0) (hy : y / 2 ^ k = 0) (hle : y ≤ x) (hz0 : 0 ≤ z) (hz1 : z ≤ 1) (hV : V < 2 ^ k)
  (hT : (V : Int) + 2 ^ k * (((x / 2 ^ k : Nat) : Int) - (y / 2 ^ k : Nat) - z) = (x : Int) - y) : V = x - y := by
 rw [hx, hy] at hT
 have hp : ((2 ^ k : Nat) : Int) = 2 ^ k := Int.natCast_pow 2 k
 rw [← hp] at hT
 generalize 2 ^ k = P at *
 by_cases g : z = 0
 ·subst g
  simp at hT
  omega
 ·obtain rfl : z = 1 := by omega
  simp at hT
  omega
end Go.Proofs.YtcfidimnbamnkaaGreat

/-
 The document's own answers, fifth part: a size less one that is not greater. Conditions: those written at each fact.
-/
namespace Go.Proofs.YtcfidimnbamnkaaGreat
open Go.RowKit

theorem one_cell {w : World} {t : TypeId} {x : Value} : ∀ (j : Nat) (u : Value), [x][j]? = some u → (w.alloc (.cells #[x] t)).cell? ((⟨w.heap.size, 0, none⟩ : Addr).add j) = some u := by
 intro j u hj
 match j, hj with
 | 0, hj => simp at hj; subst hj; simp [Addr.add]
theorem one_int {z : Int} : ∀ u ∈ [Value.int .i64 z], u.oneCell' = true := by
 intro u hu; simp at hu; subst hu; rfl
theorem below_thru {w W w' : World} (h : Below w.heap.size w W) (k : Below W.heap.size W w') : Below w.heap.size w w' := (Keeps.next (L := []) ⟨h, trivial⟩ k).1

set_option maxRecDepth 100000 in
set_option maxHeartbeats 3200000 in
theorem minus_any (x y : Nat) (hx : (sizeL x).length ≤ 4000) (hle : y ≤ x) (v v' : Value) (w : World) (h : Num w v x) (h' : Num w v' y) :
  Calls Tryz.prog 136 #[v, v'] w (Gave w (x - y)) := by
 obtain ⟨A, ca, rfl, hca, HA⟩ := h
 obtain ⟨A', cb, rfl, hcb, HB⟩ := h'
 have LA := hx
 have LB : (sizeL y).length ≤ 4000 := Nat.le_trans (size_mono hle) hx
 have EA := Lib.hid (fun k => bit_lt k x)
 have EB := Lib.hid (fun k => bit_lt k y)
 have HE := Lib.hid hle
 have hab : (sizeL y).length ≤ (sizeL x).length := by
  rcases Nat.lt_or_ge (sizeL x).length (sizeL y).length with g | g
  ·have g1 := (bit_lt (sizeL x).length y).1 g
   have g2 : x / 2 ^ (sizeL x).length = 0 := by
    rcases Nat.eq_zero_or_pos (x / 2 ^ (sizeL x).length) with e | e
    ·exact e
    ·exact absurd ((bit_lt (sizeL x).length x).2 (by omega)) (Nat.lt_irrefl _)
   exact absurd (Nat.le_zero.1 (g2 ▸ Nat.div_le_div_right hle)) g1
  ·exact g
 generalize (sizeL x).length = la at *
 generalize (sizeL y).length = lb at *
 replace HA := Lib.hid HA
 replace HB := Lib.hid HB
 clear hx hle
 obtain ⟨i0, hi, hz0, hz1, hz2⟩ := info_parts infoInt
 go_enter Tryz.func136, Tryz.ntmps136
 go_wp2_with fail
 go_loopw [5, 6, 7] (fun v c i wr => ∃ (z : Int) (K : List Int), i = .int .i64 K.length ∧ c = .int .i64 z ∧ 0 ≤ z ∧ z ≤ 1 ∧ K.length ≤ la ∧ Hid (∀ d ∈ K, d = 0 ∨ d = 1) ∧ Hid ((valB K : Int) + 2 ^ K.length * (((x / 2 ^ K.length : Nat) : Int) - (y / 2 ^ K.length : Nat) - z) = (x : Int) - y) ∧ wr.ownsRow w.heap.size 3 1 v K.length (K.map (Value.int .i64)) ∧ Below w.heap.size w wr)
  (fun _ _ i _ => la - (intOf i).toNat)
 case atStart => exact ⟨0, [], rfl, rfl, by omega, by omega, by simp, Lib.hid (by simp), Lib.hid (by simp [valB]), World.ownsRow_nil _ _ _ _, Below.refl _ _⟩
 case round =>
  obtain ⟨z, K, rfl, rfl, hz0', hz1', hk, hD, hK, hown, hnx⟩ := hrel
  by_cases ga : K.length < la
  ·obtain ⟨b, off, rfl, hbw, hcell⟩ := HA.out _ ga
   have hc1 := (hnx.cell (p := ⟨b, off + K.length, none⟩) (by exact hbw)).trans hcell
   have r1 := bit_range x K.length
   clear hcell
   have pz : z = 0 ∨ z = 1 := by omega
   have pp : bitI x K.length = 0 ∨ bitI x K.length = 1 := by omega
   clear r1 hz0' hz1'
   by_cases gb : K.length < lb
   ·obtain ⟨b', off', rfl, hbw', hcell'⟩ := HB.out _ gb
    have hc2 := (hnx.cell (p := ⟨b', off' + K.length, none⟩) (by exact hbw')).trans hcell'
    have r2 := bit_range y K.length
    have pq : bitI y K.length = 0 ∨ bitI y K.length = 1 := by omega
    clear hcell' r2
    have ST : Hid (∀ (d : Nat) (z' : Int), bitI x K.length - z - bitI y K.length = (d : Int) - 2 * z' → _) := Lib.hid (fun d z' hn => minus_step (x := x) (y := y) (k := K.length) (V := valB K) (d := d) (z := z) (z' := z') hK.out hn)
    generalize bitI x K.length = p at *
    generalize bitI y K.length = q at *
    rcases pp with rfl | rfl <;> rcases pz with rfl | rfl <;> rcases pq with rfl | rfl
    ·skip
     have hM := Lib.hid (ST.out 0 0 (by omega))
     go_wp2_with (at_builtin; refine wpList_append_own _ rfl _ _ 130 rfl w.heap.size 3 i0 (.int .i64 0) 1 8 Tryz.underlying130 hi hz0 hz1 hz2 rfl (by decide) _ _ _ rfl (hown.alloc _) ⟨wr.heap.size, 0, none⟩ 1 1 [.int .i64 0] rfl rfl one_cell one_int ?c3 ?c4 ?c5 ?_)
     case c3 => unfold maxLen; omega
     case c4 => omega
     case c5 => have := hnx.size; simp; omega
     intro v' w1 hown' hgrow _
     have R := row_more hnx.size hown hnx hown' hgrow
     have hD' : Hid (∀ d ∈ K ++ [0], d = 0 ∨ d = 1) := Lib.hid (fun d hd => (List.mem_append.1 hd).elim (hD.out d) (fun g => by rw [List.mem_singleton.1 g]; decide))
     have hK' : Hid ((valB (K ++ [0]) : Int) + 2 ^ (K ++ [0]).length * (((x / 2 ^ (K ++ [0]).length : Nat) : Int) - (y / 2 ^ (K ++ [0]).length : Nat) - 0) = (x : Int) - y) := Lib.hid (by rw [valB_more, List.length_append]; exact hM.out)
     clear hown' hgrow hown hnx hK ST hM hD
     go_wp2_with fail
     go_roundw
     case rel => exact ⟨0, K ++ [0], by simp, by simp, by omega, by omega, by simp; omega, hD', hK', R.1, R.2⟩
     case measure => simp [intOf]; omega
    ·skip
     have hM := Lib.hid (ST.out 1 1 (by omega))
     go_wp2_with (at_builtin; refine wpList_append_own _ rfl _ _ 130 rfl w.heap.size 3 i0 (.int .i64 0) 1 8 Tryz.underlying130 hi hz0 hz1 hz2 rfl (by decide) _ _ _ rfl (hown.alloc _) ⟨wr.heap.size, 0, none⟩ 1 1 [.int .i64 1] rfl rfl one_cell one_int ?c3 ?c4 ?c5 ?_)
     case c3 => unfold maxLen; omega
     case c4 => omega
     case c5 => have := hnx.size; simp; omega
     intro v' w1 hown' hgrow _
     have R := row_more hnx.size hown hnx hown' hgrow
     have hD' : Hid (∀ d ∈ K ++ [1], d = 0 ∨ d = 1) := Lib.hid (fun d hd => (List.mem_append.1 hd).elim (hD.out d) (fun g => by rw [List.mem_singleton.1 g]; decide))
     have hK' : Hid ((valB (K ++ [1]) : Int) + 2 ^ (K ++ [1]).length * (((x / 2 ^ (K ++ [1]).length : Nat) : Int) - (y / 2 ^ (K ++ [1]).length : Nat) - 1) = (x : Int) - y) := Lib.hid (by rw [valB_more, List.length_append]; exact hM.out)
     clear hown' hgrow hown hnx hK ST hM hD
     go_wp2_with fail
     go_roundw
     case rel => exact ⟨1, K ++ [1], by simp, by simp, by omega, by omega, by simp; omega, hD', hK', R.1, R.2⟩
     case measure => simp [intOf]; omega
    ·skip
     have hM := Lib.hid (ST.out 1 1 (by omega))
     go_wp2_with (at_builtin; refine wpList_append_own _ rfl _ _ 130 rfl w.heap.size 3 i0 (.int .i64 0) 1 8 Tryz.underlying130 hi hz0 hz1 hz2 rfl (by decide) _ _ _ rfl (hown.alloc _) ⟨wr.heap.size, 0, none⟩ 1 1 [.int .i64 1] rfl rfl one_cell one_int ?c3 ?c4 ?c5 ?_)
     case c3 => unfold maxLen; omega
     case c4 => omega
     case c5 => have := hnx.size; simp; omega
     intro v' w1 hown' hgrow _
     have R := row_more hnx.size hown hnx hown' hgrow
     have hD' : Hid (∀ d ∈ K ++ [1], d = 0 ∨ d = 1) := Lib.hid (fun d hd => (List.mem_append.1 hd).elim (hD.out d) (fun g => by rw [List.mem_singleton.1 g]; decide))
     have hK' : Hid ((valB (K ++ [1]) : Int) + 2 ^ (K ++ [1]).length * (((x / 2 ^ (K ++ [1]).length : Nat) : Int) - (y / 2 ^ (K ++ [1]).length : Nat) - 1) = (x : Int) - y) := Lib.hid (by rw [valB_more, List.length_append]; exact hM.out)
     clear hown' hgrow hown hnx hK ST hM hD
     go_wp2_with fail
     go_roundw
     case rel => exact ⟨1, K ++ [1], by simp, by simp, by omega, by omega, by simp; omega, hD', hK', R.1, R.2⟩
     case measure => simp [intOf]; omega
    ·skip
     have hM := Lib.hid (ST.out 0 1 (by omega))
     go_wp2_with (at_builtin; refine wpList_append_own _ rfl _ _ 130 rfl w.heap.size 3 i0 (.int .i64 0) 1 8 Tryz.underlying130 hi hz0 hz1 hz2 rfl (by decide) _ _ _ rfl (hown.alloc _) ⟨wr.heap.size, 0, none⟩ 1 1 [.int .i64 0] rfl rfl one_cell one_int ?c3 ?c4 ?c5 ?_)
     case c3 => unfold maxLen; omega
     case c4 => omega
     case c5 => have := hnx.size; simp; omega
     intro v' w1 hown' hgrow _
     have R := row_more hnx.size hown hnx hown' hgrow
     have hD' : Hid (∀ d ∈ K ++ [0], d = 0 ∨ d = 1) := Lib.hid (fun d hd => (List.mem_append.1 hd).elim (hD.out d) (fun g => by rw [List.mem_singleton.1 g]; decide))
     have hK' : Hid ((valB (K ++ [0]) : Int) + 2 ^ (K ++ [0]).length * (((x / 2 ^ (K ++ [0]).length : Nat) : Int) - (y / 2 ^ (K ++ [0]).length : Nat) - 1) = (x : Int) - y) := Lib.hid (by rw [valB_more, List.length_append]; exact hM.out)
     clear hown' hgrow hown hnx hK ST hM hD
     go_wp2_with fail
     go_roundw
     case rel => exact ⟨1, K ++ [0], by simp, by simp, by omega, by omega, by simp; omega, hD', hK', R.1, R.2⟩
     case measure => simp [intOf]; omega
    ·skip
     have hM := Lib.hid (ST.out 1 0 (by omega))
     go_wp2_with (at_builtin; refine wpList_append_own _ rfl _ _ 130 rfl w.heap.size 3 i0 (.int .i64 0) 1 8 Tryz.underlying130 hi hz0 hz1 hz2 rfl (by decide) _ _ _ rfl (hown.alloc _) ⟨wr.heap.size, 0, none⟩ 1 1 [.int .i64 1] rfl rfl one_cell one_int ?c3 ?c4 ?c5 ?_)
     case c3 => unfold maxLen; omega
     case c4 => omega
     case c5 => have := hnx.size; simp; omega
     intro v' w1 hown' hgrow _
     have R := row_more hnx.size hown hnx hown' hgrow
     have hD' : Hid (∀ d ∈ K ++ [1], d = 0 ∨ d = 1) := Lib.hid (fun d hd => (List.mem_append.1 hd).elim (hD.out d) (fun g => by rw [List.mem_singleton.1 g]; decide))
     have hK' : Hid ((valB (K ++ [1]) : Int) + 2 ^ (K ++ [1]).length * (((x / 2 ^ (K ++ [1]).length : Nat) : Int) - (y / 2 ^ (K ++ [1]).length : Nat) - 0) = (x : Int) - y) := Lib.hid (by rw [valB_more, List.length_append]; exact hM.out)
     clear hown' hgrow hown hnx hK ST hM hD
     go_wp2_with fail
     go_roundw
     case rel => exact ⟨0, K ++ [1], by simp, by simp, by omega, by omega, by simp; omega, hD', hK', R.1, R.2⟩
     case measure => simp [intOf]; omega
    ·skip
     have hM := Lib.hid (ST.out 0 0 (by omega))
     go_wp2_with (at_builtin; refine wpList_append_own _ rfl _ _ 130 rfl w.heap.size 3 i0 (.int .i64 0) 1 8 Tryz.underlying130 hi hz0 hz1 hz2 rfl (by decide) _ _ _ rfl (hown.alloc _) ⟨wr.heap.size, 0, none⟩ 1 1 [.int .i64 0] rfl rfl one_cell one_int ?c3 ?c4 ?c5 ?_)
     case c3 => unfold maxLen; omega
     case c4 => omega
     case c5 => have := hnx.size; simp; omega
     intro v' w1 hown' hgrow _
     have R := row_more hnx.size hown hnx hown' hgrow
     have hD' : Hid (∀ d ∈ K ++ [0], d = 0 ∨ d = 1) := Lib.hid (fun d hd => (List.mem_append.1 hd).elim (hD.out d) (fun g => by rw [List.mem_singleton.1 g]; decide))
     have hK' : Hid ((valB (K ++ [0]) : Int) + 2 ^ (K ++ [0]).length * (((x / 2 ^ (K ++ [0]).length : Nat) : Int) - (y / 2 ^ (K ++ [0]).length : Nat) - 0) = (x : Int) - y) := Lib.hid (by rw [valB_more, List.length_append]; exact hM.out)
     clear hown' hgrow hown hnx hK ST hM hD
     go_wp2_with fail
     go_roundw
     case rel => exact ⟨0, K ++ [0], by simp, by simp, by omega, by omega, by simp; omega, hD', hK', R.1, R.2⟩
     case measure => simp [intOf]; omega
    ·skip
     have hM := Lib.hid (ST.out 0 0 (by omega))
     go_wp2_with (at_builtin; refine wpList_append_own _ rfl _ _ 130 rfl w.heap.size 3 i0 (.int .i64 0) 1 8 Tryz.underlying130 hi hz0 hz1 hz2 rfl (by decide) _ _ _ rfl (hown.alloc _) ⟨wr.heap.size, 0, none⟩ 1 1 [.int .i64 0] rfl rfl one_cell one_int ?c3 ?c4 ?c5 ?_)
     case c3 => unfold maxLen; omega
     case c4 => omega
     case c5 => have := hnx.size; simp; omega
     intro v' w1 hown' hgrow _
     have R := row_more hnx.size hown hnx hown' hgrow
     have hD' : Hid (∀ d ∈ K ++ [0], d = 0 ∨ d = 1) := Lib.hid (fun d hd => (List.mem_append.1 hd).elim (hD.out d) (fun g => by rw [List.mem_singleton.1 g]; decide))
     have hK' : Hid ((valB (K ++ [0]) : Int) + 2 ^ (K ++ [0]).length * (((x / 2 ^ (K ++ [0]).length : Nat) : Int) - (y / 2 ^ (K ++ [0]).length : Nat) - 0) = (x : Int) - y) := Lib.hid (by rw [valB_more, List.length_append]; exact hM.out)
     clear hown' hgrow hown hnx hK ST hM hD
     go_wp2_with fail
     go_roundw
     case rel => exact ⟨0, K ++ [0], by simp, by simp, by omega, by omega, by simp; omega, hD', hK', R.1, R.2⟩
     case measure => simp [intOf]; omega
    ·skip
     have hM := Lib.hid (ST.out 1 1 (by omega))
     go_wp2_with (at_builtin; refine wpList_append_own _ rfl _ _ 130 rfl w.heap.size 3 i0 (.int .i64 0) 1 8 Tryz.underlying130 hi hz0 hz1 hz2 rfl (by decide) _ _ _ rfl (hown.alloc _) ⟨wr.heap.size, 0, none⟩ 1 1 [.int .i64 1] rfl rfl one_cell one_int ?c3 ?c4 ?c5 ?_)
     case c3 => unfold maxLen; omega
     case c4 => omega
     case c5 => have := hnx.size; simp; omega
     intro v' w1 hown' hgrow _
     have R := row_more hnx.size hown hnx hown' hgrow
     have hD' : Hid (∀ d ∈ K ++ [1], d = 0 ∨ d = 1) := Lib.hid (fun d hd => (List.mem_append.1 hd).elim (hD.out d) (fun g => by rw [List.mem_singleton.1 g]; decide))
     have hK' : Hid ((valB (K ++ [1]) : Int) + 2 ^ (K ++ [1]).length * (((x / 2 ^ (K ++ [1]).length : Nat) : Int) - (y / 2 ^ (K ++ [1]).length : Nat) - 1) = (x : Int) - y) := Lib.hid (by rw [valB_more, List.length_append]; exact hM.out)
     clear hown' hgrow hown hnx hK ST hM hD
     go_wp2_with fail
     go_roundw
     case rel => exact ⟨1, K ++ [1], by simp, by simp, by omega, by omega, by simp; omega, hD', hK', R.1, R.2⟩
     case measure => simp [intOf]; omega
   ·have sy : bitI y K.length = 0 := by
     have e : y / 2 ^ K.length = 0 := by
      rcases Nat.eq_zero_or_pos (y / 2 ^ K.length) with e | e
      ·exact e
      ·exact absurd ((EB.out K.length).2 (by omega)) gb
     unfold bitI
     rw [e]
     rfl
    have ST : Hid (∀ (d : Nat) (z' : Int), bitI x K.length - z = (d : Int) - 2 * z' → _) := Lib.hid (fun d z' hn => minus_step (x := x) (y := y) (k := K.length) (V := valB K) (d := d) (z := z) (z' := z') hK.out (by rw [sy]; omega))
    clear sy
    generalize bitI x K.length = p at *
    rcases pp with rfl | rfl <;> rcases pz with rfl | rfl
    ·skip
     have hM := Lib.hid (ST.out 0 0 (by omega))
     go_wp2_with (at_builtin; refine wpList_append_own _ rfl _ _ 130 rfl w.heap.size 3 i0 (.int .i64 0) 1 8 Tryz.underlying130 hi hz0 hz1 hz2 rfl (by decide) _ _ _ rfl (hown.alloc _) ⟨wr.heap.size, 0, none⟩ 1 1 [.int .i64 0] rfl rfl one_cell one_int ?c3 ?c4 ?c5 ?_)
     case c3 => unfold maxLen; omega
     case c4 => omega
     case c5 => have := hnx.size; simp; omega
     intro v' w1 hown' hgrow _
     have R := row_more hnx.size hown hnx hown' hgrow
     have hD' : Hid (∀ d ∈ K ++ [0], d = 0 ∨ d = 1) := Lib.hid (fun d hd => (List.mem_append.1 hd).elim (hD.out d) (fun g => by rw [List.mem_singleton.1 g]; decide))
     have hK' : Hid ((valB (K ++ [0]) : Int) + 2 ^ (K ++ [0]).length * (((x / 2 ^ (K ++ [0]).length : Nat) : Int) - (y / 2 ^ (K ++ [0]).length : Nat) - 0) = (x : Int) - y) := Lib.hid (by rw [valB_more, List.length_append]; exact hM.out)
     clear hown' hgrow hown hnx hK ST hM hD
     go_wp2_with fail
     go_roundw
     case rel => exact ⟨0, K ++ [0], by simp, by simp, by omega, by omega, by simp; omega, hD', hK', R.1, R.2⟩
     case measure => simp [intOf]; omega
    ·skip
     have hM := Lib.hid (ST.out 1 1 (by omega))
     go_wp2_with (at_builtin; refine wpList_append_own _ rfl _ _ 130 rfl w.heap.size 3 i0 (.int .i64 0) 1 8 Tryz.underlying130 hi hz0 hz1 hz2 rfl (by decide) _ _ _ rfl (hown.alloc _) ⟨wr.heap.size, 0, none⟩ 1 1 [.int .i64 1] rfl rfl one_cell one_int ?c3 ?c4 ?c5 ?_)
     case c3 => unfold maxLen; omega
     case c4 => omega
     case c5 => have := hnx.size; simp; omega
     intro v' w1 hown' hgrow _
     have R := row_more hnx.size hown hnx hown' hgrow
     have hD' : Hid (∀ d ∈ K ++ [1], d = 0 ∨ d = 1) := Lib.hid (fun d hd => (List.mem_append.1 hd).elim (hD.out d) (fun g => by rw [List.mem_singleton.1 g]; decide))
     have hK' : Hid ((valB (K ++ [1]) : Int) + 2 ^ (K ++ [1]).length * (((x / 2 ^ (K ++ [1]).length : Nat) : Int) - (y / 2 ^ (K ++ [1]).length : Nat) - 1) = (x : Int) - y) := Lib.hid (by rw [valB_more, List.length_append]; exact hM.out)
     clear hown' hgrow hown hnx hK ST hM hD
     go_wp2_with fail
     go_roundw
     case rel => exact ⟨1, K ++ [1], by simp, by simp, by omega, by omega, by simp; omega, hD', hK', R.1, R.2⟩
     case measure => simp [intOf]; omega
    ·skip
     have hM := Lib.hid (ST.out 1 0 (by omega))
     go_wp2_with (at_builtin; refine wpList_append_own _ rfl _ _ 130 rfl w.heap.size 3 i0 (.int .i64 0) 1 8 Tryz.underlying130 hi hz0 hz1 hz2 rfl (by decide) _ _ _ rfl (hown.alloc _) ⟨wr.heap.size, 0, none⟩ 1 1 [.int .i64 1] rfl rfl one_cell one_int ?c3 ?c4 ?c5 ?_)
     case c3 => unfold maxLen; omega
     case c4 => omega
     case c5 => have := hnx.size; simp; omega
     intro v' w1 hown' hgrow _
     have R := row_more hnx.size hown hnx hown' hgrow
     have hD' : Hid (∀ d ∈ K ++ [1], d = 0 ∨ d = 1) := Lib.hid (fun d hd => (List.mem_append.1 hd).elim (hD.out d) (fun g => by rw [List.mem_singleton.1 g]; decide))
     have hK' : Hid ((valB (K ++ [1]) : Int) + 2 ^ (K ++ [1]).length * (((x / 2 ^ (K ++ [1]).length : Nat) : Int) - (y / 2 ^ (K ++ [1]).length : Nat) - 0) = (x : Int) - y) := Lib.hid (by rw [valB_more, List.length_append]; exact hM.out)
     clear hown' hgrow hown hnx hK ST hM hD
     go_wp2_with fail
     go_roundw
     case rel => exact ⟨0, K ++ [1], by simp, by simp, by omega, by omega, by simp; omega, hD', hK', R.1, R.2⟩
     case measure => simp [intOf]; omega
    ·skip
     have hM := Lib.hid (ST.out 0 0 (by omega))
     go_wp2_with (at_builtin; refine wpList_append_own _ rfl _ _ 130 rfl w.heap.size 3 i0 (.int .i64 0) 1 8 Tryz.underlying130 hi hz0 hz1 hz2 rfl (by decide) _ _ _ rfl (hown.alloc _) ⟨wr.heap.size, 0, none⟩ 1 1 [.int .i64 0] rfl rfl one_cell one_int ?c3 ?c4 ?c5 ?_)
     case c3 => unfold maxLen; omega
     case c4 => omega
     case c5 => have := hnx.size; simp; omega
     intro v' w1 hown' hgrow _
     have R := row_more hnx.size hown hnx hown' hgrow
     have hD' : Hid (∀ d ∈ K ++ [0], d = 0 ∨ d = 1) := Lib.hid (fun d hd => (List.mem_append.1 hd).elim (hD.out d) (fun g => by rw [List.mem_singleton.1 g]; decide))
     have hK' : Hid ((valB (K ++ [0]) : Int) + 2 ^ (K ++ [0]).length * (((x / 2 ^ (K ++ [0]).length : Nat) : Int) - (y / 2 ^ (K ++ [0]).length : Nat) - 0) = (x : Int) - y) := Lib.hid (by rw [valB_more, List.length_append]; exact hM.out)
     clear hown' hgrow hown hnx hK ST hM hD
     go_wp2_with fail
     go_roundw
     case rel => exact ⟨0, K ++ [0], by simp, by simp, by omega, by omega, by simp; omega, hD', hK', R.1, R.2⟩
     case measure => simp [intOf]; omega
  ·have el : K.length = la := by omega
   have sx : x / 2 ^ K.length = 0 := by
    rcases Nat.eq_zero_or_pos (x / 2 ^ K.length) with e | e
    ·exact e
    ·exact absurd ((EA.out K.length).2 (by omega)) ga
   have sy : y / 2 ^ K.length = 0 := by
    rcases Nat.eq_zero_or_pos (y / 2 ^ K.length) with e | e
    ·exact e
    ·exact absurd ((EB.out K.length).2 (by omega)) (by omega)
   have e := minus_end sx sy HE.out hz0' hz1' (valB_lt K hD.out) hK.out
   have TR := Lib.hid (trim_any K hD.out _ wr (rowL_of_own hown) (by omega))
   rw [e] at TR
   clear e sx sy el hK hD hown
   go_wp2_with fail
   refine TR.out.mono ?_
   rintro e w1 ⟨v1, rfl, hb1, hnum⟩
   go_wp2_with fail
   go_ret
   exact ⟨_, rfl, below_thru hnx hb1, hnum⟩
end Go.Proofs.YtcfidimnbamnkaaGreat

/-
 The document's own answers, sixth part: is one size less than another one? Conditions: those written at each fact.
-/
namespace Go.Proofs.YtcfidimnbamnkaaGreat
open Go.RowKit

theorem len_lt {x y : Nat} (h : (sizeL x).length < (sizeL y).length) : x < y := by
 have g1 := (bit_lt (sizeL x).length y).1 h
 have g2 : x / 2 ^ (sizeL x).length = 0 := by
  rcases Nat.eq_zero_or_pos (x / 2 ^ (sizeL x).length) with e | e
  ·exact e
  ·exact absurd ((bit_lt (sizeL x).length x).2 (by omega)) (Nat.lt_irrefl _)
 rcases Nat.lt_or_ge x y with g | g
 ·exact g
 ·exact absurd (Nat.le_zero.1 (g2 ▸ Nat.div_le_div_right g)) g1
theorem top_zero (x : Nat) : x / 2 ^ (sizeL x).length = 0 := by
 rcases Nat.eq_zero_or_pos (x / 2 ^ (sizeL x).length) with e | e
 ·exact e
 ·exact absurd ((bit_lt (sizeL x).length x).2 (by omega)) (Nat.lt_irrefl _)
theorem less_step {x y s : Nat} (h : x / 2 ^ (s + 1) = y / 2 ^ (s + 1)) (e : bitI x s = bitI y s) : x / 2 ^ s = y / 2 ^ s := by
 rw [pow_half, pow_half] at h
 unfold bitI at e
 omega
theorem less_end {x y s : Nat} (h : x / 2 ^ (s + 1) = y / 2 ^ (s + 1)) (e : bitI x s < bitI y s) : x < y := by
 rw [pow_half, pow_half] at h
 unfold bitI at e
 rcases Nat.lt_or_ge x y with g | g
 ·exact g
 ·have := Nat.div_le_div_right (c := 2 ^ s) g
  omega

set_option maxRecDepth 100000 in
set_option maxHeartbeats 3200000 in
theorem less_any (x y : Nat) (hx : (sizeL x).length ≤ 4000) (hy : (sizeL y).length ≤ 4000) (v v' : Value) (w : World) (h : Num w v x) (h' : Num w v' y) :
  Calls Tryz.prog 139 #[v, v'] w (Ret w (.bool (decide (x < y)))) := by
 obtain ⟨A, ca, rfl, hca, HA⟩ := h
 obtain ⟨A', cb, rfl, hcb, HB⟩ := h'
 have LA := hx
 have LB := hy
 have e1 : (sizeL x).length < (sizeL y).length → x < y := len_lt
 have e2 : (sizeL y).length < (sizeL x).length → y < x := len_lt
 have tx := top_zero x
 have ty := top_zero y
 generalize (sizeL x).length = la at *
 generalize (sizeL y).length = lb at *
 replace HA := Lib.hid HA
 replace HB := Lib.hid HB
 clear hx hy
 by_cases g : la = lb
 ·subst g
  have HT := Lib.hid (tx.trans ty.symm)
  clear e1 e2 tx ty
  go_enter Tryz.func139, Tryz.ntmps139
  go_wp2_with fail
  go_loopw [5] (fun i wr => ∃ (s : Nat) (j : Int), i = .int .i64 j ∧ j = (s : Int) - 1 ∧ s ≤ la ∧ Hid (x / 2 ^ s = y / 2 ^ s) ∧ Below w.heap.size w wr) (fun i _ => (intOf i + 1).toNat)
  case atStart => exact ⟨la, _, rfl, by omega, Nat.le_refl _, HT, Below.refl _ _⟩
  case round =>
   obtain ⟨s, j, rfl, hj, hs, hE, hnx⟩ := hrel
   cases s with
   | zero =>
    have gj : ¬ (0 : Int) ≤ j := by omega
    clear hj
    have e : x = y := by simpa using hE.out
    have E := Lib.hid (show decide (x < y) = false by simp; omega)
    clear e hE HT HA HB
    go_wp2_with fail
    go_ret
    exact ⟨by rw [E.out]; rfl, hnx⟩
   | succ s =>
    obtain rfl : j = (s : Int) := by omega
    have ga : s < la := by omega
    obtain ⟨b, off, rfl, hbw, hcell⟩ := HA.out s ga
    obtain ⟨b', off', rfl, hbw', hcell'⟩ := HB.out s ga
    have hc1 := (hnx.cell (p := ⟨b, off + s, none⟩) (by exact hbw)).trans hcell
    have hc2 := (hnx.cell (p := ⟨b', off' + s, none⟩) (by exact hbw')).trans hcell'
    clear hcell hcell'
    have F1 := Lib.hid (fun e => less_step hE.out e)
    have F2 := Lib.hid (fun e => less_end hE.out e)
    have F3 := Lib.hid (fun e => less_end hE.out.symm e)
    have r1 := bit_range x s
    have r2 := bit_range y s
    have pp : bitI x s = 0 ∨ bitI x s = 1 := by omega
    have pq : bitI y s = 0 ∨ bitI y s = 1 := by omega
    clear r1 r2 hE hj
    generalize bitI x s = p at *
    generalize bitI y s = q at *
    rcases pp with rfl | rfl <;> rcases pq with rfl | rfl
    ·go_wp2_with fail
     go_region
     go_wp2_with fail
     go_roundw
     case rel => exact ⟨s, _, rfl, by simp, by omega, Lib.hid (F1.out (by trivial)), hnx.drew⟩
     case measure => simp [intOf]
    ·have E := Lib.hid (show decide (x < y) = true from by simpa using F2.out (by decide))
     go_wp2_with fail
     go_region
     go_wp2_with fail
     go_region
     go_wp2_with fail
     go_ret
     exact ⟨by rw [E.out]; rfl, hnx.drew.drew⟩
    ·have E := Lib.hid (show decide (x < y) = false from by have := F3.out (by decide); simp; omega)
     go_wp2_with fail
     go_region
     go_wp2_with fail
     go_region
     go_wp2_with fail
     go_ret
     exact ⟨by rw [E.out]; rfl, hnx.drew.drew⟩
    ·go_wp2_with fail
     go_region
     go_wp2_with fail
     go_roundw
     case rel => exact ⟨s, _, rfl, by simp, by omega, Lib.hid (F1.out (by trivial)), hnx.drew⟩
     case measure => simp [intOf]
 ·by_cases k : la < lb
  ·have E := Lib.hid (show decide (x < y) = true from by simpa using e1 k)
   clear e1 e2 tx ty
   go_enter Tryz.func139, Tryz.ntmps139
   go_wp2_with fail
   go_ret
   exact ⟨by rw [E.out]; rfl, Below.refl _ _⟩
  ·have E := Lib.hid (show decide (x < y) = false from by have := e2 (by omega); simp; omega)
   clear e1 e2 tx ty
   go_enter Tryz.func139, Tryz.ntmps139
   go_wp2_with fail
   go_ret
   exact ⟨by rw [E.out]; rfl, Below.refl _ _⟩
end Go.Proofs.YtcfidimnbamnkaaGreat

/-
 The document's own answers, seventh part: two sizes, multiplied. Conditions: those written at each fact.
-/
namespace Go.Proofs.YtcfidimnbamnkaaGreat
open Go.RowKit

theorem valB_size (x : Nat) : valB (sizeL x) = x := by
 induction x using Nat.strongRecOn with
 | _ x ih =>
  by_cases g : x = 0
  ·subst g; rw [sizeL_zero]; rfl
  ·rw [sizeL_pos g, valB, ih (x / 2) (by omega)]
   omega
theorem size_digits (x : Nat) : ∀ d ∈ sizeL x, d = 0 ∨ d = 1 := by
 induction x using Nat.strongRecOn with
 | _ x ih =>
  by_cases g : x = 0
  ·subst g; rw [sizeL_zero]; simp
  ·rw [sizeL_pos g]
   intro d hd
   rcases List.mem_cons.1 hd with e | e
   ·omega
   ·exact ih (x / 2) (by omega) d e
theorem own_new {w : World} {B : Nat} {t : TypeId} {x : Value} (hB : B ≤ w.heap.size) : (w.alloc (.cells #[x] t)).ownsRow B t 1 (.slice (some ⟨w.heap.size, 0, none⟩) 1 1) 1 [x] :=
 ⟨rfl, Or.inr ⟨w.heap.size, 1, #[x], rfl, hB, heap_alloc_new w _, Nat.le_refl _, by unfold maxLen; omega, rfl, rfl⟩⟩
theorem num_cells {w : World} {ad : Addr} {n c x : Nat} (h : Num w (.slice (some ad) n c) x) : n = (sizeL x).length ∧ ∀ (j : Nat) (u : Value), ((sizeL x).map (Value.int .i64))[j]? = some u → w.cell? (ad.add j) = some u := by
 obtain ⟨A, c', e, _, hk⟩ := h
 injection e with e1 e2 e3
 subst e1 e2 e3
 refine ⟨rfl, fun j u hu => ?_⟩
 have hj : j < (sizeL x).length := by
  rcases Nat.lt_or_ge j (sizeL x).length with g | g
  ·exact g
  ·rw [List.getElem?_eq_none (by simpa using g)] at hu; cases hu
 obtain ⟨b, off, e1, _, e3⟩ := hk j hj
 injection e1 with e1
 subst e1
 rw [List.getElem?_map, bit_at j x hj] at hu
 injection hu with hu
 have e : (⟨b, off, none⟩ : Addr).add j = ⟨b, off + j, none⟩ := by unfold Addr.add; split <;> simp_all
 rw [e, e3, ← hu]
theorem ints_one {l : List Int} : ∀ u ∈ l.map (Value.int .i64), u.oneCell' = true := by
 intro u hu
 obtain ⟨z, _, rfl⟩ := List.mem_map.1 hu
 rfl
theorem num_nil {w : World} {v : Value} {x : Nat} (h : Num w v x) : v = .slice none 0 0 ∧ sizeL x = [] ∨ ∃ ad n c, v = .slice (some ad) n c := by
 obtain ⟨A, c, rfl, hc, hk⟩ := h
 cases A with
 | none =>
  have hl : (sizeL x).length = 0 := by
   rcases Nat.eq_zero_or_pos (sizeL x).length with e | e
   ·exact e
   ·obtain ⟨_, _, e1, _⟩ := hk 0 e
    cases e1
  rw [hc.2 rfl, hl]
  exact Or.inl ⟨rfl, List.eq_nil_of_length_eq_zero hl⟩
 | some ad => exact Or.inr ⟨ad, _, c, rfl⟩
theorem times_step (x y s : Nat) : 2 * (y / 2 ^ (s + 1) * x) + y / 2 ^ s % 2 * x = y / 2 ^ s * x := by
 rw [pow_half]
 generalize y / 2 ^ s = Y
 rw [← Nat.mul_assoc, ← Nat.add_mul]
 congr 1
 omega

set_option maxRecDepth 100000 in
set_option maxHeartbeats 3200000 in
theorem times_row (x y : Nat) (hxy : (sizeL x).length + (sizeL y).length ≤ 4000) (v v' : Value) (w : World) (h : Num w v x) (h' : Num w v' y) :
  Calls Tryz.prog 196 #[v, v'] w (Gave w (x * y)) := by
 have HX := h
 obtain ⟨B, cb, rfl, hcb, HB⟩ := h'
 obtain ⟨A, ca, rfl, hca, HA⟩ := h
 have bound : ∀ s, (sizeL (y / 2 ^ s * x)).length ≤ 4000 := fun s => by
  have a1 : y / 2 ^ s ≤ y := Nat.div_le_self _ _
  have a2 := size_mono (Nat.mul_le_mul_right x a1)
  have a3 := size_mul y x
  omega
 have bound2 : ∀ s, (sizeL (2 * (y / 2 ^ (s + 1) * x))).length ≤ 4000 := fun s => by
  have a2 := size_mono (show 2 * (y / 2 ^ (s + 1) * x) ≤ y / 2 ^ s * x by rw [← times_step x y s]; exact Nat.le_add_right _ _)
  have a3 := bound s
  omega
 have LB : (sizeL y).length ≤ 4000 := by omega
 have PLX := Lib.hid (fun (z : Nat) (hz : (sizeL z).length ≤ 4000) (u u' : Value) (W : World) (k : Num W u z) (k' : Num W u' x) => plusN_any z x hz (show (sizeL x).length ≤ 4000 by omega) u u' W k k')
 have ty := top_zero y
 generalize (sizeL y).length = lb at *
 replace HB := Lib.hid HB
 replace HX := Lib.hid HX
 have HW := Lib.hid bound
 have HW2 := Lib.hid bound2
 have HT := Lib.hid ty
 clear hxy bound bound2 ty HA hca
 generalize (sizeL x).length = la at *
 obtain ⟨i0, hi, hz0, hz1, hz2⟩ := info_parts infoInt
 go_enter Tryz.func196, Tryz.ntmps196
 go_wp2_with fail
 go_loopw [5, 6] (fun v i wr => ∃ (s : Nat) (j : Int), i = .int .i64 j ∧ j = (s : Int) - 1 ∧ s ≤ lb ∧ Hid (Num wr v (y / 2 ^ s * x)) ∧ Below w.heap.size w wr) (fun _ i _ => (intOf i + 1).toNat)
 case atStart => exact ⟨lb, _, rfl, by omega, Nat.le_refl _, Lib.hid (by rw [HT.out, Nat.zero_mul]; exact ⟨none, 0, by rw [sizeL_zero]; rfl, ⟨by rw [sizeL_zero]; simp, fun _ => rfl⟩, fun k hk => by rw [sizeL_zero] at hk; simp at hk⟩), Below.refl _ _⟩
 case round =>
  obtain ⟨s, j, rfl, hj, hs, hN, hnx⟩ := hrel
  cases s with
  | zero =>
   have gj : ¬ (0 : Int) ≤ j := by omega
   clear hj
   have R := hN.out
   rw [Nat.pow_zero, Nat.div_one, Nat.mul_comm] at R
   have R := Lib.hid R
   clear hN
   go_wp2_with fail
   go_ret
   exact ⟨_, rfl, hnx, R.out⟩
  | succ s =>
   obtain rfl : j = (s : Int) := by omega
   have ST := Lib.hid (times_step x y s)
   have BX := Lib.hid (HW2.out s)
   have LX := HW.out (s + 1)
   generalize y / 2 ^ (s + 1) * x = X at *
   have ga : s < lb := by omega
   obtain ⟨b, off, rfl, hbw, hcell⟩ := HB.out s ga
   have r1 := bit_range y s
   have pp : bitI y s = 0 ∨ bitI y s = 1 := by omega
   have eb : ((y / 2 ^ s % 2 : Nat) : Int) = bitI y s := rfl
   have E0 : Hid (bitI y s = 0 → 2 * X = y / 2 ^ s * x) := Lib.hid fun g => by
    have := ST.out
    rw [show y / 2 ^ s % 2 = 0 by omega, Nat.zero_mul] at this
    exact this
   have E1 : Hid (bitI y s = 1 → 2 * X + x = y / 2 ^ s * x) := Lib.hid fun g => by
    have := ST.out
    rw [show y / 2 ^ s % 2 = 1 by omega, Nat.one_mul] at this
    exact this
   have DG := Lib.hid (size_digits X)
   have VB := Lib.hid (valB_size X)
   clear r1 eb ST hj
   generalize bitI y s = p at *
   rcases num_nil hN.out with ⟨rfl, e0⟩ | ⟨ad, n, c, rfl⟩
   ·have x0 : X = 0 := sizeL_nil e0
    have TR := Lib.hid (trim_any [0] (by simp) _ _ (rowL_of_own (l := [0]) (own_new (x := .int .i64 0) (t := 3) hnx.size)) (by simp))
    rw [show valB [0] = 2 * X by rw [x0]; rfl] at TR
    have hB1 := below_thru hnx (below_alloc wr (.cells #[.int .i64 0] 3))
    have OW := Lib.hid (own_new (w := wr) (B := w.heap.size) (x := .int .i64 0) (t := 3) hnx.size)
    clear hN hnx x0 e0 DG VB
    rcases pp with rfl | rfl
    ·skip
     go_wp2_with (at_builtin; refine wpList_append_own_none rfl _ _ 130 rfl w.heap.size 3 i0 1 Tryz.underlying130 hi _ 1 [.int .i64 0] rfl OW.out rfl ?_)
     refine TR.out.mono ?_
     rintro e w2 ⟨v2, rfl, hb2, hnum2⟩
     have hB2 := below_thru hB1 hb2
     have hc2 := (hB2.cell (p := ⟨b, off + s, none⟩) (by exact hbw)).trans hcell
     clear hB1 hb2 hcell TR
     have R := Lib.hid (E0.out (by trivial) ▸ hnum2)
     clear hnum2
     go_wp2_with fail
     go_roundw
     case rel => exact ⟨s, _, rfl, by simp, by omega, R, hB2⟩
     case measure => simp [intOf]
    ·skip
     go_wp2_with (at_builtin; refine wpList_append_own_none rfl _ _ 130 rfl w.heap.size 3 i0 1 Tryz.underlying130 hi _ 1 [.int .i64 0] rfl OW.out rfl ?_)
     refine TR.out.mono ?_
     rintro e w2 ⟨v2, rfl, hb2, hnum2⟩
     have hB2 := below_thru hB1 hb2
     have hc2 := (hB2.cell (p := ⟨b, off + s, none⟩) (by exact hbw)).trans hcell
     clear hB1 hb2 hcell TR
     have PL := Lib.hid (PLX.out (2 * X) BX.out v2 _ w2 hnum2 (HX.out.below hB2))
     clear hnum2
     go_wp2_with fail
     refine PL.out.mono ?_
     rintro e w3 ⟨v3, rfl, hb3, hown3⟩
     have R := Lib.hid (E1.out (by trivial) ▸ num_of_own hown3)
     have hB3 := below_thru hB2 hb3
     clear hown3 hb3 PL hc2 hB2
     go_wp2_with fail
     go_roundw
     case rel => exact ⟨s, _, rfl, by simp, by omega, R, hB3⟩
     case measure => simp [intOf]
   ·obtain ⟨hn, hcells⟩ := num_cells (hN.out.below (below_alloc wr (.cells #[.int .i64 0] 3)))
    subst hn
    have OW := Lib.hid (own_new (w := wr) (B := w.heap.size) (x := .int .i64 0) (t := 3) hnx.size)
    have HC := Lib.hid hcells
    clear hN hcells
    rcases pp with rfl | rfl
    ·skip
     go_wp2_with (at_builtin; refine wpList_append_own _ rfl _ _ 130 rfl w.heap.size 3 i0 (.int .i64 0) 1 8 Tryz.underlying130 hi hz0 hz1 hz2 rfl (by decide) _ 1 [.int .i64 0] rfl OW.out ad _ c ((sizeL X).map (Value.int .i64)) rfl (by simp) HC.out ints_one ?c3 ?c4 ?c5 ?_)
     case c3 => unfold maxLen; omega
     case c4 => omega
     case c5 => have := hnx.size; simp; omega
     intro v1 w1 hown' hgrow _
     have TR := Lib.hid (trim_any (0 :: sizeL X) (fun d hd => (List.mem_cons.1 hd).elim Or.inl (DG.out d)) v1 w1 (rowL_of_own (B := w.heap.size) (by simpa [Nat.add_comm] using hown')) (by simp; omega))
     rw [show valB (0 :: sizeL X) = 2 * X by rw [valB, VB.out]; simp] at TR
     have hB1 : Below w.heap.size w w1 := (below_thru hnx (below_alloc wr (.cells #[.int .i64 0] 3))).grown hgrow (by have := hnx.size; simp; omega) (fun g hg => by have := (OW.out.lt g hg).1; omega)
     clear hown' hgrow hnx
     go_wp2_with fail
     refine TR.out.mono ?_
     rintro e w2 ⟨v2, rfl, hb2, hnum2⟩
     have hB2 := below_thru hB1 hb2
     have hc2 := (hB2.cell (p := ⟨b, off + s, none⟩) (by exact hbw)).trans hcell
     clear hB1 hb2 hcell TR
     have R := Lib.hid (E0.out (by trivial) ▸ hnum2)
     clear hnum2
     go_wp2_with fail
     go_roundw
     case rel => exact ⟨s, _, rfl, by simp, by omega, R, hB2⟩
     case measure => simp [intOf]
    ·skip
     go_wp2_with (at_builtin; refine wpList_append_own _ rfl _ _ 130 rfl w.heap.size 3 i0 (.int .i64 0) 1 8 Tryz.underlying130 hi hz0 hz1 hz2 rfl (by decide) _ 1 [.int .i64 0] rfl OW.out ad _ c ((sizeL X).map (Value.int .i64)) rfl (by simp) HC.out ints_one ?c3 ?c4 ?c5 ?_)
     case c3 => unfold maxLen; omega
     case c4 => omega
     case c5 => have := hnx.size; simp; omega
     intro v1 w1 hown' hgrow _
     have TR := Lib.hid (trim_any (0 :: sizeL X) (fun d hd => (List.mem_cons.1 hd).elim Or.inl (DG.out d)) v1 w1 (rowL_of_own (B := w.heap.size) (by simpa [Nat.add_comm] using hown')) (by simp; omega))
     rw [show valB (0 :: sizeL X) = 2 * X by rw [valB, VB.out]; simp] at TR
     have hB1 : Below w.heap.size w w1 := (below_thru hnx (below_alloc wr (.cells #[.int .i64 0] 3))).grown hgrow (by have := hnx.size; simp; omega) (fun g hg => by have := (OW.out.lt g hg).1; omega)
     clear hown' hgrow hnx
     go_wp2_with fail
     refine TR.out.mono ?_
     rintro e w2 ⟨v2, rfl, hb2, hnum2⟩
     have hB2 := below_thru hB1 hb2
     have hc2 := (hB2.cell (p := ⟨b, off + s, none⟩) (by exact hbw)).trans hcell
     clear hB1 hb2 hcell TR
     have PL := Lib.hid (PLX.out (2 * X) BX.out v2 _ w2 hnum2 (HX.out.below hB2))
     clear hnum2
     go_wp2_with fail
     refine PL.out.mono ?_
     rintro e w3 ⟨v3, rfl, hb3, hown3⟩
     have R := Lib.hid (E1.out (by trivial) ▸ num_of_own hown3)
     have hB3 := below_thru hB2 hb3
     clear hown3 hb3 PL hc2 hB2
     go_wp2_with fail
     go_roundw
     case rel => exact ⟨s, _, rfl, by simp, by omega, R, hB3⟩
     case measure => simp [intOf]
end Go.Proofs.YtcfidimnbamnkaaGreat

/-
 The document's own answers, eighth part: a number of a sign and a size; a number of 64 bits. Conditions: those written at each fact.
-/
namespace Go.Proofs.YtcfidimnbamnkaaGreat
open Go.RowKit

def NumZ (w : World) (v : Value) (z : Int) : Prop := ∃ s, v = .agg #[.bool (decide (z < 0)), s] ∧ Num w s z.natAbs
def GaveZ (w : World) (z : Int) (e : Ending) (w' : World) : Prop := ∃ v, e = .returned v ∧ Below w.heap.size w w' ∧ NumZ w' v z
theorem NumZ.below {w w' : World} {v : Value} {z : Int} (h : NumZ w v z) (hb : Below w.heap.size w w') : NumZ w' v z := by
 obtain ⟨s, e, k⟩ := h
 exact ⟨s, e, k.below hb⟩
theorem size_none {x : Nat} : 0 < (sizeL x).length ↔ x ≠ 0 := by
 rw [bit_lt 0 x]; simp

set_option maxRecDepth 100000 in
theorem made_walk (b : Bool) (A : Option Addr) (n c : Nat) (w : World) : Calls Tryz.prog 135 #[.bool b, .slice A n c] w (Ret w (.agg #[.bool (b && decide (0 < n)), .slice A n c])) := by
 cases b
 ·go_enter Tryz.func135, Tryz.ntmps135
  go_wp2
  go_returns
  exact ⟨rfl, by go_grown⟩
 ·by_cases g : 0 < n
  ·have g1 : (0 : Int) < (n : Int) := by omega
   have e : (true && decide (0 < n)) = true := by simp [g]
   rw [e]
   clear e
   go_enter Tryz.func135, Tryz.ntmps135
   go_wp2
   go_returns
   exact ⟨rfl, by go_grown⟩
  ·have g1 : ¬ (0 : Int) < (n : Int) := by omega
   have e : (true && decide (0 < n)) = false := by simp [g]
   rw [e]
   clear e
   go_enter Tryz.func135, Tryz.ntmps135
   go_wp2
   go_returns
   exact ⟨rfl, by go_grown⟩
theorem made_any (z : Int) (b : Bool) (hb : (b && decide (z.natAbs ≠ 0)) = decide (z < 0)) (v : Value) (w : World) (h : Num w v z.natAbs) : Calls Tryz.prog 135 #[.bool b, v] w (GaveZ w z) := by
 have h' := h
 obtain ⟨A, c, rfl, hc, hk⟩ := h'
 refine (made_walk b A _ c w).mono ?_
 rintro e w' ⟨rfl, hbl⟩
 refine ⟨_, rfl, hbl, _, ?_, h.below hbl⟩
 rw [← hb, decide_eq_decide.2 (size_none (x := z.natAbs))]
end Go.Proofs.YtcfidimnbamnkaaGreat

/-
 The document's own answers, ninth part: nothing less a number; is one number less than another one? Conditions: those written at each fact.
-/
namespace Go.Proofs.YtcfidimnbamnkaaGreat
open Go.RowKit

theorem Num.set {W : World} {v : Value} {x : Nat} (h : Num W v x) {B : Nat} {b : Bool} {A : Option Addr} {n c : Nat} {t : TypeId} (hB : W.heap[B]? = some (.cells #[.bool b, .slice A n c] t (0, 0))) (u0 u1 : Value) :
  Num ((W.setCell ⟨B, 0, none⟩ u0).setCell ⟨B, 1, none⟩ u1) v x := by
 obtain ⟨A', c', e, hc, hk⟩ := h
 refine ⟨A', c', e, hc, fun k hl => ?_⟩
 obtain ⟨b', off, e1, e2, e3⟩ := hk k hl
 have hne : b' ≠ B := by
  intro eb
  subst eb
  have hx : (#[Value.bool b, Value.slice A n c] : Array Value)[off + k]? = some (.int .i64 (bitI x k)) := by
   rw [← e3]
   simp [World.cell?, hB]
  match hm : off + k with
  | 0 => rw [hm] at hx; simp at hx
  | 1 => rw [hm] at hx; simp at hx
  | j + 2 => rw [hm] at hx; simp at hx
 refine ⟨b', off, e1, by simpa [World.setCell] using e2, ?_⟩
 have h1 := Below.heap_setCell (W.setCell ⟨B, 0, none⟩ u0) ⟨B, 1, none⟩ u1 b' hne
 have h2 := Below.heap_setCell W ⟨B, 0, none⟩ u0 b' hne
 exact (World.cell?_of_block (w := W) (h1.trans h2)).trans e3

end Go.Proofs.YtcfidimnbamnkaaGreat

/-
 The document's own answers, tenth part: one digit ahead of a row; how often a size has another one, and what is left. Conditions: those written at each fact.
-/
namespace Go.Proofs.YtcfidimnbamnkaaGreat
open Go.RowKit

theorem RowL.below {w w' : World} {v : Value} {l : List Int} (h : RowL w v l) (hb : Below w.heap.size w w') : RowL w' v l := by
 obtain ⟨A, c, e, hc, hk⟩ := h
 refine ⟨A, c, e, hc, fun k hl => ?_⟩
 obtain ⟨b, off, e1, e2, e3⟩ := hk k hl
 exact ⟨b, off, e1, Nat.lt_of_lt_of_le e2 hb.size, (hb.cell (by exact e2)).trans e3⟩
theorem bitI_at {x k : Nat} (h : k < (sizeL x).length) : (sizeL x).getD k 0 = bitI x k := by
 rw [List.getD_eq_getElem?_getD, bit_at k x h]; rfl
theorem Num.row {w : World} {v : Value} {x : Nat} (h : Num w v x) : RowL w v (sizeL x) := by
 obtain ⟨A, c, e, hc, hk⟩ := h
 refine ⟨A, c, e, hc, fun k hl => ?_⟩
 obtain ⟨b, off, e1, e2, e3⟩ := hk k hl
 exact ⟨b, off, e1, e2, by rw [bitI_at hl]; exact e3⟩
theorem rowL_nil {w : World} : RowL w (.slice none 0 0) [] := ⟨none, 0, rfl, ⟨Nat.le_refl _, fun _ => rfl⟩, fun k hk => by simp at hk⟩
theorem rowL_num {w : World} {v : Value} {x : Nat} (h : RowL w v (sizeL x)) : Num w v x := by
 obtain ⟨A, c, e, hc, hk⟩ := h
 refine ⟨A, c, e, hc, fun k hl => ?_⟩
 obtain ⟨b, off, e1, e2, e3⟩ := hk k hl
 exact ⟨b, off, e1, e2, by rw [bitI_at hl] at e3; exact e3⟩
theorem num_zero {w : World} : Num w (.slice none 0 0) 0 := rowL_num (by rw [sizeL_zero]; exact rowL_nil)

set_option maxRecDepth 100000 in
theorem wpList_front {ops : Array Oper} {rest : List Oper} {o : Oper} {a : Act} {Q : Exit → Act → World → Prop} {wr : World} (hgd : o.guard = none) (s x : Operand)
  (ho : o.op = .call { callee := .builtin .append, args := #[s, x], argTypes := #[130, 130] }) (d : Int) (hs : a.eval s = .slice (some ⟨wr.heap.size, 0, none⟩) 1 1) (v : Value) (hx : a.eval x = v) (l : List Int) (hr : RowL wr v l) (hl : l.length ≤ 9000)
  (h : ∀ v' w', Below wr.heap.size wr w' → w'.ownsRow wr.heap.size 3 1 v' (d :: l).length ((d :: l).map (Value.int .i64)) → wpList Tryz.prog ops Q rest (a.put o.dst v') w') :
  wpList Tryz.prog ops Q (o :: rest) a (wr.alloc (.cells #[.int .i64 d] 3)) := by
 obtain ⟨i0, hi, hz0, hz1, hz2⟩ := info_parts infoInt
 have OW := own_new (w := wr) (B := wr.heap.size) (x := .int .i64 d) (t := 3) (Nat.le_refl _)
 have hr' := hr.below (below_alloc wr (.cells #[.int .i64 d] 3))
 obtain ⟨A, c, rfl, hc, hk⟩ := hr'
 cases A with
 | none =>
  have hl0 : l = [] := by
   rcases l with _ | ⟨e, l⟩
   ·rfl
   ·obtain ⟨_, _, e1, _⟩ := hk 0 (by simp)
    cases e1
  subst hl0
  have hc0 := hc.2 rfl
  subst hc0
  exact wpList_append_own_none hgd s x 130 ho wr.heap.size 3 i0 1 Tryz.underlying130 hi _ 1 [.int .i64 d] hs OW hx (h _ _ (below_alloc wr _) OW)
 | some ad =>
  refine wpList_append_own _ hgd s x 130 ho wr.heap.size 3 i0 (.int .i64 0) 1 8 Tryz.underlying130 hi hz0 hz1 hz2 rfl (by decide) _ 1 [.int .i64 d] hs OW ad _ c (l.map (Value.int .i64)) hx (by simp) ?_ ints_one (by unfold maxLen; omega) (by omega) (by simp) ?_
  ·intro j u hu
   have hj : j < l.length := by
    rcases Nat.lt_or_ge j l.length with g | g
    ·exact g
    ·rw [List.getElem?_eq_none (by simpa using g)] at hu; cases hu
   obtain ⟨b, off, e1, _, e3⟩ := hk j hj
   injection e1 with e1
   subst e1
   rw [List.getElem?_map, List.getElem?_eq_getElem hj] at hu
   injection hu with hu
   have e : (⟨b, off, none⟩ : Addr).add j = ⟨b, off + j, none⟩ := by unfold Addr.add; split <;> simp_all
   rw [e, e3, ← hu, List.getD_eq_getElem?_getD, List.getElem?_eq_getElem hj]
   rfl
  ·intro v' w' hown hgrow _
   refine h v' w' ((below_alloc wr (.cells #[.int .i64 d] 3)).grown hgrow (by simp) (fun g hg => (OW.lt g hg).1)) ?_
   simpa [Nat.add_comm] using hown

theorem digits_front {d : Int} {l : List Int} (hd : d = 0 ∨ d = 1) (h : ∀ e ∈ l, e = 0 ∨ e = 1) : ∀ e ∈ d :: l, e = 0 ∨ e = 1 := fun e he => (List.mem_cons.1 he).elim (fun q => q ▸ hd) (h e)
theorem parts_step {X y p : Nat} (hy : 0 < y) : 2 * (X % y) + p < 2 * y → (2 * X + p) / y = 2 * (X / y) + (if 2 * (X % y) + p < y then 0 else 1) ∧ (2 * X + p) % y = if 2 * (X % y) + p < y then 2 * (X % y) + p else 2 * (X % y) + p - y := by
 intro h
 have dm := Nat.div_add_mod X y
 have hr := Nat.mod_lt X hy
 generalize X / y = q at *
 generalize X % y = r at *
 subst dm
 split
 ·have e : 2 * (y * q + r) + p = (2 * r + p) + y * (2 * q) := by rw [Nat.mul_add, Nat.mul_left_comm]; omega
  rw [e, Nat.add_mul_div_left _ _ hy, Nat.add_mul_mod_self_left, Nat.div_eq_of_lt (by assumption), Nat.mod_eq_of_lt (by assumption)]
  exact ⟨by omega, rfl⟩
 ·have e : 2 * (y * q + r) + p = (2 * r + p - y) + y * (2 * q + 1) := by rw [Nat.mul_add, Nat.mul_left_comm, Nat.mul_add, Nat.mul_one]; omega
  rw [e, Nat.add_mul_div_left _ _ hy, Nat.add_mul_mod_self_left, Nat.div_eq_of_lt (by omega), Nat.mod_eq_of_lt (by omega)]
  exact ⟨by omega, rfl⟩

def GaveP (w : World) (q r : Nat) (e : Ending) (w' : World) : Prop := ∃ u v, e = .returned (.tuple #[u, v]) ∧ Below w.heap.size w w' ∧ Num w' u q ∧ Num w' v r
def PartsRel (w : World) (x y la : Nat) (q r i : Value) (wr : World) : Prop :=
 ∃ (s : Nat) (j : Int) (l : List Int), i = .int .i64 j ∧ j = (s : Int) - 1 ∧ s ≤ la ∧ RowL wr q l ∧ (∀ d ∈ l, d = 0 ∨ d = 1) ∧ l.length + s = la ∧ valB l = x / 2 ^ s / y ∧ Num wr r (x / 2 ^ s % y) ∧ Below w.heap.size w wr
set_option maxRecDepth 100000 in
set_option maxHeartbeats 3200000 in
theorem parts_any (x y : Nat) (hy0 : 0 < y) (hx : (sizeL x).length ≤ 3990) (hy : (sizeL y).length ≤ 3990) (v v' : Value) (w : World) (h : Num w v x) (h' : Num w v' y) :
  Calls Tryz.prog 165 #[v, v'] w (GaveP w (x / y) (x % y)) := by
 have HX := Lib.hid h
 have HY := Lib.hid h'
 have ty := Lib.hid (top_zero x)
 obtain ⟨A, ca, rfl, hca, HA⟩ := h
 have HA := Lib.hid HA
 have RB : Hid (∀ z, z < 2 * y → (sizeL z).length ≤ 3991) := Lib.hid fun z hz => by
  have a1 := size_mono (show z ≤ y + y by omega)
  have a2 := size_add y y
  omega
 have LS := Lib.hid (fun z (hz : z < 2 * y) u W (k : Num W u z) (hb : Below w.heap.size w W) => less_any z y (by have := RB.out z hz; omega) (by omega) u v' W k (HY.out.below hb))
 have MN := Lib.hid (fun z (hz : z < 2 * y) (hle : y ≤ z) u W (k : Num W u z) (hb : Below w.heap.size w W) => minus_any z y (by have := RB.out z hz; omega) hle u v' W k (HY.out.below hb))
 have HY0 := Lib.hid hy0
 clear hca h' hy hy0
 generalize (sizeL x).length = la at *
 go_enter Tryz.func165, Tryz.ntmps165
 go_wp2_with fail
 go_loopw [6, 7, 8] (fun q r i wr => PartsRel w x y la q r i wr) (fun _ _ i _ => (intOf i + 1).toNat)
 case atStart => exact ⟨la, _, [], rfl, by omega, Nat.le_refl _, rowL_nil, by simp, by simp, by rw [ty.out, Nat.zero_div]; rfl, by rw [ty.out, Nat.zero_mod]; exact num_zero, Below.refl _ _⟩
 case round =>
  obtain ⟨s, j, l, rfl, hj, hs, hq, hd, hll, hv, hr, hb⟩ := hrel
  replace hq := Lib.hid hq
  replace hd := Lib.hid hd
  replace hv := Lib.hid hv
  replace hr := Lib.hid hr
  replace hb := Lib.hid hb
  replace hll := Lib.hid hll
  cases s with
  | zero =>
   have gj : ¬ (0 : Int) ≤ j := by omega
   clear hj
   have T := Lib.hid (trim_any l hd.out _ wr hq.out (by have := hll.out; omega))
   rw [hv.out, Nat.pow_zero, Nat.div_one] at T
   have R0 := hr.out
   rw [Nat.pow_zero, Nat.div_one] at R0
   replace R0 := Lib.hid R0
   go_wp2_with fail
   refine T.out.mono ?_
   rintro e w2 ⟨v2, rfl, hb2, hn2⟩
   replace hb2 := Lib.hid hb2
   replace hn2 := Lib.hid hn2
   go_wp2_with fail
   go_ret2
   exact ⟨_, _, rfl, below_thru hb.out hb2.out, hn2.out, R0.out.below hb2.out⟩
  | succ s =>
   obtain rfl : j = (s : Int) := by omega
   have ga : s < la := by omega
   obtain ⟨b, off, rfl, hbw, hcell⟩ := HA.out s ga
   have hcw := (hb.out.cell (p := ⟨b, off + s, none⟩) hbw).trans hcell
   have hP2 : x / 2 ^ s % 2 < 2 := Nat.mod_lt _ (by decide)
   have hX : x / 2 ^ s = 2 * (x / 2 ^ (s + 1)) + x / 2 ^ s % 2 := by rw [pow_half]; omega
   have hbit : bitI x s = ((x / 2 ^ s % 2 : Nat) : Int) := rfl
   rw [hbit] at hcw hcell
   clear hbit
   have PS := fun h => parts_step (X := x / 2 ^ (s + 1)) (p := x / 2 ^ s % 2) HY0.out h
   have hRlt : x / 2 ^ (s + 1) % y < y := Nat.mod_lt _ HY0.out
   rw [← hX] at PS
   replace hX := Lib.hid hX
   generalize x / 2 ^ s % 2 = P at *
   generalize x / 2 ^ (s + 1) = X at *
   generalize hRd : X % y = R at *
   obtain ⟨R', hR'⟩ : ∃ R', 2 * R + P = R' := ⟨_, rfl⟩
   rw [hR'] at PS
   have hR2 : R' < 2 * y := by omega
   obtain ⟨HQ, HM⟩ := PS hR2
   replace HQ := Lib.hid HQ
   replace HM := Lib.hid HM
   have DG : Hid (∀ d ∈ sizeL R, d = 0 ∨ d = 1) := Lib.hid (size_digits R)
   have VB : Hid (valB ((P : Int) :: sizeL R) = R') := Lib.hid (by rw [valB, valB_size]; simp; omega)
   replace hRd := Lib.hid hRd
   have hR' := Lib.hid hR'
   have LR : Hid ((sizeL R).length ≤ 3991) := Lib.hid (RB.out R (by omega))
   have hP01 : Hid ((P : Int) = 0 ∨ (P : Int) = 1) := Lib.hid (by omega)
   have hy1 : 0 < y := HY0.out
   clear hP2 hRlt PS hj hcell
   go_wp2_with (at_builtin; refine wpList_front rfl _ _ rfl (P : Int) rfl u7 rfl (sizeL R) hr.out.row (by have := LR.out; omega) ?_)
   intro v1 w1 hb1 hown1
   have T := Lib.hid (trim_any ((P : Int) :: sizeL R) (digits_front hP01.out DG.out) v1 w1 (rowL_of_own hown1) (by have := LR.out; simp; omega))
   rw [VB.out] at T
   clear hown1 hcw
   replace hb1 := Lib.hid hb1
   go_wp2_with fail
   refine T.out.mono ?_
   rintro e w2 ⟨v2, rfl, hb2, hn2⟩
   replace hb1 := hb1.out
   have hB2 := below_thru (below_thru hb.out hb1) hb2
   clear T
   by_cases g : R' < y
   ·rw [if_pos g] at HQ HM
    have LT := Lib.hid (LS.out R' hR2 v2 w2 hn2 hB2)
    rw [decide_eq_true g] at LT
    have hq2 := Lib.hid (hq.out.below (below_thru hb1 hb2))
    replace hB2 := Lib.hid hB2
    replace hn2 := Lib.hid hn2
    clear hb1 hb2
    go_wp2_with fail
    refine LT.out.mono ?_
    rintro e w3 ⟨rfl, hb3⟩
    have hq3 := Lib.hid (hq2.out.below hb3)
    have hB3 := Lib.hid (below_thru hB2.out hb3)
    have hn3 := Lib.hid (hn2.out.below hb3)
    clear hb3 LT hq2 hB2 hn2
    go_wp2_with (at_builtin; refine wpList_front rfl _ _ rfl 0 rfl u6 rfl l hq3.out (by have := hll.out; omega) ?_)
    intro v5 w5 hb5 hown5
    have RQ := Lib.hid (rowL_of_own (l := 0 :: l) hown5)
    have RN := Lib.hid (hn3.out.below hb5)
    have hB5 := Lib.hid (below_thru hB3.out hb5)
    clear hb5 hown5 hq3 hB3 hn3
    go_wp2_with fail
    go_roundw
    case rel => exact ⟨s, _, _, rfl, by simp, by omega, RQ.out, digits_front (Or.inl rfl) hd.out, by have := hll.out; simp; omega, by rw [valB, hv.out, HQ.out]; simp, by have := RN.out; rw [HM.out]; exact this, hB5.out⟩
    case measure => simp [intOf]
   ·rw [if_neg g] at HQ HM
    have LT := Lib.hid (LS.out R' hR2 v2 w2 hn2 hB2)
    rw [decide_eq_false g] at LT
    have MT := Lib.hid (fun W (hw : Below w2.heap.size w2 W) => MN.out R' hR2 (by omega) v2 W (hn2.below hw) (below_thru hB2 hw))
    have hq2 := Lib.hid (hq.out.below (below_thru hb1 hb2))
    replace hB2 := Lib.hid hB2
    clear hn2 hb1 hb2
    go_wp2_with fail
    refine LT.out.mono ?_
    rintro e w3 ⟨rfl, hb3⟩
    have MU := Lib.hid (MT.out w3 hb3)
    have hq3 := Lib.hid (hq2.out.below hb3)
    have hB3 := Lib.hid (below_thru hB2.out hb3)
    clear hb3 LT MT hq2 hB2
    go_wp2_with fail
    refine MU.out.mono ?_
    rintro e w4 ⟨v4, rfl, hb4, hn4⟩
    have hq4 := Lib.hid (hq3.out.below hb4)
    have hB4 := Lib.hid (below_thru hB3.out hb4)
    replace hn4 := Lib.hid hn4
    clear hb4 MU hq3 hB3
    go_wp2_with (at_builtin; refine wpList_front rfl _ _ rfl 1 rfl u6 rfl l hq4.out (by have := hll.out; omega) ?_)
    intro v5 w5 hb5 hown5
    have RQ := Lib.hid (rowL_of_own (l := 1 :: l) hown5)
    have RN := Lib.hid (hn4.out.below hb5)
    have hB5 := Lib.hid (below_thru hB4.out hb5)
    clear hb5 hown5 hq4 hB4 hn4
    go_wp2_with fail
    go_roundw
    case rel => exact ⟨s, _, _, rfl, by simp, by omega, RQ.out, digits_front (Or.inr rfl) hd.out, by have := hll.out; simp; omega, by rw [valB, hv.out, HQ.out]; simp; omega, by have := RN.out; rw [HM.out]; exact this, hB5.out⟩
    case measure => simp [intOf]
end Go.Proofs.YtcfidimnbamnkaaGreat

/-
 The document's own answers, eleventh part: numbers that are made: powers, products. Conditions: those written at each fact.
-/
namespace Go.Proofs.YtcfidimnbamnkaaGreat
open Go.RowKit

theorem Num.set2 {W : World} {v : Value} {x B n c : Nat} {b : Bool} {A : Option Addr} (h : Num W v x) (h0 : W.cell? ⟨B, 0, none⟩ = some (.bool b)) (h1 : W.cell? ⟨B, 1, none⟩ = some (.slice A n c)) (u0 u1 : Value) :
  Num ((W.setCell ⟨B, 0, none⟩ u0).setCell ⟨B, 1, none⟩ u1) v x := by
 obtain ⟨A', c', e, hc, hk⟩ := h
 refine ⟨A', c', e, hc, fun k hl => ?_⟩
 obtain ⟨b', off, e1, e2, e3⟩ := hk k hl
 refine ⟨b', off, e1, by simpa [World.setCell] using e2, ?_⟩
 have n0 : (⟨B, 0, none⟩ : Addr) ≠ ⟨b', off + k, none⟩ := fun e => by rw [← e, h0] at e3; cases e3
 have n1 : (⟨B, 1, none⟩ : Addr) ≠ ⟨b', off + k, none⟩ := fun e => by rw [← e, h1] at e3; cases e3
 rw [World.cell?_setCell_other _ _ _ _ n1, World.cell?_setCell_other _ _ _ _ n0]
 exact e3
theorem NumZ.set2 {W : World} {v : Value} {z : Int} {B n c : Nat} {b : Bool} {A : Option Addr} (h : NumZ W v z) (h0 : W.cell? ⟨B, 0, none⟩ = some (.bool b)) (h1 : W.cell? ⟨B, 1, none⟩ = some (.slice A n c)) (u0 u1 : Value) :
  NumZ ((W.setCell ⟨B, 0, none⟩ u0).setCell ⟨B, 1, none⟩ u1) v z := by
 obtain ⟨s, e, k⟩ := h
 exact ⟨s, e, k.set2 h0 h1 u0 u1⟩
def RetZ (w : World) (z : Int) (e : Ending) (w' : World) : Prop := ∃ b A n c, e = .returned (.agg #[.bool b, .slice A n c]) ∧ Below w.heap.size w w' ∧ NumZ w' (.agg #[.bool b, .slice A n c]) z
theorem NumZ.parts {w : World} {v : Value} {z : Int} (h : NumZ w v z) : ∃ A n c, v = .agg #[.bool (decide (z < 0)), .slice A n c] ∧ Num w (.slice A n c) z.natAbs := by
 obtain ⟨s, rfl, hn⟩ := h
 obtain ⟨A, c, rfl, hc, hk⟩ := hn
 exact ⟨A, _, c, rfl, A, c, rfl, hc, hk⟩
theorem retZ_of {w : World} {z : Int} {e : Ending} {w' : World} (h : GaveZ w z e w') : RetZ w z e w' := by
 obtain ⟨v, rfl, hb, hz⟩ := h
 obtain ⟨A, n, c, rfl, hn⟩ := hz.parts
 exact ⟨_, A, n, c, rfl, hb, _, rfl, hn⟩
theorem made2_any (z : Int) (b : Bool) (x : Nat) (hx : z.natAbs = x) (hb : (b && decide (x ≠ 0)) = decide (z < 0)) (v : Value) (w : World) (h : Num w v x) : Calls Tryz.prog 135 #[.bool b, v] w (RetZ w z) :=
 (made_any z b (by rw [hx]; exact hb) v w (by rw [hx]; exact h)).mono fun _ _ => retZ_of
def RetN (w : World) (x : Nat) (e : Ending) (w' : World) : Prop := ∃ A n c, e = .returned (.slice A n c) ∧ Below w.heap.size w w' ∧ Num w' (.slice A n c) x
theorem retN_of {w : World} {x : Nat} {e : Ending} {w' : World} (h : Gave w x e w') : RetN w x e w' := by
 obtain ⟨v, rfl, hb, hn⟩ := h
 obtain ⟨A, c, rfl, hc, hk⟩ := hn
 exact ⟨A, _, c, rfl, hb, A, c, rfl, hc, hk⟩
theorem sgn_nat (x : Nat) : decide (((x : Nat) : Int) < 0) = false := decide_eq_false (by omega)
theorem sgn_mul (x y : Int) : ((decide (x < 0) != decide (y < 0)) && decide (x.natAbs * y.natAbs ≠ 0)) = decide (x * y < 0) := by
 rw [Bool.eq_iff_iff]
 simp only [Bool.and_eq_true, bne_iff_ne, ne_eq, decide_eq_decide, decide_eq_true_eq, Nat.mul_eq_zero, Int.natAbs_eq_zero]
 rcases Int.lt_trichotomy x 0 with hx | hx | hx <;> rcases Int.lt_trichotomy y 0 with hy | hy | hy
 ·have := Int.mul_pos_of_neg_of_neg hx hy; omega
 ·subst hy; simp
 ·have := Int.mul_neg_of_neg_of_pos hx hy; omega
 ·subst hx; simp
 ·subst hx; simp
 ·subst hx; simp
 ·have := Int.mul_neg_of_pos_of_neg hx hy; omega
 ·subst hy; simp
 ·have := Int.mul_pos hx hy; omega
set_option maxRecDepth 100000 in
set_option maxHeartbeats 2000000 in
theorem mulZ_any (x y : Int) (hl : (sizeL x.natAbs).length + (sizeL y.natAbs).length ≤ 4000) (v v' : Value) (w : World) (h : NumZ w v x) (h' : NumZ w v' y) : Calls Tryz.prog 166 #[v, v'] w (RetZ w (x * y)) := by
 obtain ⟨A, n, c, rfl, hn⟩ := h.parts
 obtain ⟨A', n', c', rfl, hn'⟩ := h'.parts
 have T := Lib.hid (fun (W : World) L (hk : Keeps w L W) => (times_row x.natAbs y.natAbs hl (.slice A n c) (.slice A' n' c') W (hn.below hk.1) (hn'.below hk.1)).mono fun _ _ h => retN_of h)
 have M := Lib.hid (fun (u : Value) (W : World) (k : Num W u (x.natAbs * y.natAbs)) => made2_any (x * y) (!(decide (x < 0) == decide (y < 0))) _ (Int.natAbs_mul x y) (sgn_mul x y) u W k)
 clear h h' hn hn' hl
 generalize x * y = z at *
 generalize x.natAbs * y.natAbs = m at *
 generalize decide (x < 0) = p at *
 generalize decide (y < 0) = q at *
 go_enter Tryz.func166, Tryz.ntmps166
 go_wp2_with fail
 refine region_keepsB (w0 := w) (L := [(w.heap.size, 0, .bool p), (w.heap.size, 1, .slice A n c), (w.heap.size + 1, 0, .bool q), (w.heap.size + 1, 1, .slice A' n' c')]) (M := [(w.heap.size + 1 + 1, 0, .bool false), (w.heap.size + 1 + 1, 1, .slice none 0 0)]) (by kernel_rfl) (by first | exact hHeld | (refine ⟨by go_grown, ?_⟩; simp [Cells, go_sem]; done)) (by first | exact hHeld | (refine ⟨by go_grown, ?_⟩; simp [Cells, go_sem]; done)) (fun hHeld0 hT0 => ?_)
 refine tv 0 5 rfl rfl ?_
 try go_frame
 refine tk 1 6 rfl rfl ?_ ?_ ?_
 rotate_left
 ·intro wq hSw; obtain ⟨⟨_,_,_⟩,⟨_,_,_⟩,⟨_,_,_⟩,⟨_,_,_⟩,_⟩ := hSw.2; go_simp; (try with_reducible rfl)
 try go_frame
 refine tv 2 7 rfl rfl ?_
 try go_frame
 refine tk 3 8 rfl rfl ?_ ?_ ?_
 rotate_left
 ·intro wq hSw; obtain ⟨⟨_,_,_⟩,⟨_,_,_⟩,⟨_,_,_⟩,⟨_,_,_⟩,_⟩ := hSw.2; go_simp; (try with_reducible rfl)
 try go_frame
 refine tv 4 9 rfl rfl ?_
 try go_frame
 refine tv 5 10 rfl rfl ?_
 try go_frame
 refine tk 6 11 rfl rfl ?_ ?_ ?_
 rotate_left
 ·intro wq hSw; obtain ⟨⟨_,_,_⟩,⟨_,_,_⟩,⟨_,_,_⟩,⟨_,_,_⟩,_⟩ := hSw.2; go_simp; (try with_reducible rfl)
 try go_frame
 refine tv 7 12 rfl rfl ?_
 try go_frame
 refine tk 8 13 rfl rfl ?_ ?_ ?_
 rotate_left
 ·intro wq hSw; obtain ⟨⟨_,_,_⟩,⟨_,_,_⟩,⟨_,_,_⟩,⟨_,_,_⟩,_⟩ := hSw.2; go_simp; (try with_reducible rfl)
 try go_frame
 refine tw 9 rfl fun K hK => ?_
 go_simp
 (first | ((with_reducible refine (T.out _ _ (by assumption)).mono ?_); rintro e w5 ⟨A5, n5, c5, rfl, hb, hn5⟩) | ((with_reducible refine (M.out _ _ (by assumption)).mono ?_); rintro e w6 ⟨b6, A6, n6, c6, rfl, hb, hz6⟩))
 refine hK.out _ _ (hHeld0.next hb) (fun hHeld1 => ?_)
 replace hT0 := hT0.next hb
 clear hK K; try clear hb
 try go_frame
 refine tw 10 rfl fun K hK => ?_
 go_simp
 (first | ((with_reducible refine (T.out _ _ (by assumption)).mono ?_); rintro e w5 ⟨A5, n5, c5, rfl, hb, hn5⟩) | ((with_reducible refine (M.out _ _ (by assumption)).mono ?_); rintro e w6 ⟨b6, A6, n6, c6, rfl, hb, hz6⟩))
 refine hK.out _ _ (hHeld1.next hb) (fun hHeld2 => ?_)
 replace hT0 := hT0.next hb
 clear hK K; try clear hb
 try go_frame
 refine tw 11 rfl fun K hK => ?_
 obtain ⟨⟨t0z0, t0c0, t0f0⟩, ⟨t0z1, t0c1, t0f1⟩, _⟩ := hT0.2; (try simp at t0z0); (try simp at t0c0); (try simp at t0f0); (try simp at t0z1); (try simp at t0c1); (try simp at t0f1)
 go_simp
 refine hK.out _ _ (by first | exact hHeld2.alloc _ | (repeat (first | (with_reducible exact hHeld2) | (with_reducible exact (Keeps.undrewR hHeld2)) | (refine Keeps.set ?_ (by simp <;> omega) (by simp <;> omega) _) | (with_reducible refine Keeps.drew ?_)))) (fun hHeld3 => ?_)
 clear hK K; try clear hb
 try go_frame
 refine wpAnyH_done (by kernel_rfl) ?_ _
 have hHeld := hHeld3
 obtain ⟨⟨_,_,_⟩,⟨_,_,_⟩,⟨_,_,_⟩,⟨_,_,_⟩,_⟩ := hHeld.2
 obtain ⟨d0, d1⟩ := set2 (W := w6) (B := w.heap.size + 1 + 1) (u0 := .bool b6) (u1 := .slice A6 n6 c6) t0c0 t0c1; go_wp2_with fail; refine bodyPost_ret (v := .agg #[.bool b6, .slice A6 n6 c6]) (by simp [results, Tryz.results166, go_sem, d0, d1]) rfl ?_; exact ⟨b6, A6, n6, c6, rfl, hHeld.1, hz6.set2 t0c0 t0c1 _ _⟩

set_option maxRecDepth 100000 in
set_option maxHeartbeats 4000000 in
theorem add_same (p : Bool) (A A' : Option Addr) (n c n' c' : Nat) (m : Nat) (z : Int) (w : World)
  (T : ∀ W L, Keeps w L W → Calls Tryz.prog 138 #[.slice A n c, .slice A' n' c'] W (RetN W m)) (M : ∀ u W, Num W u m → Calls Tryz.prog 135 #[.bool p, u] W (RetZ W z)) :
  Calls Tryz.prog 84 #[.agg #[.bool p, .slice A n c], .agg #[.bool p, .slice A' n' c']] w (RetZ w z) := by
 have T := Lib.hid T
 have M := Lib.hid M
 go_enter Tryz.func84, Tryz.ntmps84
 go_wp2_with fail
 refine region_keepsB (w0 := w) (L := [(w.heap.size, 0, .bool p), (w.heap.size, 1, .slice A n c), (w.heap.size + 1, 0, .bool p), (w.heap.size + 1, 1, .slice A' n' c')]) (M := [(w.heap.size + 1 + 1, 0, .bool false), (w.heap.size + 1 + 1, 1, .slice none 0 0)]) (by kernel_rfl) (by first | exact hHeld | (refine ⟨by go_grown, ?_⟩; simp [Cells, go_sem]; done)) (by first | exact hHeld | (refine ⟨by go_grown, ?_⟩; simp [Cells, go_sem]; done)) (fun hHeld0 hT0 => ?_)
 refine tv 0 10 rfl rfl ?_
 try go_frame
 refine tk 1 11 rfl rfl ?_ ?_ ?_
 rotate_left
 ·intro wq hSw; obtain ⟨⟨_,_,_⟩,⟨_,_,_⟩,⟨_,_,_⟩,⟨_,_,_⟩,_⟩ := hSw.2; go_simp; (try with_reducible rfl)
 try go_frame
 refine tv 2 12 rfl rfl ?_
 try go_frame
 refine tk 3 13 rfl rfl ?_ ?_ ?_
 rotate_left
 ·intro wq hSw; obtain ⟨⟨_,_,_⟩,⟨_,_,_⟩,⟨_,_,_⟩,⟨_,_,_⟩,_⟩ := hSw.2; go_simp; (try with_reducible rfl)
 try go_frame
 refine tv 4 14 rfl rfl ?_
 try go_frame
 refine tk 5 15 rfl rfl ?_ ?_ ?_
 rotate_left
 ·intro wq hSw; obtain ⟨⟨_,_,_⟩,⟨_,_,_⟩,⟨_,_,_⟩,⟨_,_,_⟩,_⟩ := hSw.2; go_simp; (try with_reducible rfl)
 try go_frame
 refine tw 6 rfl fun K hK => ?_
 go_simp
 (first | ((with_reducible refine (T.out _ _ (by assumption)).mono ?_); rintro e w5 ⟨A5, n5, c5, rfl, hb, hn5⟩) | ((with_reducible refine (M.out _ _ (by assumption)).mono ?_); rintro e w6 ⟨b6, A6, n6, c6, rfl, hb, hz6⟩))
 refine hK.out _ _ (hHeld0.next hb) (fun hHeld1 => ?_)
 replace hT0 := hT0.next hb
 clear hK K; try clear hb
 try go_frame
 refine tw 7 rfl fun K hK => ?_
 go_simp
 (first | ((with_reducible refine (T.out _ _ (by assumption)).mono ?_); rintro e w5 ⟨A5, n5, c5, rfl, hb, hn5⟩) | ((with_reducible refine (M.out _ _ (by assumption)).mono ?_); rintro e w6 ⟨b6, A6, n6, c6, rfl, hb, hz6⟩))
 refine hK.out _ _ (hHeld1.next hb) (fun hHeld2 => ?_)
 replace hT0 := hT0.next hb
 clear hK K; try clear hb
 try go_frame
 refine tw 8 rfl fun K hK => ?_
 obtain ⟨⟨t0z0, t0c0, t0f0⟩, ⟨t0z1, t0c1, t0f1⟩, _⟩ := hT0.2; (try simp at t0z0); (try simp at t0c0); (try simp at t0f0); (try simp at t0z1); (try simp at t0c1); (try simp at t0f1)
 go_simp
 refine hK.out _ _ (by first | exact hHeld2.alloc _ | (repeat (first | (with_reducible exact hHeld2) | (with_reducible exact (Keeps.undrewR hHeld2)) | (refine Keeps.set ?_ (by simp <;> omega) (by simp <;> omega) _) | (with_reducible refine Keeps.drew ?_)))) (fun hHeld3 => ?_)
 clear hK K; try clear hb
 try go_frame
 refine wpAnyH_done (by kernel_rfl) ?_ _
 have hHeld := hHeld3
 obtain ⟨⟨_,_,_⟩,⟨_,_,_⟩,⟨_,_,_⟩,⟨_,_,_⟩,_⟩ := hHeld.2
 obtain ⟨d0, d1⟩ := set2 (W := w6) (B := w.heap.size + 1 + 1) (u0 := .bool b6) (u1 := .slice A6 n6 c6) t0c0 t0c1; go_wp2_with fail; refine bodyPost_ret (v := .agg #[.bool b6, .slice A6 n6 c6]) (by simp [results, Tryz.results84, go_sem, d0, d1]) rfl ?_; exact ⟨b6, A6, n6, c6, rfl, hHeld.1, hz6.set2 t0c0 t0c1 _ _⟩
set_option maxRecDepth 100000 in
set_option maxHeartbeats 4000000 in
theorem add_lt (p : Bool) (A A' : Option Addr) (n c n' c' : Nat) (m : Nat) (z : Int) (w : World)
  (LS : ∀ W, Below w.heap.size w W → Calls Tryz.prog 139 #[.slice A n c, .slice A' n' c'] W (Ret W (.bool true)))
  (T : ∀ W L, Keeps w L W → Calls Tryz.prog 136 #[.slice A' n' c', .slice A n c] W (RetN W m)) (M : ∀ u W, Num W u m → Calls Tryz.prog 135 #[.bool (!p), u] W (RetZ W z)) :
  Calls Tryz.prog 84 #[.agg #[.bool p, .slice A n c], .agg #[.bool (!p), .slice A' n' c']] w (RetZ w z) := by
 have T := Lib.hid T
 have M := Lib.hid M
 have LS := Lib.hid LS
 have hpq : (p == !p) = false := by cases p <;> rfl
 generalize (!p) = q at *
 go_enter Tryz.func84, Tryz.ntmps84
 go_wp2_with fail
 refine (LS.out _ (below_thru (below_thru (below_alloc w _) (below_alloc _ _)) (below_alloc _ _))).mono ?_
 rintro e w1 ⟨rfl, hb⟩
 have hHeld : Keeps w [(w.heap.size, 0, .bool p), (w.heap.size, 1, .slice A n c), (w.heap.size + 1, 0, .bool q), (w.heap.size + 1, 1, .slice A' n' c'), (w.heap.size + 1 + 1, 0, .bool false), (w.heap.size + 1 + 1, 1, .slice none 0 0)] _ := Keeps.next (by refine ⟨by go_grown, ?_⟩; simp [Cells, go_sem]) hb
 clear hb
 obtain ⟨⟨kz0,kc0,kf0⟩,⟨kz1,kc1,kf1⟩,⟨kz2,kc2,kf2⟩,⟨kz3,kc3,kf3⟩,⟨kz4,kc4,kf4⟩,⟨kz5,kc5,kf5⟩,_⟩ := hHeld.2
 go_wp2_with fail
 refine region_keepsB (w0 := w) (L := [(w.heap.size, 0, .bool p), (w.heap.size, 1, .slice A n c), (w.heap.size + 1, 0, .bool q), (w.heap.size + 1, 1, .slice A' n' c')]) (M := [(w.heap.size + 1 + 1, 0, .bool false), (w.heap.size + 1 + 1, 1, .slice none 0 0)]) (by kernel_rfl) ⟨hHeld.1, ⟨kz0, kc0, kf0⟩, ⟨kz1, kc1, kf1⟩, ⟨kz2, kc2, kf2⟩, ⟨kz3, kc3, kf3⟩, trivial⟩ ⟨hHeld.1, ⟨kz4, kc4, kf4⟩, ⟨kz5, kc5, kf5⟩, trivial⟩ (fun hHeld0 hT0 => ?_)
 refine tv 0 23 rfl rfl ?_
 try go_frame
 refine tk 1 24 rfl rfl ?_ ?_ ?_
 rotate_left
 ·intro wq hSw; obtain ⟨⟨_,_,_⟩,⟨_,_,_⟩,⟨_,_,_⟩,⟨_,_,_⟩,_⟩ := hSw.2; go_simp; (try with_reducible rfl)
 try go_frame
 refine tv 2 25 rfl rfl ?_
 try go_frame
 refine tk 3 26 rfl rfl ?_ ?_ ?_
 rotate_left
 ·intro wq hSw; obtain ⟨⟨_,_,_⟩,⟨_,_,_⟩,⟨_,_,_⟩,⟨_,_,_⟩,_⟩ := hSw.2; go_simp; (try with_reducible rfl)
 try go_frame
 refine tv 4 27 rfl rfl ?_
 try go_frame
 refine tk 5 28 rfl rfl ?_ ?_ ?_
 rotate_left
 ·intro wq hSw; obtain ⟨⟨_,_,_⟩,⟨_,_,_⟩,⟨_,_,_⟩,⟨_,_,_⟩,_⟩ := hSw.2; go_simp; (try with_reducible rfl)
 try go_frame
 refine tw 6 rfl fun K hK => ?_
 go_simp
 (first | ((with_reducible refine (T.out _ _ (by assumption)).mono ?_); rintro e w5 ⟨A5, n5, c5, rfl, hb, hn5⟩) | ((with_reducible refine (M.out _ _ (by assumption)).mono ?_); rintro e w6 ⟨b6, A6, n6, c6, rfl, hb, hz6⟩))
 refine hK.out _ _ (hHeld0.next hb) (fun hHeld1 => ?_)
 replace hT0 := hT0.next hb
 clear hK K; try clear hb
 try go_frame
 refine tw 7 rfl fun K hK => ?_
 go_simp
 (first | ((with_reducible refine (T.out _ _ (by assumption)).mono ?_); rintro e w5 ⟨A5, n5, c5, rfl, hb, hn5⟩) | ((with_reducible refine (M.out _ _ (by assumption)).mono ?_); rintro e w6 ⟨b6, A6, n6, c6, rfl, hb, hz6⟩))
 refine hK.out _ _ (hHeld1.next hb) (fun hHeld2 => ?_)
 replace hT0 := hT0.next hb
 clear hK K; try clear hb
 try go_frame
 refine tw 8 rfl fun K hK => ?_
 obtain ⟨⟨t0z0, t0c0, t0f0⟩, ⟨t0z1, t0c1, t0f1⟩, _⟩ := hT0.2; (try simp at t0z0); (try simp at t0c0); (try simp at t0f0); (try simp at t0z1); (try simp at t0c1); (try simp at t0f1)
 go_simp
 refine hK.out _ _ (by first | exact hHeld2.alloc _ | (repeat (first | (with_reducible exact hHeld2) | (with_reducible exact (Keeps.undrewR hHeld2)) | (refine Keeps.set ?_ (by simp <;> omega) (by simp <;> omega) _) | (with_reducible refine Keeps.drew ?_)))) (fun hHeld3 => ?_)
 clear hK K; try clear hb
 try go_frame
 refine wpAnyH_done (by kernel_rfl) ?_ _
 have hHeld := hHeld3
 obtain ⟨⟨kz0,kc0,kf0⟩,⟨kz1,kc1,kf1⟩,⟨kz2,kc2,kf2⟩,⟨kz3,kc3,kf3⟩,_⟩ := hHeld.2
 obtain ⟨d0, d1⟩ := set2 (W := w6) (B := w.heap.size + 1 + 1) (u0 := .bool b6) (u1 := .slice A6 n6 c6) t0c0 t0c1; go_wp2_with fail; refine bodyPost_ret (v := .agg #[.bool b6, .slice A6 n6 c6]) (by simp [results, Tryz.results84, go_sem, d0, d1]) rfl ?_; exact ⟨b6, A6, n6, c6, rfl, hHeld.1, hz6.set2 t0c0 t0c1 _ _⟩
set_option maxRecDepth 100000 in
set_option maxHeartbeats 4000000 in
theorem add_ge (p : Bool) (A A' : Option Addr) (n c n' c' : Nat) (m : Nat) (z : Int) (w : World)
  (LS : ∀ W, Below w.heap.size w W → Calls Tryz.prog 139 #[.slice A n c, .slice A' n' c'] W (Ret W (.bool false)))
  (T : ∀ W L, Keeps w L W → Calls Tryz.prog 136 #[.slice A n c, .slice A' n' c'] W (RetN W m)) (M : ∀ u W, Num W u m → Calls Tryz.prog 135 #[.bool p, u] W (RetZ W z)) :
  Calls Tryz.prog 84 #[.agg #[.bool p, .slice A n c], .agg #[.bool (!p), .slice A' n' c']] w (RetZ w z) := by
 have T := Lib.hid T
 have M := Lib.hid M
 have LS := Lib.hid LS
 have hpq : (p == !p) = false := by cases p <;> rfl
 generalize (!p) = q at *
 go_enter Tryz.func84, Tryz.ntmps84
 go_wp2_with fail
 refine (LS.out _ (below_thru (below_thru (below_alloc w _) (below_alloc _ _)) (below_alloc _ _))).mono ?_
 rintro e w1 ⟨rfl, hb⟩
 have hHeld : Keeps w [(w.heap.size, 0, .bool p), (w.heap.size, 1, .slice A n c), (w.heap.size + 1, 0, .bool q), (w.heap.size + 1, 1, .slice A' n' c'), (w.heap.size + 1 + 1, 0, .bool false), (w.heap.size + 1 + 1, 1, .slice none 0 0)] _ := Keeps.next (by refine ⟨by go_grown, ?_⟩; simp [Cells, go_sem]) hb
 clear hb
 obtain ⟨⟨kz0,kc0,kf0⟩,⟨kz1,kc1,kf1⟩,⟨kz2,kc2,kf2⟩,⟨kz3,kc3,kf3⟩,⟨kz4,kc4,kf4⟩,⟨kz5,kc5,kf5⟩,_⟩ := hHeld.2
 go_wp2_with fail
 refine region_keepsB (w0 := w) (L := [(w.heap.size, 0, .bool p), (w.heap.size, 1, .slice A n c), (w.heap.size + 1, 0, .bool q), (w.heap.size + 1, 1, .slice A' n' c')]) (M := [(w.heap.size + 1 + 1, 0, .bool false), (w.heap.size + 1 + 1, 1, .slice none 0 0)]) (by kernel_rfl) ⟨hHeld.1, ⟨kz0, kc0, kf0⟩, ⟨kz1, kc1, kf1⟩, ⟨kz2, kc2, kf2⟩, ⟨kz3, kc3, kf3⟩, trivial⟩ ⟨hHeld.1, ⟨kz4, kc4, kf4⟩, ⟨kz5, kc5, kf5⟩, trivial⟩ (fun hHeld0 hT0 => ?_)
 refine tv 0 31 rfl rfl ?_
 try go_frame
 refine tk 1 32 rfl rfl ?_ ?_ ?_
 rotate_left
 ·intro wq hSw; obtain ⟨⟨_,_,_⟩,⟨_,_,_⟩,⟨_,_,_⟩,⟨_,_,_⟩,_⟩ := hSw.2; go_simp; (try with_reducible rfl)
 try go_frame
 refine tv 2 33 rfl rfl ?_
 try go_frame
 refine tk 3 34 rfl rfl ?_ ?_ ?_
 rotate_left
 ·intro wq hSw; obtain ⟨⟨_,_,_⟩,⟨_,_,_⟩,⟨_,_,_⟩,⟨_,_,_⟩,_⟩ := hSw.2; go_simp; (try with_reducible rfl)
 try go_frame
 refine tv 4 35 rfl rfl ?_
 try go_frame
 refine tk 5 36 rfl rfl ?_ ?_ ?_
 rotate_left
 ·intro wq hSw; obtain ⟨⟨_,_,_⟩,⟨_,_,_⟩,⟨_,_,_⟩,⟨_,_,_⟩,_⟩ := hSw.2; go_simp; (try with_reducible rfl)
 try go_frame
 refine tw 6 rfl fun K hK => ?_
 go_simp
 (first | ((with_reducible refine (T.out _ _ (by assumption)).mono ?_); rintro e w5 ⟨A5, n5, c5, rfl, hb, hn5⟩) | ((with_reducible refine (M.out _ _ (by assumption)).mono ?_); rintro e w6 ⟨b6, A6, n6, c6, rfl, hb, hz6⟩))
 refine hK.out _ _ (hHeld0.next hb) (fun hHeld1 => ?_)
 replace hT0 := hT0.next hb
 clear hK K; try clear hb
 try go_frame
 refine tw 7 rfl fun K hK => ?_
 go_simp
 (first | ((with_reducible refine (T.out _ _ (by assumption)).mono ?_); rintro e w5 ⟨A5, n5, c5, rfl, hb, hn5⟩) | ((with_reducible refine (M.out _ _ (by assumption)).mono ?_); rintro e w6 ⟨b6, A6, n6, c6, rfl, hb, hz6⟩))
 refine hK.out _ _ (hHeld1.next hb) (fun hHeld2 => ?_)
 replace hT0 := hT0.next hb
 clear hK K; try clear hb
 try go_frame
 refine tw 8 rfl fun K hK => ?_
 obtain ⟨⟨t0z0, t0c0, t0f0⟩, ⟨t0z1, t0c1, t0f1⟩, _⟩ := hT0.2; (try simp at t0z0); (try simp at t0c0); (try simp at t0f0); (try simp at t0z1); (try simp at t0c1); (try simp at t0f1)
 go_simp
 refine hK.out _ _ (by first | exact hHeld2.alloc _ | (repeat (first | (with_reducible exact hHeld2) | (with_reducible exact (Keeps.undrewR hHeld2)) | (refine Keeps.set ?_ (by simp <;> omega) (by simp <;> omega) _) | (with_reducible refine Keeps.drew ?_)))) (fun hHeld3 => ?_)
 clear hK K; try clear hb
 try go_frame
 refine wpAnyH_done (by kernel_rfl) ?_ _
 have hHeld := hHeld3
 obtain ⟨⟨kz0,kc0,kf0⟩,⟨kz1,kc1,kf1⟩,⟨kz2,kc2,kf2⟩,⟨kz3,kc3,kf3⟩,_⟩ := hHeld.2
 obtain ⟨d0, d1⟩ := set2 (W := w6) (B := w.heap.size + 1 + 1) (u0 := .bool b6) (u1 := .slice A6 n6 c6) t0c0 t0c1; go_wp2_with fail; refine bodyPost_ret (v := .agg #[.bool b6, .slice A6 n6 c6]) (by simp [results, Tryz.results84, go_sem, d0, d1]) rfl ?_; exact ⟨b6, A6, n6, c6, rfl, hHeld.1, hz6.set2 t0c0 t0c1 _ _⟩
theorem addZ_any (x y : Int) (hx : (sizeL x.natAbs).length ≤ 3999) (hy : (sizeL y.natAbs).length ≤ 3999) (v v' : Value) (w : World) (h : NumZ w v x) (h' : NumZ w v' y) : Calls Tryz.prog 84 #[v, v'] w (RetZ w (x + y)) := by
 obtain ⟨A, n, c, rfl, hn⟩ := h.parts
 obtain ⟨A', n', c', rfl, hn'⟩ := h'.parts
 by_cases g : (x < 0 ↔ y < 0)
 ·have e : decide (y < 0) = decide (x < 0) := decide_eq_decide.2 g.symm
  rw [e]
  refine add_same _ A A' n c n' c' (x.natAbs + y.natAbs) (x + y) w (fun W L hk => (plusN_any x.natAbs y.natAbs (by omega) (by omega) _ _ W (hn.below hk.1) (hn'.below hk.1)).mono fun _ _ h => retN_of h.gave) (fun u W k => made2_any (x + y) (decide (x < 0)) _ (by omega) ?_ u W k)
  rw [Bool.eq_iff_iff]
  simp only [Bool.and_eq_true, decide_eq_true_eq]
  omega
 ·have e : decide (y < 0) = !decide (x < 0) := by rw [Bool.eq_iff_iff]; simp only [Bool.not_eq_true', decide_eq_true_eq, decide_eq_false_iff_not]; omega
  rw [e]
  have LS := fun W (hb : Below w.heap.size w W) => less_any x.natAbs y.natAbs (by omega) (by omega) _ _ W (hn.below hb) (hn'.below hb)
  by_cases gl : x.natAbs < y.natAbs
  ·rw [decide_eq_true gl] at LS
   refine add_lt _ A A' n c n' c' (y.natAbs - x.natAbs) (x + y) w LS (fun W L hk => (minus_any y.natAbs x.natAbs (by omega) (by omega) _ _ W (hn'.below hk.1) (hn.below hk.1)).mono fun _ _ h => retN_of h) (fun u W k => made2_any (x + y) (!decide (x < 0)) _ (by omega) ?_ u W k)
   rw [Bool.eq_iff_iff]
   simp only [Bool.and_eq_true, Bool.not_eq_true', decide_eq_true_eq, decide_eq_false_iff_not]
   omega
  ·rw [decide_eq_false gl] at LS
   refine add_ge _ A A' n c n' c' (x.natAbs - y.natAbs) (x + y) w LS (fun W L hk => (minus_any x.natAbs y.natAbs (by omega) (by omega) _ _ W (hn.below hk.1) (hn'.below hk.1)).mono fun _ _ h => retN_of h) (fun u W k => made2_any (x + y) (decide (x < 0)) _ (by omega) ?_ u W k)
   rw [Bool.eq_iff_iff]
   simp only [Bool.and_eq_true, decide_eq_true_eq]
   omega
end Go.Proofs.YtcfidimnbamnkaaGreat

/-
 The document's own answers, twelfth part: Int, Same, Fits, Value. Conditions: those written at each fact.
-/
namespace Go.Proofs.YtcfidimnbamnkaaGreat
open Go.RowKit

set_option maxRecDepth 100000 in
set_option maxHeartbeats 2000000 in
theorem int_pos (u : Nat) (hu : u ≤ 9223372036854775807) (w : World) : Calls Tryz.prog 83 #[.int .i64 u] w (RetZ w (u : Int)) := by
 have S := Lib.hid (fun W => (size_any u (by omega) W).mono fun _ _ h => retN_of h.gave)
 have M := Lib.hid (fun (s : Value) (W : World) (k : Num W s u) => made2_any (u : Int) false u (Int.natAbs_natCast u) (by rw [sgn_nat]; rfl) s W k)
 have g : ¬ (u : Int) < 0 := by omega
 have hu' : (u : Int) ≤ 9223372036854775807 := by omega
 generalize hz : (u : Int) = z at *
 have g0 : 0 ≤ z := by omega
 clear hz hu
 go_enter Tryz.func83, Tryz.ntmps83
 go_wp2_with fail
 refine (S.out _).mono ?_
 rintro e w1 ⟨A, n, c, rfl, hb1, hn1⟩
 have c0 : w1.cell? ⟨w.heap.size, 0, none⟩ = some (.bool false) := (hb1.cell (p := ⟨w.heap.size, 0, none⟩) (by simp)).trans (by simp [go_sem])
 have c1 : w1.cell? ⟨w.heap.size, 1, none⟩ = some (.slice none 0 0) := (hb1.cell (p := ⟨w.heap.size, 1, none⟩) (by simp)).trans (by simp [go_sem])
 have f0 : w1.frozen? ⟨w.heap.size, 0, none⟩ = false := (hb1.frozen (p := ⟨w.heap.size, 0, none⟩) (by simp)).trans (by simp [go_sem])
 have f1 : w1.frozen? ⟨w.heap.size, 1, none⟩ = false := (hb1.frozen (p := ⟨w.heap.size, 1, none⟩) (by simp)).trans (by simp [go_sem])
 have z1 : w.heap.size < w1.heap.size := by have := hb1.size; simp at this; omega
 have HB := Lib.hid (below_thru (below_alloc w _) hb1)
 have HN := Lib.hid hn1
 clear hb1 hn1
 go_wp2_with fail
 refine (M.out _ _ HN.out).mono ?_
 rintro e w2 ⟨b6, A6, n6, c6, rfl, hb2, hz6⟩
 have t0c0 : w2.cell? ⟨w.heap.size, 0, none⟩ = some (.bool false) := (hb2.cell (p := ⟨w.heap.size, 0, none⟩) z1).trans c0
 have t0c1 : w2.cell? ⟨w.heap.size, 1, none⟩ = some (.slice none 0 0) := (hb2.cell (p := ⟨w.heap.size, 1, none⟩) z1).trans c1
 have k0 : w2.frozen? ⟨w.heap.size, 0, none⟩ = false := (hb2.frozen (p := ⟨w.heap.size, 0, none⟩) z1).trans f0
 have k1 : w2.frozen? ⟨w.heap.size, 1, none⟩ = false := (hb2.frozen (p := ⟨w.heap.size, 1, none⟩) z1).trans f1
 have HB2 := Lib.hid (below_thru HB.out hb2)
 clear hb2 c0 c1 f0 f1
 go_wp2_with fail
 obtain ⟨d0, d1⟩ := set2 (W := w2) (B := w.heap.size) (u0 := .bool b6) (u1 := .slice A6 n6 c6) t0c0 t0c1
 refine bodyPost_ret (v := .agg #[.bool b6, .slice A6 n6 c6]) (by simp [results, Tryz.results83, go_sem, d0, d1]) rfl ?_
 exact ⟨b6, A6, n6, c6, rfl, (HB2.out.setCell (p := ⟨w.heap.size, 0, none⟩) (by simp) _).setCell (p := ⟨w.heap.size, 1, none⟩) (by simp) _, hz6.set2 t0c0 t0c1 _ _⟩
set_option maxRecDepth 100000 in
set_option maxHeartbeats 2000000 in
theorem int_neg (z : Int) (h1 : -9223372036854775808 ≤ z) (h2 : z < 0) (w : World) : Calls Tryz.prog 83 #[.int .i64 z] w (RetZ w z) := by
 obtain ⟨u, hu⟩ : ∃ u : Nat, z + 18446744073709551616 = (u : Int) := ⟨(z + 18446744073709551616).toNat, by omega⟩
 have S := Lib.hid (fun W => (size_any u (by omega) W).mono fun _ _ h => retN_of h.gave)
 have P := Lib.hid (fun W => (power_any 64 (by decide) W).mono fun _ _ h => retN_of h.gave)
 have N := Lib.hid (fun (a b : Value) (W : World) (ka : Num W a (2 ^ 64)) (kb : Num W b u) => (minus_any (2 ^ 64) u (by have := size_pow 64; omega) (by omega) a b W ka kb).mono fun _ _ h => retN_of h)
 have hx : z.natAbs = 2 ^ 64 - u := by omega
 have M := Lib.hid (fun (s : Value) (W : World) (k : Num W s (2 ^ 64 - u)) => made2_any z true (2 ^ 64 - u) hx (by rw [decide_eq_true h2, decide_eq_true (show 2 ^ 64 - u ≠ 0 by omega)]; rfl) s W k)
 have e1 : IntKind.u64.wrap z = (u : Int) := by rw [IntKind.wrap_u64]; omega
 have e2 : z % 18446744073709551616 = (u : Int) := by omega
 generalize 2 ^ 64 - u = m at *
 generalize 2 ^ 64 = pw at *
 clear hu hx
 go_enter Tryz.func83, Tryz.ntmps83
 go_wp2_with fail
 refine (S.out _).mono ?_
 rintro e w1 ⟨A, n, c, rfl, hb1, hn1⟩
 have hHeld : Keeps w [(w.heap.size, 0, .bool false), (w.heap.size, 1, .slice none 0 0)] w1 := Keeps.next (by refine ⟨by go_grown, ?_⟩; simp [Cells, go_sem]) hb1
 have HN := Lib.hid hn1
 clear hb1 hn1
 obtain ⟨⟨kz0, kc0, kf0⟩, ⟨kz1, kc1, kf1⟩, _⟩ := hHeld.2
 go_wp2_with fail
 refine (P.out _).mono ?_
 rintro e w2 ⟨A2, n2, c2, rfl, hb2, hn2⟩
 have HN1 := Lib.hid (HN.out.below hb2)
 have HN2 := Lib.hid hn2
 replace hHeld := hHeld.next hb2
 clear hb2 hn2 kz0 kc0 kf0 kz1 kc1 kf1 HN
 obtain ⟨⟨kz0, kc0, kf0⟩, ⟨kz1, kc1, kf1⟩, _⟩ := hHeld.2
 go_wp2_with fail
 refine (N.out _ _ _ HN2.out HN1.out).mono ?_
 rintro e w3 ⟨A3, n3, c3, rfl, hb3, hn3⟩
 have HN3 := Lib.hid hn3
 replace hHeld := hHeld.next hb3
 clear hb3 hn3 kz0 kc0 kf0 kz1 kc1 kf1 HN1 HN2
 obtain ⟨⟨kz0, kc0, kf0⟩, ⟨kz1, kc1, kf1⟩, _⟩ := hHeld.2
 go_wp2_with fail
 refine (M.out _ _ HN3.out).mono ?_
 rintro e w4 ⟨b6, A6, n6, c6, rfl, hb4, hz6⟩
 replace hHeld := hHeld.next hb4
 clear hb4 kz0 kc0 kf0 kz1 kc1 kf1 HN3
 obtain ⟨⟨kz0, kc0, kf0⟩, ⟨kz1, kc1, kf1⟩, _⟩ := hHeld.2
 go_wp2_with fail
 obtain ⟨d0, d1⟩ := set2 (W := w4) (B := w.heap.size) (u0 := .bool b6) (u1 := .slice A6 n6 c6) kc0 kc1
 refine bodyPost_ret (v := .agg #[.bool b6, .slice A6 n6 c6]) (by simp [results, Tryz.results83, go_sem, d0, d1]) rfl ?_
 exact ⟨b6, A6, n6, c6, rfl, (hHeld.1.setCell (p := ⟨w.heap.size, 0, none⟩) (by simp) _).setCell (p := ⟨w.heap.size, 1, none⟩) (by simp) _, hz6.set2 kc0 kc1 _ _⟩
theorem intZ_any (z : Int) (h1 : -9223372036854775808 ≤ z) (h2 : z ≤ 9223372036854775807) (w : World) : Calls Tryz.prog 83 #[.int .i64 z] w (RetZ w z) := by
 by_cases g : z < 0
 ·exact int_neg z h1 g w
 ·obtain ⟨u, rfl⟩ := Int.eq_ofNat_of_zero_le (show 0 ≤ z by omega)
  exact int_pos u (by omega) w

end Go.Proofs.YtcfidimnbamnkaaGreat

/-
 The document's own answers, thirteenth part: Fits, Value. Conditions: those written at each fact.
-/
namespace Go.Proofs.YtcfidimnbamnkaaGreat
open Go.RowKit

set_option maxRecDepth 100000 in
set_option maxHeartbeats 2000000 in
theorem fits_neg (A : Option Addr) (n c j pw : Nat) (K : Int) (hK : K = (j : Int) + 1) (hj : j ≤ 200) (r : Bool) (w : World)
  (P : ∀ W, Calls Tryz.prog 137 #[.int .i64 j] W (RetN W pw)) (LS : ∀ u W L, Num W u pw → Keeps w L W → Calls Tryz.prog 139 #[u, .slice A n c] W (Ret W (.bool r))) :
  Calls Tryz.prog 140 #[.agg #[.bool true, .slice A n c], .int .i64 K] w (Ret w (.bool (!r))) := by
 have P := Lib.hid P
 have LS := Lib.hid LS
 have e1 : IntKind.i64.wrap (j : Int) = (j : Int) := by rw [IntKind.wrap_i64]; omega
 have e2 : K - 1 = (j : Int) := by omega
 clear hK hj
 go_enter Tryz.func140, Tryz.ntmps140
 go_wp2_with fail
 refine region_keeps (w0 := w) (L := [(w.heap.size, 0, .bool true), (w.heap.size, 1, .slice A n c)]) (by kernel_rfl) (by first | exact hHeld | (refine ⟨by go_grown, ?_⟩; simp [Cells, go_sem]; done)) (fun hHeld0 => ?_)
 refine tv 0 7 rfl rfl ?_
 try go_frame
 refine tv 1 8 rfl rfl ?_
 try go_frame
 refine tv 3 10 rfl rfl ?_
 try go_frame
 refine tk 4 11 rfl rfl ?_ ?_ ?_
 rotate_left
 ·intro wq hSw; obtain ⟨⟨qz0, qc0, qf0⟩, ⟨qz1, qc1, qf1⟩, _⟩ := hSw.2; go_simp; (try with_reducible rfl)
 try go_frame
 refine tw 2 rfl fun K hK => ?_
 go_simp
 (first | ((with_reducible refine (P.out _).mono ?_); rintro e w5 ⟨A5, n5, c5, rfl, hb, hn5⟩) | ((with_reducible refine (LS.out _ _ _ (by assumption) (by assumption)).mono ?_); rintro e w6 ⟨rfl, hb⟩))
 refine hK.out _ _ (hHeld0.next hb) (fun hHeld1 => ?_)
 clear hK K; try clear hb
 try go_frame
 refine tw 5 rfl fun K hK => ?_
 go_simp
 (first | ((with_reducible refine (P.out _).mono ?_); rintro e w5 ⟨A5, n5, c5, rfl, hb, hn5⟩) | ((with_reducible refine (LS.out _ _ _ (by assumption) (by assumption)).mono ?_); rintro e w6 ⟨rfl, hb⟩))
 refine hK.out _ _ (hHeld1.next hb) (fun hHeld2 => ?_)
 clear hK K; try clear hb
 try go_frame
 refine tv 6 13 rfl rfl ?_
 try go_frame
 refine tv 7 4 rfl rfl ?_
 try go_frame
 refine wpAnyH_done (by kernel_rfl) ?_ _
 have hHeld := hHeld2
 obtain ⟨⟨kz0, kc0, kf0⟩, ⟨kz1, kc1, kf1⟩, _⟩ := hHeld.2
 go_wp2_with fail
 go_ret
 exact ⟨rfl, hHeld.1⟩
set_option maxRecDepth 100000 in
set_option maxHeartbeats 2000000 in
theorem fits_pos (A : Option Addr) (n c j pw : Nat) (K : Int) (hK : K = (j : Int) + 1) (hj : j ≤ 200) (r : Bool) (w : World)
  (P : ∀ W, Calls Tryz.prog 137 #[.int .i64 j] W (RetN W pw)) (LS : ∀ u W L, Num W u pw → Keeps w L W → Calls Tryz.prog 139 #[.slice A n c, u] W (Ret W (.bool r))) :
  Calls Tryz.prog 140 #[.agg #[.bool false, .slice A n c], .int .i64 K] w (Ret w (.bool r)) := by
 have P := Lib.hid P
 have LS := Lib.hid LS
 have e1 : IntKind.i64.wrap (j : Int) = (j : Int) := by rw [IntKind.wrap_i64]; omega
 have e2 : K - 1 = (j : Int) := by omega
 clear hK hj
 go_enter Tryz.func140, Tryz.ntmps140
 go_wp2_with fail
 refine region_keeps (w0 := w) (L := [(w.heap.size, 0, .bool false), (w.heap.size, 1, .slice A n c)]) (by kernel_rfl) (by first | exact hHeld | (refine ⟨by go_grown, ?_⟩; simp [Cells, go_sem]; done)) (fun hHeld0 => ?_)
 refine tv 0 14 rfl rfl ?_
 try go_frame
 refine tk 1 15 rfl rfl ?_ ?_ ?_
 rotate_left
 ·intro wq hSw; obtain ⟨⟨qz0, qc0, qf0⟩, ⟨qz1, qc1, qf1⟩, _⟩ := hSw.2; go_simp; (try with_reducible rfl)
 try go_frame
 refine tv 2 16 rfl rfl ?_
 try go_frame
 refine tv 3 17 rfl rfl ?_
 try go_frame
 refine tw 4 rfl fun K hK => ?_
 go_simp
 (first | ((with_reducible refine (P.out _).mono ?_); rintro e w5 ⟨A5, n5, c5, rfl, hb, hn5⟩) | ((with_reducible refine (LS.out _ _ _ (by assumption) (by assumption)).mono ?_); rintro e w6 ⟨rfl, hb⟩))
 refine hK.out _ _ (hHeld0.next hb) (fun hHeld1 => ?_)
 clear hK K; try clear hb
 try go_frame
 refine tw 5 rfl fun K hK => ?_
 go_simp
 (first | ((with_reducible refine (P.out _).mono ?_); rintro e w5 ⟨A5, n5, c5, rfl, hb, hn5⟩) | ((with_reducible refine (LS.out _ _ _ (by assumption) (by assumption)).mono ?_); rintro e w6 ⟨rfl, hb⟩))
 refine hK.out _ _ (hHeld1.next hb) (fun hHeld2 => ?_)
 clear hK K; try clear hb
 try go_frame
 refine tv 6 4 rfl rfl ?_
 try go_frame
 refine wpAnyH_done (by kernel_rfl) ?_ _
 have hHeld := hHeld2
 obtain ⟨⟨kz0, kc0, kf0⟩, ⟨kz1, kc1, kf1⟩, _⟩ := hHeld.2
 go_wp2_with fail
 go_ret
 exact ⟨rfl, hHeld.1⟩
theorem fitsZ_any (z : Int) (j : Nat) (K : Int) (hK : K = (j : Int) + 1) (hj : j ≤ 200) (hl : (sizeL z.natAbs).length ≤ 4000) (v : Value) (w : World) (h : NumZ w v z) :
  Calls Tryz.prog 140 #[v, .int .i64 K] w (Ret w (.bool (decide (-((2 ^ j : Nat) : Int) ≤ z ∧ z < ((2 ^ j : Nat) : Int))))) := by
 obtain ⟨A, n, c, rfl, hn⟩ := h.parts
 have P := fun W => (power_any j (by omega) W).mono fun _ _ (h : Made W _ _ _) => retN_of h.gave
 have hp := size_pow j
 by_cases g : z < 0
 ·have e : decide (-((2 ^ j : Nat) : Int) ≤ z ∧ z < ((2 ^ j : Nat) : Int)) = !decide (2 ^ j < z.natAbs) := by
   have := Nat.two_pow_pos j
   rw [Bool.eq_iff_iff]; simp only [Bool.not_eq_true', decide_eq_false_iff_not, decide_eq_true_eq]
   generalize 2 ^ j = q at *
   omega
  rw [e, decide_eq_true g]
  exact fits_neg A n c j _ K hK hj _ w P (fun u W L k hk => less_any (2 ^ j) z.natAbs (by omega) hl u _ W k (hn.below hk.1))
 ·have e : decide (-((2 ^ j : Nat) : Int) ≤ z ∧ z < ((2 ^ j : Nat) : Int)) = decide (z.natAbs < 2 ^ j) := by
   rw [Bool.eq_iff_iff]; simp only [decide_eq_true_eq]
   generalize 2 ^ j = q at *
   omega
  rw [e, decide_eq_false g]
  exact fits_pos A n c j _ K hK hj _ w P (fun u W L k hk => less_any z.natAbs (2 ^ j) hl (by omega) _ u W (hn.below hk.1) k)

set_option maxRecDepth 100000 in
set_option maxHeartbeats 2000000 in
theorem value_no (p : Bool) (A : Option Addr) (n c : Nat) (w : World) (F : ∀ W, Below w.heap.size w W → Calls Tryz.prog 140 #[.agg #[.bool p, .slice A n c], .int .i64 64] W (Ret W (.bool false))) :
  Calls Tryz.prog 120 #[.agg #[.bool p, .slice A n c]] w (Ret w (.tuple #[.int .i64 0, .bool false])) := by
 have F := Lib.hid F
 go_enter Tryz.func120, Tryz.ntmps120
 go_wp2_with fail
 refine (F.out _ (below_alloc w _)).mono ?_
 rintro e w1 ⟨rfl, hb1⟩
 have HB := Lib.hid (below_thru (below_alloc w _) hb1)
 clear hb1
 go_wp2_with fail
 go_ret2
 exact ⟨rfl, HB.out⟩
set_option maxRecDepth 100000 in
set_option maxHeartbeats 2000000 in
theorem value_pos (A : Option Addr) (n c : Nat) (z : Int) (h0 : 0 ≤ z) (hz : z ≤ 9223372036854775807) (w : World) (F : ∀ W, Below w.heap.size w W → Calls Tryz.prog 140 #[.agg #[.bool false, .slice A n c], .int .i64 64] W (Ret W (.bool true)))
  (WD : ∀ W, Below w.heap.size w W → Calls Tryz.prog 141 #[.slice A n c, .int .i64 0] W (Ret W (.int .u64 z))) :
  Calls Tryz.prog 120 #[.agg #[.bool false, .slice A n c]] w (Ret w (.tuple #[.int .i64 z, .bool true])) := by
 have F := Lib.hid F
 have WD := Lib.hid WD
 go_enter Tryz.func120, Tryz.ntmps120
 go_wp2_with fail
 refine (F.out _ (below_alloc w _)).mono ?_
 rintro e w1 ⟨rfl, hb⟩
 have hHeld : Keeps w [(w.heap.size, 0, .bool false), (w.heap.size, 1, .slice A n c)] _ := Keeps.next (by refine ⟨by go_grown, ?_⟩; simp [Cells, go_sem]) hb
 clear hb
 obtain ⟨⟨kz0, kc0, kf0⟩, ⟨kz1, kc1, kf1⟩, _⟩ := hHeld.2
 go_wp2_with fail
 refine (WD.out _ hHeld.1).mono ?_
 rintro e w2 ⟨rfl, hb⟩
 replace hHeld := Keeps.next (hHeld) hb
 clear hb kz0 kc0 kf0 kz1 kc1 kf1
 obtain ⟨⟨kz0, kc0, kf0⟩, ⟨kz1, kc1, kf1⟩, _⟩ := hHeld.2
 go_wp2_with fail
 go_ret2
 exact ⟨rfl, hHeld.1⟩
set_option maxRecDepth 100000 in
set_option maxHeartbeats 2000000 in
theorem value_neg (A : Option Addr) (n c pw m : Nat) (z y : Int) (hw : IntKind.i64.wrap y = z) (w : World) (F : ∀ W, Below w.heap.size w W → Calls Tryz.prog 140 #[.agg #[.bool true, .slice A n c], .int .i64 64] W (Ret W (.bool true)))
  (P : ∀ W, Calls Tryz.prog 137 #[.int .i64 64] W (RetN W pw)) (MN : ∀ u W, Below w.heap.size w W → Num W u pw → Calls Tryz.prog 136 #[u, .slice A n c] W (RetN W m))
  (WD : ∀ u W, Num W u m → Calls Tryz.prog 141 #[u, .int .i64 0] W (Ret W (.int .u64 y))) :
  Calls Tryz.prog 120 #[.agg #[.bool true, .slice A n c]] w (Ret w (.tuple #[.int .i64 z, .bool true])) := by
 have F := Lib.hid F
 have P := Lib.hid P
 have MN := Lib.hid MN
 have WD := Lib.hid WD
 have hw2 : wrap64 y = z := by rw [← hw, IntKind.wrap_i64]; unfold wrap64; omega
 go_enter Tryz.func120, Tryz.ntmps120
 go_wp2_with fail
 refine (F.out _ (below_alloc w _)).mono ?_
 rintro e w1 ⟨rfl, hb⟩
 have hHeld : Keeps w [(w.heap.size, 0, .bool true), (w.heap.size, 1, .slice A n c)] _ := Keeps.next (by refine ⟨by go_grown, ?_⟩; simp [Cells, go_sem]) hb
 clear hb
 obtain ⟨⟨kz0, kc0, kf0⟩, ⟨kz1, kc1, kf1⟩, _⟩ := hHeld.2
 go_wp2_with fail
 refine (P.out _).mono ?_
 rintro e w2 ⟨A2, n2, c2, rfl, hb, hn2⟩
 have HN2 := Lib.hid hn2
 replace hHeld := hHeld.next hb
 clear hb hn2 kz0 kc0 kf0 kz1 kc1 kf1
 obtain ⟨⟨kz0, kc0, kf0⟩, ⟨kz1, kc1, kf1⟩, _⟩ := hHeld.2
 go_wp2_with fail
 refine (MN.out _ _ hHeld.1 HN2.out).mono ?_
 rintro e w3 ⟨A3, n3, c3, rfl, hb, hn3⟩
 have HN3 := Lib.hid hn3
 replace hHeld := hHeld.next hb
 clear hb hn3 kz0 kc0 kf0 kz1 kc1 kf1 HN2
 go_wp2_with fail
 refine (WD.out _ _ HN3.out).mono ?_
 rintro e w4 ⟨rfl, hb⟩
 replace hHeld := hHeld.next hb
 clear hb HN3
 go_wp2_with fail
 go_ret2
 exact ⟨rfl, hHeld.1⟩
def valueV (z : Int) : Int := if -9223372036854775808 ≤ z ∧ z < 9223372036854775808 then z else 0
def valueB (z : Int) : Bool := decide (-9223372036854775808 ≤ z ∧ z < 9223372036854775808)
theorem valueZ_any (z : Int) (hl : (sizeL z.natAbs).length ≤ 4000) (v : Value) (w : World) (h : NumZ w v z) : Calls Tryz.prog 120 #[v] w (Ret w (.tuple #[.int .i64 (valueV z), .bool (valueB z)])) := by
 have F := fun W (hb : Below w.heap.size w W) => fitsZ_any z 63 64 (by decide) (by decide) hl v W (h.below hb)
 have e63 : ((2 ^ 63 : Nat) : Int) = 9223372036854775808 := by decide
 rw [e63] at F
 obtain ⟨A, n, c, rfl, hn⟩ := h.parts
 unfold valueV valueB
 by_cases g : -9223372036854775808 ≤ z ∧ z < 9223372036854775808
 ·rw [decide_eq_true g] at F ⊢
  rw [if_pos g]
  by_cases s : z < 0
  ·rw [decide_eq_true s] at F ⊢
   have hm : (2 ^ 64 - z.natAbs) < 2 ^ 64 := by omega
   refine value_neg A n c (2 ^ 64) (2 ^ 64 - z.natAbs) z (((2 ^ 64 - z.natAbs) / 2 ^ 0 % 18446744073709551616 : Nat) : Int) ?_ w F
    (fun W => (power_any 64 (by decide) W).mono fun _ _ (h : Made W _ _ _) => retN_of h.gave)
    (fun u W hb k => (minus_any (2 ^ 64) z.natAbs (by have := size_pow 64; omega) (by omega) u _ W k (hn.below hb)).mono fun _ _ h => retN_of h)
    (fun u W k => word_any _ 0 (by decide) u W k (by have := sizeL_length 64 (2 ^ 64 - z.natAbs) hm; omega))
   rw [IntKind.wrap_i64]
   omega
  ·rw [decide_eq_false s] at F ⊢
   refine value_pos A n c z (by omega) (by omega) w F (fun W hb => ?_)
   have := word_any z.natAbs 0 (by decide) _ W (hn.below hb) (by omega)
   rw [show ((z.natAbs / 2 ^ 0 % 18446744073709551616 : Nat) : Int) = z by omega] at this
   exact this
 ·rw [decide_eq_false g] at F ⊢
  rw [if_neg g]
  exact value_no _ A n c w F
end Go.Proofs.YtcfidimnbamnkaaGreat
