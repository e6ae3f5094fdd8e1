/-
 Plain facts on how far a number is from 0, and on products, as words: no program in sight. Conditions: none beyond those written at each fact.
-/
import Derived.Test.YtcfidimnbamnkaaGreatKitW
import Derived.Maps.RangeWalk
import Derived.Test.YtcfidimnbamnkaaGreatNum
import Derived.Test.YtcfidimnbamnkaaGreatChecked
import Derived.Test.YtcfidimnbamnkaaGreatShelf
import Derived.Test.YtcfidimnbamnkaaGreatKitX
import Derived.Lib.BitFns
import Derived.Lib.ItoaNum
import Derived.Deep.CutBlock
import Derived.Deep.LoopGhost
namespace Go.Proofs.YtcfidimnbamnkaaGreat
open Go.RowKit

def mag (z : Int) : Int := if z < 0 then -z else z
def dh (n : Int) : Int := n / 18446744073709551616
def dl (n : Int) : Int := n % 18446744073709551616
def nhi (hi lo : Int) : Int := (0 - hi - bor 0 lo) % 18446744073709551616
def nlo (lo : Int) : Int := (0 - lo) % 18446744073709551616

theorem mag_nonneg (z : Int) : 0 ≤ mag z := by unfold mag; split <;> omega
theorem mag_fits {z : Int} (h : Fits z) : mag z ≤ 170141183460469231731687303715884105728 := by unfold mag; unfold Fits at h; split <;> omega
theorem dh_u64 {n : Int} (h0 : 0 ≤ n) (h1 : n < 340282366920938463463374607431768211456) : U64 (dh n) := by unfold dh U64; omega
theorem dl_u64 (n : Int) : U64 (dl n) := by unfold dl U64; omega
theorem val_d (n : Int) : val (dh n) (dl n) = n := by unfold val dh dl; omega
theorem wrap_u64_u64 (x : Int) : U64 (IntKind.u64.wrap x) := by rw [IntKind.wrap_u64]; unfold U64; omega

theorem far_pos {hi lo : Int} (h : I64 hi) (k : U64 lo) (g : decide (hi < 0) = false) : IntKind.u64.wrap hi = dh (mag (val hi lo)) ∧ lo = dl (mag (val hi lo)) := by
 simp only [decide_eq_false_iff_not] at g
 obtain ⟨_, _⟩ := h; obtain ⟨_, _⟩ := k
 rw [IntKind.wrap_u64]; unfold mag dh dl val
 constructor <;> split <;> omega
theorem far_neg {hi lo : Int} (h : I64 hi) (k : U64 lo) (g : decide (hi < 0) = true) : nhi (IntKind.u64.wrap hi) lo = dh (mag (val hi lo)) ∧ nlo lo = dl (mag (val hi lo)) := by
 simp only [decide_eq_true_eq] at g
 obtain ⟨_, _⟩ := h; obtain ⟨_, _⟩ := k
 rw [IntKind.wrap_u64]; unfold mag dh dl val nhi nlo bor
 constructor <;> (repeat split) <;> omega

theorem times_words {h l n : Int} (hh : U64 h) (hl : U64 l) (hn : U64 n) :
  (h * n % 18446744073709551616 + l * n / 18446744073709551616) % 18446744073709551616 = dh (val h l * n % 340282366920938463463374607431768211456) ∧
  l * n % 18446744073709551616 = dl (val h l * n % 340282366920938463463374607431768211456) ∧
  IntKind.u64.wrap (h * n / 18446744073709551616 + (h * n % 18446744073709551616 + l * n / 18446744073709551616) / 18446744073709551616) = val h l * n / 340282366920938463463374607431768211456 := by
 have e : val h l * n = h * n * 18446744073709551616 + l * n := by
  unfold val; rw [Int.add_mul, Int.mul_right_comm]
 rw [e]
 have b1 : 0 ≤ h * n := Int.mul_nonneg hh.1 hn.1
 have b2 : 0 ≤ l * n := Int.mul_nonneg hl.1 hn.1
 have b3 : h * n ≤ 18446744073709551615 * 18446744073709551615 := Int.mul_le_mul (by have := hh.2; omega) (by have := hn.2; omega) hn.1 (by decide)
 have b4 : l * n ≤ 18446744073709551615 * 18446744073709551615 := Int.mul_le_mul (by have := hl.2; omega) (by have := hn.2; omega) hn.1 (by decide)
 generalize h * n = A at *
 generalize l * n = B at *
 rw [IntKind.wrap_u64]
 unfold dh dl
 refine ⟨?_, ?_, ?_⟩ <;> omega

def sgn (b : Bool) (n : Int) : Int := if b then -n else n
def sfit (b : Bool) (h l : Int) : Bool := decide (h < 9223372036854775808) || b && (h == 9223372036854775808 && l == 0)
def shi (b : Bool) (h l : Int) : Int := wrap64 (if b then nhi h l else h)
def slo (b : Bool) (l : Int) : Int := if b then nlo l else l
theorem signed_yes {b : Bool} {h l : Int} (hh : U64 h) (hl : U64 l) (g : sfit b h l = true) : Fits (sgn b (val h l)) ∧ shi b h l = rhi (sgn b (val h l)) ∧ slo b l = rlo (sgn b (val h l)) := by
 obtain ⟨_, _⟩ := hh; obtain ⟨_, _⟩ := hl
 have f : Fits (sgn b (val h l)) := by
  unfold sfit at g; unfold sgn Fits val
  cases b <;> simp at g ⊢ <;> omega
 refine ⟨f, ?_⟩
 unfold rhi rlo; rw [if_pos f, if_pos f]
 unfold shi slo wrap64
 unfold Fits at f
 unfold sgn val at *
 cases b
 ·simp at f ⊢; omega
 ·simp at f ⊢; unfold nhi nlo bor; constructor <;> (repeat split) <;> omega
theorem signed_no {b : Bool} {h l : Int} (hh : U64 h) (hl : U64 l) (g : sfit b h l = false) : ¬ Fits (sgn b (val h l)) := by
 obtain ⟨_, _⟩ := hh; obtain ⟨_, _⟩ := hl
 unfold sfit at g; unfold sgn Fits val
 cases b <;> simp at g ⊢ <;> omega
theorem val_neg {hi lo : Int} (k : U64 lo) : val hi lo < 0 ↔ hi < 0 := by unfold val; obtain ⟨_, _⟩ := k; omega
theorem mul_sgn (M n : Int) : M * n = sgn (!decide (M < 0) == decide (n < 0)) (mag M * mag n) := by
 unfold sgn mag
 by_cases a : M < 0 <;> by_cases b : n < 0 <;> simp [a, b, Int.neg_mul, Int.mul_neg]
theorem scale_math {M n : Int} {bb f o : Bool} (hbb : bb = (!decide (M < 0) == decide (n < 0)))
  (hf : sfit bb (dh (mag M * mag n % 340282366920938463463374607431768211456)) (dl (mag M * mag n % 340282366920938463463374607431768211456)) = f)
  (ho : (mag M * mag n / 340282366920938463463374607431768211456 == 0) = o) :
  (if f && o then shi bb (dh (mag M * mag n % 340282366920938463463374607431768211456)) (dl (mag M * mag n % 340282366920938463463374607431768211456)) else 0) = rhi (M * n) ∧
  (if f && o then slo bb (dl (mag M * mag n % 340282366920938463463374607431768211456)) else 0) = rlo (M * n) ∧ (if f && o then (0 : Int) else 5) = rcode (M * n) := by
 rw [mul_sgn M n, ← hbb]
 have hp : 0 ≤ mag M * mag n := Int.mul_nonneg (mag_nonneg _) (mag_nonneg _)
 generalize mag M * mag n = p at *
 cases o with
 | false =>
  have h1 : p / 340282366920938463463374607431768211456 ≠ 0 := by simpa using ho
  have nf : ¬ Fits (sgn bb p) := by unfold Fits sgn; cases bb <;> simp <;> omega
  simp [rhi, rlo, rcode, nf]
 | true =>
  have h1 : p / 340282366920938463463374607431768211456 = 0 := by simpa using ho
  have e : p % 340282366920938463463374607431768211456 = p := by omega
  rw [e] at hf ⊢
  have u1 : U64 (dh p) := dh_u64 hp (by omega)
  cases f with
  | true =>
   obtain ⟨y1, y2, y3⟩ := signed_yes u1 (dl_u64 p) hf
   rw [val_d] at y1 y2 y3
   simp [y2, y3, rcode, y1]
  | false =>
   have nf := signed_no u1 (dl_u64 p) hf
   rw [val_d] at nf
   simp [rhi, rlo, rcode, nf]
attribute [irreducible] mag dh dl nhi nlo sgn sfit shi slo
end Go.Proofs.YtcfidimnbamnkaaGreat

/-
 What each call of package wide answers, for all arguments. Conditions: the words of a number are of 64 bits.
-/
namespace Go.Proofs.YtcfidimnbamnkaaGreat
open Go.RowKit Go.Shelf

theorem add64 (x y c : Int) (hx : 0 ≤ x) (hy : 0 ≤ y) (hc0 : 0 ≤ c) (hc : c ≤ 1) (w : World) : (callFunc 147 #[.int .u64 x, .int .u64 y, .int .u64 c]).run Tryz.prog w =
  .ok (.value (.tuple #[.int .u64 ((x + y + c) % 18446744073709551616), .int .u64 ((x + y + c) / 18446744073709551616)])) w := by
 obtain ⟨x, rfl⟩ := Int.eq_ofNat_of_zero_le hx
 obtain ⟨y, rfl⟩ := Int.eq_ofNat_of_zero_le hy
 obtain ⟨c, rfl⟩ := Int.eq_ofNat_of_zero_le hc0
 refine (Any7.bits_Add64 Tryz.lays25 x y c (by omega) w).trans ?_
 congr 5 <;> omega
theorem sub64 (x y b : Int) (hx : 0 ≤ x) (hy : 0 ≤ y) (hy' : y < 18446744073709551616) (hb0 : 0 ≤ b) (hb : b ≤ 1) (w : World) : (callFunc 89 #[.int .u64 x, .int .u64 y, .int .u64 b]).run Tryz.prog w =
  .ok (.value (.tuple #[.int .u64 ((x - y - b) % 18446744073709551616), .int .u64 (bor x (y + b))])) w := by
 obtain ⟨x, rfl⟩ := Int.eq_ofNat_of_zero_le hx
 obtain ⟨y, rfl⟩ := Int.eq_ofNat_of_zero_le hy
 obtain ⟨b, rfl⟩ := Int.eq_ofNat_of_zero_le hb0
 have e1 : (((x + 18446744073709551616 - y - b) % 18446744073709551616 : Nat) : Int) = ((x : Int) - y - b) % 18446744073709551616 := by omega
 have e2 : ((if x < y + b then 1 else 0 : Nat) : Int) = bor (x : Int) (y + b) := by unfold bor; split <;> split <;> omega
 rw [← e1, ← e2]
 exact Any7.bits_Sub64 Tryz.lays26 x y b (by omega) w
theorem add64_0 (x y : Int) (hx : 0 ≤ x) (hy : 0 ≤ y) (w : World) : (callFunc 147 #[.int .u64 x, .int .u64 y, .int .u64 0]).run Tryz.prog w =
  .ok (.value (.tuple #[.int .u64 ((x + y) % 18446744073709551616), .int .u64 ((x + y) / 18446744073709551616)])) w := by
 simpa using add64 x y 0 hx hy (Int.le_refl 0) (by decide) w
theorem sub64_0 (x y : Int) (hx : 0 ≤ x) (hy : 0 ≤ y) (hy' : y < 18446744073709551616) (w : World) : (callFunc 89 #[.int .u64 x, .int .u64 y, .int .u64 0]).run Tryz.prog w =
  .ok (.value (.tuple #[.int .u64 ((x - y) % 18446744073709551616), .int .u64 (bor x y)])) w := by
 simpa using sub64 x y 0 hx hy hy' (Int.le_refl 0) (by decide) w

theorem below_any (hi lo : Int) (w : World) :
  Calls Tryz.prog 90 #[wideV hi lo] w (Ret w (.bool (decide (hi < 0)))) := by
 go_enter Tryz.func90, Tryz.ntmps90
 go_wp2
 go_ret
 exact ⟨rfl, by go_grown⟩
theorem ifRoomW_yes (hi lo : Int) (w : World) :
  Calls Tryz.prog 91 #[wideV hi lo, .bool true] w (Ret w (.tuple #[wideV hi lo, .int .i64 0])) := by
 go_enter Tryz.func91, Tryz.ntmps91
 go_wp2
 go_returns
 exact ⟨rfl, by go_grown⟩
theorem ifRoomW_no (hi lo : Int) (w : World) :
  Calls Tryz.prog 91 #[wideV hi lo, .bool false] w (Ret w (.tuple #[wideV 0 0, .int .i64 5])) := by
 go_enter Tryz.func91, Tryz.ntmps91
 go_wp2
 go_returns
 exact ⟨rfl, by go_grown⟩
theorem ifRoomI_yes (n : Int) (w : World) :
  Calls Tryz.prog 263 #[.int .i64 n, .bool true] w (Ret w (.tuple #[.int .i64 n, .int .i64 0])) := by
 go_enter Tryz.func263, Tryz.ntmps263
 go_wp2
 go_returns
 exact ⟨rfl, by go_grown⟩
theorem ifRoomI_no (n : Int) (w : World) :
  Calls Tryz.prog 263 #[.int .i64 n, .bool false] w (Ret w (.tuple #[.int .i64 0, .int .i64 5])) := by
 go_enter Tryz.func263, Tryz.ntmps263
 go_wp2
 go_returns
 exact ⟨rfl, by go_grown⟩
theorem of_any (n : Int) (h : I64 n) (w : World) :
  Calls Tryz.prog 36 #[.int .i64 n] w (Ret w (wideV (rhi n) (rlo n))) := by
 obtain ⟨h1, h2⟩ := h
 have e1 : rhi n = n / 9223372036854775808 := by unfold rhi; rw [if_pos (by unfold Fits; omega)]; omega
 have e2 : rlo n = IntKind.u64.wrap n := by unfold rlo; rw [if_pos (by unfold Fits; omega), IntKind.wrap_u64]
 rw [e1, e2]
 clear e1 e2
 go_enter Tryz.func36, Tryz.ntmps36
 go_wp2
 go_returns
 exact ⟨rfl, by go_grown⟩
theorem mirror_any (hi lo : Int) (h : I64 hi) (k : U64 lo) (w : World) :
  Calls Tryz.prog 262 #[wideV hi lo] w (Ret w (wideV (-1 - hi) (18446744073709551615 - lo))) := by
 rw [← not_i64 hi h, ← not_u64 lo k]
 go_enter Tryz.func262, Tryz.ntmps262
 go_wp2
 all_goals (first | (go_returns; exact ⟨rfl, by go_grown⟩) | (exfalso; revert ‹¬ _›; decide) | (exfalso; revert ‹_ = true›; decide))
theorem negative_any (hi lo : Int) (h : U64 hi) (k : U64 lo) (w : World) :
  Calls Tryz.prog 183 #[distV hi lo] w (Ret w (distV (nhi hi lo) (nlo lo))) := by
 obtain ⟨h1, h2⟩ := h
 obtain ⟨h3, h4⟩ := k
 have k0 : 0 ≤ bor 0 lo := by unfold bor; split <;> decide
 have k1 : bor 0 lo ≤ 1 := by unfold bor; split <;> decide
 have q1 := sub64 0 hi (bor 0 lo) (by decide) h1 h2 k0 k1
 have q0 := sub64_0 0 lo (by decide) h3 h4
 unfold nhi nlo
 generalize bor 0 lo = b at *
 generalize bor 0 (hi + b) = b' at *
 generalize (0 - hi - b) % 18446744073709551616 = x at *
 generalize (0 - lo) % 18446744073709551616 = y at *
 have Q1 := Lib.hid q1
 have Q0 := Lib.hid q0
 clear q1 q0
 go_enter Tryz.func183, Tryz.ntmps183
 go_wp2_with (first | simp only [Q0.out] | simp only [Q1.out])
 go_returns
 exact ⟨rfl, by go_grown⟩
end Go.Proofs.YtcfidimnbamnkaaGreat

/-
 More of what package wide answers: differences. Conditions: the words of a number are of 64 bits.
-/
namespace Go.Proofs.YtcfidimnbamnkaaGreat
open Go.RowKit Go.Shelf

theorem below_is (hi lo : Int) (b : Bool) (h : decide (hi < 0) = b) (w : World) :
  Calls Tryz.prog 90 #[wideV hi lo] w (Ret w (.bool b)) := by
 subst h; exact below_any hi lo w
end Go.Proofs.YtcfidimnbamnkaaGreat

/-
 More of what package wide answers: how far a number is from 0, products. Conditions: the words of a number are of 64 bits.
-/
namespace Go.Proofs.YtcfidimnbamnkaaGreat
open Go.RowKit Go.Shelf

theorem far_any (hi lo : Int) (h : I64 hi) (k : U64 lo) (w : World) :
  Calls Tryz.prog 143 #[wideV hi lo] w (Ret w (distV (dh (mag (val hi lo))) (dl (mag (val hi lo))))) := by
 cases g : decide (hi < 0)
 ·obtain ⟨e1, e2⟩ := far_pos h k g
  rw [← e1, ← e2]
  clear e1 e2
  have G := Lib.hid g
  clear g
  go_enter Tryz.func143, Tryz.ntmps143
  go_wp2_with fail
  refine (below_is hi lo false G.out _).mono ?_
  rintro e w1 ⟨rfl, hb⟩
  have hHeld : Keeps w [(w.heap.size, 0, .int .i64 hi), (w.heap.size, 1, .int .u64 lo), (w.heap.size + 1, 0, .int .u64 0), (w.heap.size + 1, 1, .int .u64 0)] _ := Keeps.next (by refine ⟨by go_grown, ?_⟩; simp [Cells, go_sem]) hb
  clear hb
  obtain ⟨⟨kz0,kc0,kf0⟩,⟨kz1,kc1,kf1⟩,⟨kz2,kc2,kf2⟩,⟨kz3,kc3,kf3⟩,_⟩ := hHeld.2
  go_wp2_with fail
  refine bodyPost_ret (v := distV (IntKind.u64.wrap hi) lo) (by simp [results, Tryz.results143, go_sem, kc2, kc3]) rfl ?_
  exact ⟨rfl, by first | (with_reducible exact hHeld.1) | (have hB := hHeld.1; have hz := hB.size; go_grown)⟩
 ·obtain ⟨e1, e2⟩ := far_neg h k g
  rw [← e1, ← e2]
  clear e1 e2
  have G := Lib.hid g
  clear g
  go_enter Tryz.func143, Tryz.ntmps143
  go_wp2_with fail
  refine (below_is hi lo true G.out _).mono ?_
  rintro e w1 ⟨rfl, hb⟩
  have hHeld : Keeps w [(w.heap.size, 0, .int .i64 hi), (w.heap.size, 1, .int .u64 lo), (w.heap.size + 1, 0, .int .u64 0), (w.heap.size + 1, 1, .int .u64 0)] _ := Keeps.next (by refine ⟨by go_grown, ?_⟩; simp [Cells, go_sem]) hb
  clear hb
  obtain ⟨⟨kz0,kc0,kf0⟩,⟨kz1,kc1,kf1⟩,⟨kz2,kc2,kf2⟩,⟨kz3,kc3,kf3⟩,_⟩ := hHeld.2
  go_wp2_with fail
  refine (negative_any _ _ (wrap_u64_u64 _) k _).mono ?_
  rintro e w2 ⟨rfl, hb⟩
  replace hHeld := Keeps.next (hHeld) hb
  clear hb kz0 kc0 kf0 kz1 kc1 kf1 kz2 kc2 kf2 kz3 kc3 kf3
  obtain ⟨⟨kz0,kc0,kf0⟩,⟨kz1,kc1,kf1⟩,⟨kz2,kc2,kf2⟩,⟨kz3,kc3,kf3⟩,_⟩ := hHeld.2
  go_wp2_with fail
  refine bodyPost_ret (v := distV (nhi (IntKind.u64.wrap hi) lo) (nlo lo)) (by simp [results, Tryz.results143, go_sem, kc2, kc3]) rfl ?_
  exact ⟨rfl, by first | (with_reducible exact hHeld.1) | (have hB := hHeld.1; have hz := hB.size; go_grown)⟩

theorem mul64 (x y : Int) (hx : U64 x) (hy : U64 y) (w : World) :
  Calls Tryz.prog 184 #[.int .u64 x, .int .u64 y] w fun e w' => e = .returned (.tuple #[.int .u64 (x * y / 18446744073709551616), .int .u64 (x * y % 18446744073709551616)]) ∧ w' = w := by
 obtain ⟨x0, x1⟩ := hx
 obtain ⟨y0, y1⟩ := hy
 obtain ⟨x, rfl⟩ := Int.eq_ofNat_of_zero_le x0
 obtain ⟨y, rfl⟩ := Int.eq_ofNat_of_zero_le y0
 refine (Tryz.bits_Mul64 x y (by omega) (by omega) w).mono ?_
 rintro e w' ⟨rfl, rfl⟩
 refine ⟨?_, rfl⟩
 congr 5 <;> (push_cast; rfl)

theorem times_any (h l n : Int) (hh : U64 h) (hl : U64 l) (hn : U64 n) (w : World) :
  Calls Tryz.prog 144 #[distV h l, .int .u64 n] w (Ret w (.tuple #[distV (dh (val h l * n % 340282366920938463463374607431768211456)) (dl (val h l * n % 340282366920938463463374607431768211456)), .int .u64 (val h l * n / 340282366920938463463374607431768211456)])) := by
 obtain ⟨e1, e2, e3⟩ := times_words hh hl hn
 rw [← e1, ← e2, ← e3]
 clear e1 e2 e3
 have m1 := mul64 l n hl hn
 have m2 := mul64 h n hh hn
 have a0 := add64_0 (h * n % 18446744073709551616) (l * n / 18446744073709551616) (by omega) (by
  have := Int.mul_nonneg hl.1 hn.1; omega)
 clear hh hl hn
 generalize h * n % 18446744073709551616 = c at *
 generalize l * n / 18446744073709551616 = d at *
 generalize (c + d) % 18446744073709551616 = e at *
 generalize (c + d) / 18446744073709551616 = f at *
 generalize h * n / 18446744073709551616 = g at *
 generalize l * n % 18446744073709551616 = k at *
 have M1 := Lib.hid m1
 have M2 := Lib.hid m2
 have A0 := Lib.hid a0
 clear m1 m2 a0
 go_enter Tryz.func144, Tryz.ntmps144
 go_wp2_with fail
 refine (M1.out _).mono ?_
 rintro e' w1 ⟨rfl, rfl⟩
 go_wp2_with fail
 refine (M2.out _).mono ?_
 rintro e' w2 ⟨rfl, rfl⟩
 go_wp2_with (simp only [A0.out])
 go_returns
 exact ⟨rfl, by go_grown⟩
end Go.Proofs.YtcfidimnbamnkaaGreat

/-
 More of what package wide answers: the number that is so far from 0, on one side. Conditions: words are of 64 bits.
-/
namespace Go.Proofs.YtcfidimnbamnkaaGreat
open Go.RowKit Go.Shelf

set_option maxHeartbeats 1600000 in
theorem signed_any (b : Bool) (h l : Int) (hh : U64 h) (hl : U64 l) (w : World) :
  Calls Tryz.prog 145 #[distV h l, .bool b] w (Ret w (.tuple #[wideV (shi b h l) (slo b l), .bool (sfit b h l)])) := by
 cases b
 ·have e : sfit false h l = decide (h < 9223372036854775808) := by simp [sfit]
  rw [e, show shi false h l = wrap64 h from by simp [shi], show slo false l = l from by simp [slo]]
  clear e
  cases g : decide (h < 9223372036854775808)
  all_goals
   go_enter Tryz.func145, Tryz.ntmps145
   go_wp2
   go_returns
   exact ⟨rfl, by go_grown⟩
 ·have e0 : shi true h l = wrap64 (nhi h l) := by simp [shi]
  have e1 : slo true l = nlo l := by simp [slo]
  rw [e0, e1]
  clear e0 e1
  cases g : decide (h < 9223372036854775808)
  ·have e : sfit true h l = (h == 9223372036854775808 && l == 0) := by simp [sfit, g]
   rw [e]
   clear e
   cases g1 : (h == 9223372036854775808)
   ·rw [show (false && l == 0) = false from rfl]
    go_enter Tryz.func145, Tryz.ntmps145
    go_wp2_with fail
    refine (negative_any _ _ hh hl _).mono ?_
    rintro e w1 ⟨rfl, hb⟩
    have hHeld : Keeps w [(w.heap.size, 0, .int .u64 h), (w.heap.size, 1, .int .u64 l), (w.heap.size + 1, 0, .int .i64 0), (w.heap.size + 1, 1, .int .u64 0)] _ := Keeps.next (by refine ⟨by go_grown, ?_⟩; simp [Cells, go_sem]) hb
    clear hb
    obtain ⟨⟨_,_,_⟩,⟨_,_,_⟩,⟨_,kc2,_⟩,⟨_,kc3,_⟩,_⟩ := hHeld.2
    go_wp2_with fail
    refine bodyPost_ret (v := .tuple #[wideV (wrap64 (nhi h l)) (nlo l), .bool false]) (by simp [results, Tryz.results145, go_sem, kc2, kc3]) rfl ?_
    exact ⟨rfl, by first | (with_reducible exact hHeld.1) | (have hB := hHeld.1; have hz := hB.size; go_grown)⟩
   ·rw [show (true && l == 0) = (l == 0) from rfl]
    cases g2 : (l == 0)
    all_goals
     go_enter Tryz.func145, Tryz.ntmps145
     go_wp2_with fail
     refine (negative_any _ _ hh hl _).mono ?_
     rintro e w1 ⟨rfl, hb⟩
     have hHeld : Keeps w [(w.heap.size, 0, .int .u64 h), (w.heap.size, 1, .int .u64 l), (w.heap.size + 1, 0, .int .i64 0), (w.heap.size + 1, 1, .int .u64 0)] _ := Keeps.next (by refine ⟨by go_grown, ?_⟩; simp [Cells, go_sem]) hb
     clear hb
     obtain ⟨⟨_,_,_⟩,⟨_,_,_⟩,⟨_,kc2,_⟩,⟨_,kc3,_⟩,_⟩ := hHeld.2
     go_wp2_with fail
     refine bodyPost_ret (by simp [results, Tryz.results145, go_sem, kc2, kc3]; rfl) rfl ?_
     exact ⟨rfl, by first | (with_reducible exact hHeld.1) | (have hB := hHeld.1; have hz := hB.size; go_grown)⟩
  ·rw [show sfit true h l = true from by simp [sfit, g]]
   go_enter Tryz.func145, Tryz.ntmps145
   go_wp2_with fail
   refine (negative_any _ _ hh hl _).mono ?_
   rintro e w1 ⟨rfl, hb⟩
   have hHeld : Keeps w [(w.heap.size, 0, .int .u64 h), (w.heap.size, 1, .int .u64 l), (w.heap.size + 1, 0, .int .i64 0), (w.heap.size + 1, 1, .int .u64 0)] _ := Keeps.next (by refine ⟨by go_grown, ?_⟩; simp [Cells, go_sem]) hb
   clear hb
   obtain ⟨⟨_,_,_⟩,⟨_,_,_⟩,⟨_,kc2,_⟩,⟨_,kc3,_⟩,_⟩ := hHeld.2
   go_wp2_with fail
   refine bodyPost_ret (v := .tuple #[wideV (wrap64 (nhi h l)) (nlo l), .bool true]) (by simp [results, Tryz.results145, go_sem, kc2, kc3]) rfl ?_
   exact ⟨rfl, by first | (with_reducible exact hHeld.1) | (have hB := hHeld.1; have hz := hB.size; go_grown)⟩
end Go.Proofs.YtcfidimnbamnkaaGreat

/-
 More of what package wide answers: products. Conditions: the words of a number are of 64 bits.
-/
namespace Go.Proofs.YtcfidimnbamnkaaGreat
open Go.RowKit Go.Shelf

theorem mag_i64 {n : Int} (h : I64 n) : 0 ≤ mag n ∧ mag n ≤ 9223372036854775808 := by unfold mag; obtain ⟨_, _⟩ := h; split <;> omega
theorem fits_i64 {n : Int} (h : I64 n) : Fits n := by obtain ⟨_, _⟩ := h; unfold Fits; omega
theorem dl_mag {n : Int} (h : I64 n) : dl (mag n) = mag n := by have := mag_i64 h; unfold dl; omega

theorem field_dist (a b : Int) (w : World) : (Instr.field 202 (distV a b) 1).run Tryz.prog w = .ok (.int .u64 b) w := by kernel_rfl

set_option maxRecDepth 100000 in
set_option maxHeartbeats 1600000 in
theorem scale_walk (hi lo n : Int) (h : I64 hi) (k : U64 lo) (hn : I64 n) (w : World) (ba bn : Bool) (ea : decide (hi < 0) = ba) (en : decide (n < 0) = bn) :
  Calls Tryz.prog 88 #[wideV hi lo, .int .i64 n] w (Ret w (roomV (val hi lo * n))) := by
 have F := fits_val h k
 have HM := mag_fits F
 have EA := Lib.hid ea
 clear F ea
 go_enter Tryz.func88, Tryz.ntmps88
 go_wp2_with fail
 refine (far_any hi lo h k _).mono ?_
 rintro e w1 ⟨rfl, hb⟩
 have hHeld : Keeps w [(w.heap.size, 0, .int .i64 hi), (w.heap.size, 1, .int .u64 lo), (w.heap.size + 1, 0, .int .i64 0), (w.heap.size + 1, 1, .int .u64 0)] _ := Keeps.next (by refine ⟨by go_grown, ?_⟩; simp [Cells, go_sem]) hb
 clear hb
 obtain ⟨⟨kz0,kc0,kf0⟩,⟨kz1,kc1,kf1⟩,⟨kz2,kc2,kf2⟩,⟨kz3,kc3,kf3⟩,_⟩ := hHeld.2
 go_wp2_with fail
 refine (of_any n hn _).mono ?_
 rintro e w2 ⟨rfl, hb⟩
 replace hHeld := Keeps.next (hHeld) hb
 clear hb kz0 kc0 kf0 kz1 kc1 kf1 kz2 kc2 kf2 kz3 kc3 kf3
 obtain ⟨⟨kz0,kc0,kf0⟩,⟨kz1,kc1,kf1⟩,⟨kz2,kc2,kf2⟩,⟨kz3,kc3,kf3⟩,_⟩ := hHeld.2
 go_wp2_with fail
 refine (far_any (rhi n) (rlo n) (rhi_i64 n) (rlo_u64 n) _).mono ?_
 rintro e w3 ⟨rfl, hb⟩
 replace hHeld := Keeps.next (hHeld) hb
 clear hb kz0 kc0 kf0 kz1 kc1 kf1 kz2 kc2 kf2 kz3 kc3 kf3
 obtain ⟨⟨kz0,kc0,kf0⟩,⟨kz1,kc1,kf1⟩,⟨kz2,kc2,kf2⟩,⟨kz3,kc3,kf3⟩,_⟩ := hHeld.2
 simp only [val_r (fits_i64 hn), dl_mag hn]
 go_wp2_with (simp only [field_dist])
 have HN := mag_i64 hn
 refine (times_any _ _ _ (dh_u64 (mag_nonneg _) (by omega)) (dl_u64 _) ⟨HN.1, by omega⟩ _).mono ?_
 rintro e w4 ⟨rfl, hb⟩
 replace hHeld := Keeps.next (hHeld) hb
 clear hb kz0 kc0 kf0 kz1 kc1 kf1 kz2 kc2 kf2 kz3 kc3 kf3
 obtain ⟨⟨kz0,kc0,kf0⟩,⟨kz1,kc1,kf1⟩,⟨kz2,kc2,kf2⟩,⟨kz3,kc3,kf3⟩,_⟩ := hHeld.2
 simp only [val_d]
 have HP : Hid (0 ≤ mag (val hi lo) * mag n) := Lib.hid (Int.mul_nonneg (mag_nonneg _) (mag_nonneg _))
 clear HM HN
 generalize hP : mag (val hi lo) * mag n % 340282366920938463463374607431768211456 = P at *
 generalize hO : mag (val hi lo) * mag n / 340282366920938463463374607431768211456 = O at *
 have HPP := Lib.hid hP
 have hP0 : 0 ≤ P := by omega
 have hP1 : P < 340282366920938463463374607431768211456 := by omega
 have HO := Lib.hid hO
 clear hP hO
 go_upto_region 2 with fail
 go_cut [8, 9] (fun s8 s9 wx => ∃ g : Nat, ∃ bb : Bool, Hid (bb = (!ba == bn)) ∧ s8 = .pointer (some ⟨g, 0, none⟩) ∧ s9 = .bool (sfit bb (dh P) (dl P)) ∧ wx.cell? ⟨g, 0, none⟩ = some (.int .i64 (shi bb (dh P) (dl P))) ∧ wx.cell? ⟨g, 1, none⟩ = some (.int .u64 (slo bb (dl P))) ∧ Keeps w [(w.heap.size + 1, 0, .int .i64 0), (w.heap.size + 1, 1, .int .u64 0)] wx)
 case first =>
  refine region_keeps (w0 := w) (L := [(w.heap.size, 0, .int .i64 hi), (w.heap.size, 1, .int .u64 lo), (w.heap.size + 1, 0, .int .i64 0), (w.heap.size + 1, 1, .int .u64 0), (w4.heap.size, 0, .int .u64 (dh P)), (w4.heap.size, 1, .int .u64 (dl P))]) (by kernel_rfl) ((hHeld.alloc _).app (newK2 (hHeld.alloc _))) (fun hHeld0 => ?_)
  refine tk 0 21 rfl rfl ?_ ?_ ?_
  rotate_left
  ·intro wq hSw; obtain ⟨⟨_,_,_⟩,⟨_,_,_⟩,⟨_,_,_⟩,⟨_,_,_⟩,⟨_,_,_⟩,⟨_,_,_⟩,_⟩ := hSw.2; go_simp; (try with_reducible rfl)
  try go_frame
  refine tk 1 22 rfl rfl ?_ ?_ ?_
  rotate_left
  ·intro wq hSw; obtain ⟨⟨_,_,_⟩,⟨_,_,_⟩,⟨_,_,_⟩,⟨_,_,_⟩,⟨_,_,_⟩,⟨_,_,_⟩,_⟩ := hSw.2; go_simp; (try with_reducible rfl)
  try go_frame
  refine tv 3 24 rfl rfl ?_
  try go_frame
  refine tv 4 25 rfl rfl ?_
  try go_frame
  refine ty [2, 10] ?_
  refine AllReadyH.cons rfl (fun K hK => ?_) ?_
  go_simp
  (first | ((with_reducible refine (below_is hi lo _ EA.out _).mono ?_); rintro e w5 ⟨rfl, hb⟩) | ((with_reducible refine (signed_any _ _ _ (dh_u64 hP0 hP1) (dl_u64 _) _).mono ?_); rintro e w6 ⟨rfl, hb⟩))
  refine hK.out _ _ (hHeld0.next hb) (fun hHeld1 => ?_)
  clear hK K; try clear hb
  try go_frame
  refine tv 5 26 rfl rfl ?_
  try go_frame
  refine ty [6, 10] ?_
  refine AllReadyH.cons rfl (fun K hK => ?_) ?_
  go_simp
  (first | ((with_reducible refine (below_is hi lo _ EA.out _).mono ?_); rintro e w5 ⟨rfl, hb⟩) | ((with_reducible refine (signed_any _ _ _ (dh_u64 hP0 hP1) (dl_u64 _) _).mono ?_); rintro e w6 ⟨rfl, hb⟩))
  refine hK.out _ _ (hHeld1.next hb) (fun hHeld2 => ?_)
  clear hK K; try clear hb
  try go_frame
  refine tv 7 20 rfl rfl ?_
  try go_frame
  refine tv 8 28 rfl rfl ?_
  try go_frame
  refine tv 9 29 rfl rfl ?_
  try go_frame
  refine ty [10] ?_
  refine AllReadyH.cons rfl (fun K hK => ?_) AllReadyH.nil
  go_simp
  refine hK.out _ _ (by first | exact hHeld2.alloc _ | exact (hHeld2.alloc _).drew) (fun hHeld3 => ?_)
  first | have hN3 := newK2 hHeld3 | have hN3 := newK2d hHeld3
  clear hK K; try clear hb
  try go_frame
  refine ty [11] ?_
  refine AllReadyH.cons rfl (fun K hK => ?_) AllReadyH.nil
  have hz0 := hHeld2.1.size; obtain ⟨⟨az0,_,_⟩,⟨az1,_,_⟩,⟨az2,_,_⟩,⟨az3,_,_⟩,⟨az4,_,_⟩,⟨az5,_,_⟩,_⟩ := hHeld2.2; (try simp at hz0); (try simp at az0); (try simp at az1); (try simp at az2); (try simp at az3); (try simp at az4); (try simp at az5)
  obtain ⟨⟨t0z0, t0c0, t0f0⟩, ⟨t0z1, t0c1, t0f1⟩, _⟩ := hN3.2; (try simp at t0z0); (try simp at t0c0); (try simp at t0f0); (try simp at t0z1); (try simp at t0c1); (try simp at t0f1)
  go_simp
  refine hK.out _ _ (by first | exact hHeld2.alloc _ | (repeat (first | (with_reducible exact hHeld3) | (with_reducible exact (Keeps.undrewR hHeld3)) | (refine Keeps.set ?_ (by simp <;> omega) (by simp <;> omega) _) | (with_reducible refine Keeps.drew ?_)))) (fun hHeld4 => ?_)
  clear hK K; try clear hb
  try go_frame
  refine tv 12 9 rfl rfl ?_
  try go_frame
  refine wpAnyH_done (by kernel_rfl) ?_ _
  have hHeld := hHeld4
  obtain ⟨⟨kz0,kc0,kf0⟩,⟨kz1,kc1,kf1⟩,⟨kz2,kc2,kf2⟩,⟨kz3,kc3,kf3⟩,⟨_,_,_⟩,⟨_,_,_⟩,_⟩ := hHeld.2
  (go_wp2_with fail; go_meet; (case rel => exact ⟨_, _, Lib.hid rfl, rfl, rfl, by simp [go_sem, *], by simp [go_sem, *], hHeld.1, hHeld.2.2.2.1, hHeld.2.2.2.2.1, trivial⟩))
  refine AllReadyH.cons rfl (fun K hK => ?_) ?_
  go_simp
  refine hK.out _ _ (by first | exact hHeld1.alloc _ | exact (hHeld1.alloc _).drew) (fun hHeld5 => ?_)
  first | have hN5 := newK2 hHeld5 | have hN5 := newK2d hHeld5
  clear hK K; try clear hb
  try go_frame
  refine ty [6] ?_
  refine AllReadyH.cons rfl (fun K hK => ?_) AllReadyH.nil
  go_simp
  (first | ((with_reducible refine (below_is hi lo _ EA.out _).mono ?_); rintro e w5 ⟨rfl, hb⟩) | ((with_reducible refine (signed_any _ _ _ (dh_u64 hP0 hP1) (dl_u64 _) _).mono ?_); rintro e w6 ⟨rfl, hb⟩))
  refine hK.out _ _ (hHeld5.next hb) (fun hHeld6 => ?_)
  replace hN5 := hN5.next hb
  clear hK K; try clear hb
  try go_frame
  refine tv 7 20 rfl rfl ?_
  try go_frame
  refine tv 8 28 rfl rfl ?_
  try go_frame
  refine tv 9 29 rfl rfl ?_
  try go_frame
  refine ty [11] ?_
  refine AllReadyH.cons rfl (fun K hK => ?_) AllReadyH.nil
  have hz0 := hHeld1.1.size; obtain ⟨⟨az0,_,_⟩,⟨az1,_,_⟩,⟨az2,_,_⟩,⟨az3,_,_⟩,⟨az4,_,_⟩,⟨az5,_,_⟩,_⟩ := hHeld1.2; (try simp at hz0); (try simp at az0); (try simp at az1); (try simp at az2); (try simp at az3); (try simp at az4); (try simp at az5)
  obtain ⟨⟨t0z0, t0c0, t0f0⟩, ⟨t0z1, t0c1, t0f1⟩, _⟩ := hN5.2; (try simp at t0z0); (try simp at t0c0); (try simp at t0f0); (try simp at t0z1); (try simp at t0c1); (try simp at t0f1)
  go_simp
  refine hK.out _ _ (by first | exact hHeld1.alloc _ | (repeat (first | (with_reducible exact hHeld6) | (with_reducible exact (Keeps.undrewR hHeld6)) | (refine Keeps.set ?_ (by simp <;> omega) (by simp <;> omega) _) | (with_reducible refine Keeps.drew ?_)))) (fun hHeld7 => ?_)
  clear hK K; try clear hb
  try go_frame
  refine tv 12 9 rfl rfl ?_
  try go_frame
  refine wpAnyH_done (by kernel_rfl) ?_ _
  have hHeld := hHeld7
  obtain ⟨⟨kz0,kc0,kf0⟩,⟨kz1,kc1,kf1⟩,⟨kz2,kc2,kf2⟩,⟨kz3,kc3,kf3⟩,⟨_,_,_⟩,⟨_,_,_⟩,_⟩ := hHeld.2
  (go_wp2_with fail; go_meet; (case rel => exact ⟨_, _, Lib.hid rfl, rfl, rfl, by simp [go_sem, *], by simp [go_sem, *], hHeld.1, hHeld.2.2.2.1, hHeld.2.2.2.2.1, trivial⟩))
  exact AllReadyH.nil
  refine AllReadyH.cons rfl (fun K hK => ?_) ?_
  go_simp
  refine hK.out _ _ (by first | exact hHeld0.alloc _ | exact (hHeld0.alloc _).drew) (fun hHeld8 => ?_)
  first | have hN8 := newK2 hHeld8 | have hN8 := newK2d hHeld8
  clear hK K; try clear hb
  try go_frame
  refine ty [2] ?_
  refine AllReadyH.cons rfl (fun K hK => ?_) AllReadyH.nil
  go_simp
  (first | ((with_reducible refine (below_is hi lo _ EA.out _).mono ?_); rintro e w5 ⟨rfl, hb⟩) | ((with_reducible refine (signed_any _ _ _ (dh_u64 hP0 hP1) (dl_u64 _) _).mono ?_); rintro e w6 ⟨rfl, hb⟩))
  refine hK.out _ _ (hHeld8.next hb) (fun hHeld9 => ?_)
  replace hN8 := hN8.next hb
  clear hK K; try clear hb
  try go_frame
  refine tv 5 26 rfl rfl ?_
  try go_frame
  refine ty [6] ?_
  refine AllReadyH.cons rfl (fun K hK => ?_) AllReadyH.nil
  go_simp
  (first | ((with_reducible refine (below_is hi lo _ EA.out _).mono ?_); rintro e w5 ⟨rfl, hb⟩) | ((with_reducible refine (signed_any _ _ _ (dh_u64 hP0 hP1) (dl_u64 _) _).mono ?_); rintro e w6 ⟨rfl, hb⟩))
  refine hK.out _ _ (hHeld9.next hb) (fun hHeld10 => ?_)
  replace hN8 := hN8.next hb
  clear hK K; try clear hb
  try go_frame
  refine tv 7 20 rfl rfl ?_
  try go_frame
  refine tv 8 28 rfl rfl ?_
  try go_frame
  refine tv 9 29 rfl rfl ?_
  try go_frame
  refine ty [11] ?_
  refine AllReadyH.cons rfl (fun K hK => ?_) AllReadyH.nil
  have hz0 := hHeld0.1.size; obtain ⟨⟨az0,_,_⟩,⟨az1,_,_⟩,⟨az2,_,_⟩,⟨az3,_,_⟩,⟨az4,_,_⟩,⟨az5,_,_⟩,_⟩ := hHeld0.2; (try simp at hz0); (try simp at az0); (try simp at az1); (try simp at az2); (try simp at az3); (try simp at az4); (try simp at az5)
  obtain ⟨⟨t0z0, t0c0, t0f0⟩, ⟨t0z1, t0c1, t0f1⟩, _⟩ := hN8.2; (try simp at t0z0); (try simp at t0c0); (try simp at t0f0); (try simp at t0z1); (try simp at t0c1); (try simp at t0f1)
  go_simp
  refine hK.out _ _ (by first | exact hHeld0.alloc _ | (repeat (first | (with_reducible exact hHeld10) | (with_reducible exact (Keeps.undrewR hHeld10)) | (refine Keeps.set ?_ (by simp <;> omega) (by simp <;> omega) _) | (with_reducible refine Keeps.drew ?_)))) (fun hHeld11 => ?_)
  clear hK K; try clear hb
  try go_frame
  refine tv 12 9 rfl rfl ?_
  try go_frame
  refine wpAnyH_done (by kernel_rfl) ?_ _
  have hHeld := hHeld11
  obtain ⟨⟨kz0,kc0,kf0⟩,⟨kz1,kc1,kf1⟩,⟨kz2,kc2,kf2⟩,⟨kz3,kc3,kf3⟩,⟨_,_,_⟩,⟨_,_,_⟩,_⟩ := hHeld.2
  (go_wp2_with fail; go_meet; (case rel => exact ⟨_, _, Lib.hid rfl, rfl, rfl, by simp [go_sem, *], by simp [go_sem, *], hHeld.1, hHeld.2.2.2.1, hHeld.2.2.2.2.1, trivial⟩))
  exact AllReadyH.nil
 case rest =>
  obtain ⟨g, bb, HBB, rfl, rfl, c0, c1, hHeld⟩ := hcut
  obtain ⟨⟨kz0, kc0, kf0⟩, ⟨kz1, kc1, kf1⟩, _⟩ := hHeld.2
  have hmath : Hid (∀ f o, sfit bb (dh P) (dl P) = f → (O == 0) = o → roomV (val hi lo * n) = .tuple #[wideV (if f && o then shi bb (dh P) (dl P) else 0) (if f && o then slo bb (dl P) else 0), .int .i64 (if f && o then 0 else 5)]) := by
   intro f o hf ho
   rw [← HPP.out] at hf ⊢
   rw [← HO.out] at ho
   have hbb : bb = (!decide (val hi lo < 0) == decide (n < 0)) := by
    rw [HBB.out, ← EA.out, ← en, decide_eq_decide.2 (val_neg (hi := hi) k)]
   obtain ⟨e1, e2, e3⟩ := scale_math hbb hf ho
   rw [e1, e2, e3]
  cases hf : sfit bb (dh P) (dl P)
  ·have HF := Lib.hid hf
   clear hf
   go_wp2_with fail
   refine (ifRoomW_no _ _ _).mono ?_
   skip
   rintro e w7 ⟨rfl, hb⟩
   replace hHeld := Keeps.next (hHeld) hb
   clear hb kz0 kc0 kf0 kz1 kc1 kf1
   obtain ⟨⟨kz0, kc0, kf0⟩, ⟨kz1, kc1, kf1⟩, _⟩ := hHeld.2
   go_wp2_with fail
   refine bodyPost_ret (v := .tuple #[wideV 0 0, .int .i64 5]) (by simp [results, Tryz.results88, go_sem, kc0, kc1]) rfl ?_
   exact ⟨by rw [hmath.out _ _ HF.out rfl]; simp, by first | (with_reducible exact hHeld.1) | (have hB := hHeld.1; have hz := hB.size; go_grown)⟩
  ·have HF := Lib.hid hf
   clear hf
   cases ho : (O == 0)
   ·have HO2 := Lib.hid ho
    go_wp2_with fail
    refine (ifRoomW_no _ _ _).mono ?_
    skip
    rintro e w7 ⟨rfl, hb⟩
    replace hHeld := Keeps.next (hHeld) hb
    clear hb kz0 kc0 kf0 kz1 kc1 kf1
    obtain ⟨⟨kz0, kc0, kf0⟩, ⟨kz1, kc1, kf1⟩, _⟩ := hHeld.2
    go_wp2_with fail
    refine bodyPost_ret (v := .tuple #[wideV 0 0, .int .i64 5]) (by simp [results, Tryz.results88, go_sem, kc0, kc1]) rfl ?_
    exact ⟨by rw [hmath.out _ _ HF.out HO2.out]; simp, by first | (with_reducible exact hHeld.1) | (have hB := hHeld.1; have hz := hB.size; go_grown)⟩
   ·have HO2 := Lib.hid ho
    go_wp2_with fail
    refine (ifRoomW_yes _ _ _).mono ?_
    skip
    rintro e w7 ⟨rfl, hb⟩
    replace hHeld := Keeps.next (hHeld) hb
    clear hb kz0 kc0 kf0 kz1 kc1 kf1
    obtain ⟨⟨kz0, kc0, kf0⟩, ⟨kz1, kc1, kf1⟩, _⟩ := hHeld.2
    go_wp2_with fail
    refine bodyPost_ret (v := .tuple #[wideV (shi bb (dh P) (dl P)) (slo bb (dl P)), .int .i64 0]) (by simp [results, Tryz.results88, go_sem, kc0, kc1]) rfl ?_
    exact ⟨by rw [hmath.out _ _ HF.out HO2.out]; simp, by first | (with_reducible exact hHeld.1) | (have hB := hHeld.1; have hz := hB.size; go_grown)⟩
theorem scale_any (hi lo n : Int) (h : I64 hi) (k : U64 lo) (hn : I64 n) (w : World) :
  Calls Tryz.prog 88 #[wideV hi lo, .int .i64 n] w (Ret w (roomV (val hi lo * n))) :=
 scale_walk hi lo n h k hn w _ _ rfl rfl
end Go.Proofs.YtcfidimnbamnkaaGreat

/-
 More of what package wide answers: products of two words, the negative, the number of 64 bits. Conditions: the words of a number are of 64 bits.
-/
namespace Go.Proofs.YtcfidimnbamnkaaGreat
open Go.RowKit Go.Shelf

theorem mul_any (a b : Int) (ha : I64 a) (hb : I64 b) (w : World) :
  Calls Tryz.prog 38 #[.int .i64 a, .int .i64 b] w (Ret w (wideV (rhi (a * b)) (rlo (a * b)))) := by
 go_enter Tryz.func38, Tryz.ntmps38
 go_wp2_with fail
 refine (of_any a ha _).mono ?_
 rintro e w1 ⟨rfl, hb⟩
 have hHeld : Keeps w [(w.heap.size, 0, .int .i64 0), (w.heap.size, 1, .int .u64 0)] _ := Keeps.next (by refine ⟨by go_grown, ?_⟩; simp [Cells, go_sem]) hb
 clear hb
 obtain ⟨⟨kz0, kc0, kf0⟩, ⟨kz1, kc1, kf1⟩, _⟩ := hHeld.2
 go_wp2_with fail
 refine (scale_any (rhi a) (rlo a) b (rhi_i64 a) (rlo_u64 a) hb _).mono ?_
 rintro e w2 ⟨rfl, hb⟩
 replace hHeld := Keeps.next (hHeld) hb
 clear hb kz0 kc0 kf0 kz1 kc1 kf1
 obtain ⟨⟨kz0, kc0, kf0⟩, ⟨kz1, kc1, kf1⟩, _⟩ := hHeld.2
 simp only [val_r (fits_i64 ha)]
 generalize a * b = z at *
 go_wp2_with fail
 refine bodyPost_ret (v := wideV (rhi z) (rlo z)) (by simp [results, Tryz.results38, go_sem, World.cell?_alloc_lt, kc0, kc1, kz0]) rfl ?_
 exact ⟨rfl, by first | (with_reducible exact hHeld.1) | (have hB := hHeld.1; have hz := hB.size; go_grown)⟩

def ihi (z : Int) : Int := if -9223372036854775808 ≤ z ∧ z ≤ 9223372036854775807 then z else 0
def icode (z : Int) : Int := if -9223372036854775808 ≤ z ∧ z ≤ 9223372036854775807 then 0 else 5
theorem int_yes {hi lo : Int} (g : (rhi (wrap64 lo) == hi && rlo (wrap64 lo) == lo) = true) : wrap64 lo = ihi (val hi lo) ∧ icode (val hi lo) = 0 := by
 simp only [Bool.and_eq_true, beq_iff_eq] at g
 have i : I64 (wrap64 lo) := by unfold I64 wrap64; omega
 have e : val hi lo = wrap64 lo := by rw [← val_r (fits_i64 i), g.1, g.2]
 rw [e]
 simp [ihi, icode, i.1, i.2]
theorem int_no {hi lo : Int} (h : I64 hi) (k : U64 lo) (g : (rhi (wrap64 lo) == hi && rlo (wrap64 lo) == lo) = false) : ihi (val hi lo) = 0 ∧ icode (val hi lo) = 5 := by
 have n : ¬ (-9223372036854775808 ≤ val hi lo ∧ val hi lo ≤ 9223372036854775807) := by
  rintro ⟨h1, h2⟩
  have i : I64 (val hi lo) := ⟨h1, h2⟩
  have e : wrap64 lo = val hi lo := by
   unfold wrap64; unfold val at *; obtain ⟨_, _⟩ := h; obtain ⟨_, _⟩ := k; omega
  rw [e, rhi_val h k, rlo_val h k] at g
  simp at g
 simp [ihi, icode, n]
theorem wrap64_i64 (x : Int) : I64 (wrap64 x) := by unfold I64 wrap64; omega
set_option maxRecDepth 100000 in
theorem int_walk (hi lo : Int) (b1 b2 : Bool) (g1 : (rhi (wrap64 lo) == hi) = b1) (g2 : (rlo (wrap64 lo) == lo) = b2) (w : World) :
  Calls Tryz.prog 252 #[wideV hi lo] w (Ret w (.tuple #[.int .i64 (if b1 && b2 then wrap64 lo else 0), .int .i64 (if b1 && b2 then 0 else 5)])) := by
 have i := wrap64_i64 lo
 cases b1
 ·simp only [Bool.false_and, Bool.false_eq_true, if_false]
  go_enter Tryz.func252, Tryz.ntmps252
  go_wp2_with fail
  refine region_keeps (w0 := w) (L := [(w.heap.size, 0, .int .i64 hi), (w.heap.size, 1, .int .u64 lo)]) (by kernel_rfl) (by first | exact hHeld | (refine ⟨by go_grown, ?_⟩; simp [Cells, go_sem]; done)) (fun hHeld0 => ?_)
  refine tv 0 8 rfl rfl ?_
  try go_frame
  refine tv 1 9 rfl rfl ?_
  try go_frame
  refine tk 3 11 rfl rfl ?_ ?_ ?_
  rotate_left
  ·intro wq hSw; obtain ⟨⟨qz0, qc0, qf0⟩, ⟨qz1, qc1, qf1⟩, _⟩ := hSw.2; go_simp; (try with_reducible rfl)
  try go_frame
  refine ty [2] ?_
  refine AllReadyH.cons rfl (fun K hK => ?_) AllReadyH.nil
  go_simp
  (first | ((with_reducible refine (of_any _ i _).mono ?_); rintro e w5 ⟨rfl, hb⟩) | ((with_reducible refine (ifRoomI_no _ _).mono ?_); rintro e w6 ⟨rfl, hb⟩))
  refine hK.out _ _ (hHeld0.next hb) (fun hHeld1 => ?_)
  clear hK K; try clear hb
  try go_frame
  refine tv 4 12 rfl rfl ?_
  try go_frame
  refine ty [5] ?_
  refine AllReadyH.cons rfl (fun K hK => ?_) AllReadyH.nil
  go_simp
  (first | ((with_reducible refine (of_any _ i _).mono ?_); rintro e w5 ⟨rfl, hb⟩) | ((with_reducible refine (ifRoomI_no _ _).mono ?_); rintro e w6 ⟨rfl, hb⟩))
  refine hK.out _ _ (hHeld1.next hb) (fun hHeld2 => ?_)
  clear hK K; try clear hb
  try go_frame
  refine tv 6 14 rfl rfl ?_
  try go_frame
  refine tv 7 15 rfl rfl ?_
  try go_frame
  refine tv 8 2 rfl rfl ?_
  try go_frame
  refine tv 9 3 rfl rfl ?_
  try go_frame
  refine wpAnyH_done (by kernel_rfl) ?_ _
  have hHeld := hHeld2
  obtain ⟨⟨kz0, kc0, kf0⟩, ⟨kz1, kc1, kf1⟩, _⟩ := hHeld.2
  go_wp2_with fail
  go_returns
  exact ⟨rfl, hHeld.1⟩
 ·cases b2
  ·simp only [Bool.and_false, Bool.false_eq_true, if_false]
   go_enter Tryz.func252, Tryz.ntmps252
   go_wp2_with fail
   refine region_keeps (w0 := w) (L := [(w.heap.size, 0, .int .i64 hi), (w.heap.size, 1, .int .u64 lo)]) (by kernel_rfl) (by first | exact hHeld | (refine ⟨by go_grown, ?_⟩; simp [Cells, go_sem]; done)) (fun hHeld0 => ?_)
   refine tv 0 8 rfl rfl ?_
   try go_frame
   refine tv 1 9 rfl rfl ?_
   try go_frame
   refine tk 3 11 rfl rfl ?_ ?_ ?_
   rotate_left
   ·intro wq hSw; obtain ⟨⟨qz0, qc0, qf0⟩, ⟨qz1, qc1, qf1⟩, _⟩ := hSw.2; go_simp; (try with_reducible rfl)
   try go_frame
   refine ty [2] ?_
   refine AllReadyH.cons rfl (fun K hK => ?_) AllReadyH.nil
   go_simp
   (first | ((with_reducible refine (of_any _ i _).mono ?_); rintro e w5 ⟨rfl, hb⟩) | ((with_reducible refine (ifRoomI_no _ _).mono ?_); rintro e w6 ⟨rfl, hb⟩))
   refine hK.out _ _ (hHeld0.next hb) (fun hHeld1 => ?_)
   clear hK K; try clear hb
   try go_frame
   refine tv 4 12 rfl rfl ?_
   try go_frame
   refine ty [5] ?_
   refine AllReadyH.cons rfl (fun K hK => ?_) AllReadyH.nil
   go_simp
   (first | ((with_reducible refine (of_any _ i _).mono ?_); rintro e w5 ⟨rfl, hb⟩) | ((with_reducible refine (ifRoomI_no _ _).mono ?_); rintro e w6 ⟨rfl, hb⟩))
   refine hK.out _ _ (hHeld1.next hb) (fun hHeld2 => ?_)
   clear hK K; try clear hb
   try go_frame
   refine tv 6 14 rfl rfl ?_
   try go_frame
   refine tv 7 15 rfl rfl ?_
   try go_frame
   refine tv 8 2 rfl rfl ?_
   try go_frame
   refine tv 9 3 rfl rfl ?_
   try go_frame
   refine wpAnyH_done (by kernel_rfl) ?_ _
   have hHeld := hHeld2
   obtain ⟨⟨kz0, kc0, kf0⟩, ⟨kz1, kc1, kf1⟩, _⟩ := hHeld.2
   go_wp2_with fail
   go_returns
   exact ⟨rfl, hHeld.1⟩
  ·simp only [Bool.and_self, if_true]
   go_enter Tryz.func252, Tryz.ntmps252
   go_wp2_with fail
   refine region_keeps (w0 := w) (L := [(w.heap.size, 0, .int .i64 hi), (w.heap.size, 1, .int .u64 lo)]) (by kernel_rfl) (by first | exact hHeld | (refine ⟨by go_grown, ?_⟩; simp [Cells, go_sem]; done)) (fun hHeld0 => ?_)
   refine tv 0 8 rfl rfl ?_
   try go_frame
   refine tv 1 9 rfl rfl ?_
   try go_frame
   refine tk 3 11 rfl rfl ?_ ?_ ?_
   rotate_left
   ·intro wq hSw; obtain ⟨⟨qz0, qc0, qf0⟩, ⟨qz1, qc1, qf1⟩, _⟩ := hSw.2; go_simp; (try with_reducible rfl)
   try go_frame
   refine ty [2] ?_
   refine AllReadyH.cons rfl (fun K hK => ?_) AllReadyH.nil
   go_simp
   (first | ((with_reducible refine (of_any _ i _).mono ?_); rintro e w5 ⟨rfl, hb⟩) | ((with_reducible refine (ifRoomI_yes _ _).mono ?_); rintro e w6 ⟨rfl, hb⟩))
   refine hK.out _ _ (hHeld0.next hb) (fun hHeld1 => ?_)
   clear hK K; try clear hb
   try go_frame
   refine tv 4 12 rfl rfl ?_
   try go_frame
   refine ty [5] ?_
   refine AllReadyH.cons rfl (fun K hK => ?_) AllReadyH.nil
   go_simp
   (first | ((with_reducible refine (of_any _ i _).mono ?_); rintro e w5 ⟨rfl, hb⟩) | ((with_reducible refine (ifRoomI_yes _ _).mono ?_); rintro e w6 ⟨rfl, hb⟩))
   refine hK.out _ _ (hHeld1.next hb) (fun hHeld2 => ?_)
   clear hK K; try clear hb
   try go_frame
   refine tv 6 14 rfl rfl ?_
   try go_frame
   refine tv 7 15 rfl rfl ?_
   try go_frame
   refine tv 8 2 rfl rfl ?_
   try go_frame
   refine tv 9 3 rfl rfl ?_
   try go_frame
   refine wpAnyH_done (by kernel_rfl) ?_ _
   have hHeld := hHeld2
   obtain ⟨⟨kz0, kc0, kf0⟩, ⟨kz1, kc1, kf1⟩, _⟩ := hHeld.2
   go_wp2_with fail
   go_returns
   exact ⟨rfl, hHeld.1⟩
theorem int_any (hi lo : Int) (h : I64 hi) (k : U64 lo) (w : World) :
  Calls Tryz.prog 252 #[wideV hi lo] w (Ret w (.tuple #[.int .i64 (ihi (val hi lo)), .int .i64 (icode (val hi lo))])) := by
 have hw := int_walk hi lo _ _ rfl rfl w
 cases g : (rhi (wrap64 lo) == hi && rlo (wrap64 lo) == lo)
 ·obtain ⟨e1, e2⟩ := int_no h k g
  rw [g] at hw; rw [e1, e2]; exact hw
 ·obtain ⟨e1, e2⟩ := int_yes g
  rw [g] at hw; rw [← e1, e2]; exact hw
attribute [irreducible] ihi icode
end Go.Proofs.YtcfidimnbamnkaaGreat

/-
 math/bits.Div64, where the upper word is below the divisor. Conditions: words are of 64 bits, the divisor is not 0.
-/
namespace Go.Proofs.YtcfidimnbamnkaaGreat
open Go.RowKit Go.Shelf

theorem div64_0 (x y : Int) (hx : U64 x) (hy : U64 y) (h0 : 0 < y) (w : World) :
  Calls Tryz.prog 268 #[.int .u64 0, .int .u64 x, .int .u64 y] w (Ret w (.tuple #[.int .u64 (x / y), .int .u64 (x % y)])) := by
 obtain ⟨x0, x1⟩ := hx
 obtain ⟨y0, y1⟩ := hy
 have e1 : (y == 0) = false := by simp; omega
 have e2 : decide (y ≤ 0) = false := by simp; omega
 have e3 : ¬ y = 0 := by omega
 have q1 : x / y = IntKind.u64.wrap (x.tdiv y) := by
  rw [Int.tdiv_eq_ediv_of_nonneg x0, IntKind.wrap_u64]
  have h1 := Int.ediv_nonneg x0 y0
  have h2 : x / y ≤ x := Int.ediv_le_self y x0
  omega
 have q2 : x % y = x.tmod y := (Int.tmod_eq_emod_of_nonneg x0).symm
 rw [q1, q2]
 clear q1 q2
 go_enter Tryz.func268, Tryz.ntmps268
 go_wp2
 refine region_keeps (w0 := w) (L := []) (by kernel_rfl) (by first | exact hHeld | (refine ⟨by go_grown, ?_⟩; simp [Cells, go_sem]; done)) (fun hHeld0 => ?_)
 refine tv 0 28 rfl rfl ?_
 try go_frame
 refine tv 1 29 rfl rfl ?_
 try go_frame
 refine tv 2 30 rfl rfl ?_
 try go_frame
 refine tv 3 31 rfl rfl ?_
 try go_frame
 refine tv 4 32 rfl rfl ?_
 try go_frame
 refine tv 5 33 rfl rfl ?_
 try go_frame
 refine tv 6 6 rfl rfl ?_
 try go_frame
 refine tv 7 7 rfl rfl ?_
 try go_frame
 refine wpAnyH_done (by kernel_rfl) ?_ _
 have hHeld := hHeld0
 go_wp2
 go_returns
 exact ⟨rfl, hHeld.1⟩
end Go.Proofs.YtcfidimnbamnkaaGreat

/-
 Plain facts on the division of two words by one, digit by digit of 32 bits: no program in sight. Conditions: none beyond those written at each fact.
-/
namespace Go.Proofs.YtcfidimnbamnkaaGreat
open Go.RowKit

theorem digit_down {U u y yn1 yn0 q rh : Int} (hy : y = yn1 * 4294967296 + yn0) (hr : rh = U - q * yn1) (h : q * yn0 > 4294967296 * rh + u) (hy0 : 0 < y) :
  (U * 4294967296 + u) / y < q := by
 rw [Int.ediv_lt_iff_lt_mul hy0]
 subst hr hy
 have e : q * (yn1 * 4294967296 + yn0) = q * yn1 * 4294967296 + q * yn0 := by rw [Int.mul_add, Int.mul_assoc]
 rw [e]
 generalize q * yn1 = A at *
 generalize q * yn0 = B at *
 omega
theorem digit_up {U u y yn1 yn0 q rh : Int} (hy : y = yn1 * 4294967296 + yn0) (hr : rh = U - q * yn1) (h : q * yn0 ≤ 4294967296 * rh + u) (hy0 : 0 < y) :
  q ≤ (U * 4294967296 + u) / y := by
 rw [Int.le_ediv_iff_mul_le hy0]
 subst hr hy
 have e : q * (yn1 * 4294967296 + yn0) = q * yn1 * 4294967296 + q * yn0 := by rw [Int.mul_add, Int.mul_assoc]
 rw [e]
 generalize q * yn1 = A at *
 generalize q * yn0 = B at *
 omega
theorem digit_small {U u y : Int} (hU : U < y) (hu : u < 4294967296) (hy0 : 0 < y) : (U * 4294967296 + u) / y < 4294967296 := by
 rw [Int.ediv_lt_iff_lt_mul hy0]; omega
theorem digit_first {U u y yn1 yn0 : Int} (hy : y = yn1 * 4294967296 + yn0) (h0 : 0 ≤ yn0) (h1 : 0 < yn1) (hu : u < 4294967296) (hU : 0 ≤ U) :
  (U * 4294967296 + u) / y ≤ U / yn1 := by
 have hy0 : 0 < y := by omega
 have : (U * 4294967296 + u) / y < U / yn1 + 1 := by
  rw [Int.ediv_lt_iff_lt_mul hy0, hy]
  have hd := Int.mul_ediv_add_emod U yn1
  have hm := Int.emod_lt_of_pos U h1
  have hq := Int.ediv_nonneg hU (Int.le_of_lt h1)
  generalize U / yn1 = Q at *
  generalize U % yn1 = R at *
  have e : (Q + 1) * (yn1 * 4294967296 + yn0) = (yn1 * Q + yn1) * 4294967296 + (Q + 1) * yn0 := by
   rw [Int.mul_add, Int.add_mul, Int.one_mul, ← Int.mul_assoc, Int.mul_comm Q yn1, Int.add_mul, Int.add_mul, Int.one_mul]
  rw [e]
  have p := Int.mul_nonneg (show 0 ≤ Q + 1 by omega) h0
  generalize (Q + 1) * yn0 = C at *
  generalize yn1 * Q = D at *
  omega
 omega
def Digit (U u y yn1 : Int) (q rh : Int) : Prop := (U * 4294967296 + u) / y ≤ q ∧ q ≤ U / yn1 ∧ rh = U - q * yn1 ∧ 0 ≤ rh
theorem digit_mul {q y : Int} (hq : 0 ≤ q) (hq1 : q < 4294967296) (h0 : 0 ≤ y) (h1 : y < 4294967296) : 0 ≤ q * y ∧ q * y < 18446744069414584321 := by
 have a := Int.mul_nonneg hq h0
 have b : q * y ≤ 4294967295 * 4294967295 := Int.mul_le_mul (by omega) (by omega) h0 (by decide)
 omega
theorem digit_rest {U u y q : Int} (hq : q = (U * 4294967296 + u) / y) (hy0 : 0 < y) (hy1 : y < 18446744073709551616) :
  IntKind.u64.wrap (IntKind.u64.wrap (IntKind.u64.wrap (U * 4294967296) + u) - IntKind.u64.wrap (q * y)) = (U * 4294967296 + u) % y := by
 have hd := Int.mul_ediv_add_emod (U * 4294967296 + u) y
 have h1 := Int.emod_lt_of_pos (U * 4294967296 + u) hy0
 have h2 := Int.emod_nonneg (U * 4294967296 + u) (Int.ne_of_gt hy0)
 rw [← hq, Int.mul_comm] at hd
 generalize (U * 4294967296 + u) % y = R at *
 generalize q * y = A at *
 rw [IntKind.wrap_u64, IntKind.wrap_u64, IntKind.wrap_u64, IntKind.wrap_u64]
 omega
theorem digits_whole {U u1 u0 y q1 q0 r : Int} (h1 : q1 = (U * 4294967296 + u1) / y) (hr : r = (U * 4294967296 + u1) % y) (h0 : q0 = (r * 4294967296 + u0) / y) (hy0 : 0 < y) :
  (U * 18446744073709551616 + (u1 * 4294967296 + u0)) / y = q1 * 4294967296 + q0 ∧ (U * 18446744073709551616 + (u1 * 4294967296 + u0)) % y = (r * 4294967296 + u0) % y := by
 have d1 := Int.mul_ediv_add_emod (U * 4294967296 + u1) y
 have d0 := Int.mul_ediv_add_emod (r * 4294967296 + u0) y
 have m1 := Int.emod_lt_of_pos (r * 4294967296 + u0) hy0
 have m0 := Int.emod_nonneg (r * 4294967296 + u0) (Int.ne_of_gt hy0)
 rw [← h1, ← hr] at d1
 rw [← h0] at d0
 generalize (r * 4294967296 + u0) % y = R at *
 have e : U * 18446744073709551616 + (u1 * 4294967296 + u0) = R + y * (q1 * 4294967296 + q0) := by
  rw [Int.mul_add, ← Int.mul_assoc]
  generalize y * q1 = A at *
  generalize y * q0 = B at *
  omega
 rw [e]
 constructor
 ·rw [Int.add_mul_ediv_left _ _ (Int.ne_of_gt hy0), Int.ediv_eq_zero_of_lt m0 m1]; omega
 ·rw [Int.add_mul_emod_self_left, Int.emod_eq_of_lt m0 m1]
end Go.Proofs.YtcfidimnbamnkaaGreat

/-
 Plain facts on how a divisor is made great ahead of a division: no program in sight. Conditions: none beyond those written at each fact.
-/
namespace Go.Proofs.YtcfidimnbamnkaaGreat
open Go.RowKit

theorem two_pow_pos (k : Nat) : (0 : Int) < 2 ^ k := Int.pow_pos (by decide)
theorem pow_split {k : Nat} (h : k ≤ 63) : (2 : Int) ^ (64 - k) * 2 ^ k = 18446744073709551616 := by
 rw [← Int.pow_add, show 64 - k + k = 64 from by omega]; decide
theorem mask32 (x : Int) (h : U64 x) : bits .and .u64 x 4294967295 = x % 4294967296 := by
 obtain ⟨h0, h1⟩ := h
 obtain ⟨X, rfl⟩ := Int.eq_ofNat_of_zero_le h0
 have e := u64_and_nat X 4294967295 (by omega) (by omega)
 rw [show (4294967295 : Int) = ((4294967295 : Nat) : Int) from rfl, e, show (4294967295 : Nat) = 2 ^ 32 - 1 from rfl, Nat.and_two_pow_sub_one_eq_mod]
 rfl
theorem shift_join {k : Nat} (hk : k ≤ 63) {hi x : Int} (h0 : 0 ≤ hi) (h1 : hi * 2 ^ k < 18446744073709551616) (hx : U64 x) :
  bits .or .u64 (IntKind.u64.wrap (hi * 2 ^ k)) (x / 2 ^ (64 - k)) = hi * 2 ^ k + x / 2 ^ (64 - k) ∧ 0 ≤ x / 2 ^ (64 - k) ∧ x / 2 ^ (64 - k) < 2 ^ k := by
 obtain ⟨x0, x1⟩ := hx
 have p := two_pow_pos k
 have q := two_pow_pos (64 - k)
 have d0 : 0 ≤ x / 2 ^ (64 - k) := Int.ediv_nonneg x0 (Int.le_of_lt q)
 have d1 : x / 2 ^ (64 - k) < 2 ^ k := by
  rw [Int.ediv_lt_iff_lt_mul q, Int.mul_comm, pow_split hk]; exact x1
 refine ⟨?_, d0, d1⟩
 have m0 : 0 ≤ hi * 2 ^ k := Int.mul_nonneg h0 (Int.le_of_lt p)
 have e : IntKind.u64.wrap (hi * 2 ^ k) = hi * 2 ^ k := by rw [IntKind.wrap_u64]; omega
 rw [e]
 obtain ⟨H, rfl⟩ := Int.eq_ofNat_of_zero_le h0
 obtain ⟨D, hD⟩ := Int.eq_ofNat_of_zero_le d0
 rw [hD] at d1 ⊢
 have c : ((2 : Int) ^ k) = ((2 ^ k : Nat) : Int) := by push_cast; rfl
 rw [c] at d1 h1 ⊢
 have c2 : (H : Int) * ((2 ^ k : Nat) : Int) = ((H * 2 ^ k : Nat) : Int) := by push_cast; rfl
 rw [c2] at h1 ⊢
 have dn : D < 2 ^ k := by omega
 have kk : 2 ^ k ≤ 2 ^ 63 := Nat.pow_le_pow_right (by decide) hk
 rw [u64_or_nat _ _ (by omega) (by omega), nat_join k _ _ (Nat.mul_mod_left _ _) dn]
 push_cast; rfl
theorem shift_whole {k : Nat} (hk : k ≤ 63) {hi x : Int} : (hi * 2 ^ k + x / 2 ^ (64 - k)) * 18446744073709551616 + IntKind.u64.wrap (x * 2 ^ k) = (hi * 18446744073709551616 + x) * 2 ^ k := by
 have p := two_pow_pos k
 have e : x * 2 ^ k / 18446744073709551616 = x / 2 ^ (64 - k) := by
  rw [← pow_split hk]; exact Int.mul_ediv_mul_of_pos_left _ _ p
 rw [IntKind.wrap_u64, ← e, Int.add_mul, Int.add_mul, Int.mul_right_comm hi]
 generalize hi * 2 ^ k = A at *
 generalize x * 2 ^ k = B at *
 have := Int.mul_right_comm hi (2 ^ k) 18446744073709551616
 omega
theorem shift_div {k : Nat} {n y : Int} : n * 2 ^ k / (y * 2 ^ k) = n / y ∧ n * 2 ^ k % (y * 2 ^ k) / 2 ^ k = n % y := by
 have p := two_pow_pos k
 refine ⟨Int.mul_ediv_mul_of_pos_left _ _ p, ?_⟩
 rw [Int.mul_comm n, Int.mul_comm y, Int.mul_emod_mul_of_pos _ _ p, Int.mul_ediv_cancel_left _ (Int.ne_of_gt p)]
theorem norm_bounds {y : Int} (h0 : 0 < y) (h1 : y < 18446744073709551616) : ∃ k : Nat, k ≤ 63 ∧ 64 - (Lib.bitLen y.toNat : Int) = k ∧ 9223372036854775808 ≤ y * 2 ^ k ∧ y * 2 ^ k < 18446744073709551616 := by
 obtain ⟨Y, rfl⟩ := Int.eq_ofNat_of_zero_le (Int.le_of_lt h0)
 obtain ⟨a, b, c⟩ := Lib.bitLenAux_bounds 64 Y (by omega) (by omega)
 have hl := Lib.bitLen_le Y 64 (by omega) (by omega)
 change 1 ≤ Lib.bitLen Y at a
 change 2 ^ (Lib.bitLen Y - 1) ≤ Y at b
 change Y < 2 ^ Lib.bitLen Y at c
 rw [Int.toNat_natCast]
 generalize Lib.bitLen Y = l at *
 have c2 : ((Y * 2 ^ (64 - l) : Nat) : Int) = (Y : Int) * 2 ^ (64 - l) := by push_cast; rfl
 refine ⟨64 - l, by omega, by omega, ?_, ?_⟩
 ·have : 2 ^ (l - 1) * 2 ^ (64 - l) ≤ Y * 2 ^ (64 - l) := Nat.mul_le_mul_right _ b
  rw [← Nat.pow_add, show l - 1 + (64 - l) = 63 from by omega] at this
  have h : ((9223372036854775808 : Nat) : Int) ≤ ((Y * 2 ^ (64 - l) : Nat) : Int) := Int.ofNat_le.2 this
  rw [c2] at h; exact h
 ·have : Y * 2 ^ (64 - l) < 2 ^ l * 2 ^ (64 - l) := Nat.mul_lt_mul_of_pos_right c (Nat.pow_pos (by decide))
  rw [← Nat.pow_add, show l + (64 - l) = 64 from by omega] at this
  have h : ((Y * 2 ^ (64 - l) : Nat) : Int) < ((18446744073709551616 : Nat) : Int) := Int.ofNat_lt.2 this
  rw [c2] at h; exact h
end Go.Proofs.YtcfidimnbamnkaaGreat

/-
 Plain facts on the loop that finds a digit of a quotient: no program in sight. Conditions: none beyond those written at each fact.
-/
namespace Go.Proofs.YtcfidimnbamnkaaGreat
open Go.RowKit

theorem digit_start {U u y yn1 yn0 : Int} (hy : y = yn1 * 4294967296 + yn0) (h0 : 0 ≤ yn0) (h1 : 2147483648 ≤ yn1) (h2 : yn1 < 4294967296) (hu : u < 4294967296) (hU : 0 ≤ U) (hU1 : U < 18446744073709551616) :
  Digit U u y yn1 (U / yn1) (IntKind.u64.wrap (U - IntKind.u64.wrap (U / yn1 * yn1))) ∧ 0 ≤ U / yn1 ∧ U / yn1 ≤ 8589934592 ∧ 0 ≤ IntKind.u64.wrap (U - IntKind.u64.wrap (U / yn1 * yn1)) ∧ IntKind.u64.wrap (U - IntKind.u64.wrap (U / yn1 * yn1)) < 4294967296 := by
 have hf := digit_first hy h0 (by omega) hu hU
 have hd := Int.mul_ediv_add_emod U yn1
 have hm := Int.emod_lt_of_pos U (show 0 < yn1 by omega)
 have hn := Int.emod_nonneg U (show yn1 ≠ 0 by omega)
 have hq := Int.ediv_nonneg hU (show 0 ≤ yn1 by omega)
 have hq2 : U / yn1 ≤ 8589934592 := by
  have : U / yn1 < 8589934592 + 1 := by
   rw [Int.ediv_lt_iff_lt_mul (by omega)]
   omega
  omega
 rw [Int.mul_comm] at hd
 have e : IntKind.u64.wrap (U - IntKind.u64.wrap (U / yn1 * yn1)) = U % yn1 := by
  rw [IntKind.wrap_u64, IntKind.wrap_u64]
  generalize U / yn1 * yn1 = A at *
  omega
 rw [e]
 refine ⟨⟨hf, Int.le_refl _, ?_, hn⟩, hq, hq2, hn, by omega⟩
 omega
theorem digit_step {U u y yn1 q rh : Int} (h : Digit U u y yn1 q rh) (hlt : (U * 4294967296 + u) / y < q) (h1 : 0 ≤ yn1) : Digit U u y yn1 (q - 1) (rh + yn1) := by
 obtain ⟨a, b, c, d⟩ := h
 refine ⟨by omega, by omega, ?_, by omega⟩
 rw [Int.sub_mul, Int.one_mul]; omega
theorem digit_break {U u y yn1 yn0 q rh : Int} (h : Digit U u y yn1 q rh) (hy : y = yn1 * 4294967296 + yn0) (h0 : 0 ≤ yn0) (h1 : yn0 < 4294967296) (h2 : 0 < yn1) (hU : U < y) (hu : 0 ≤ u) (hr : 4294967296 ≤ rh) :
  q = (U * 4294967296 + u) / y := by
 obtain ⟨a, b, c, d⟩ := h
 have hq : q ≤ 4294967296 := by
  by_cases hq : q ≤ 4294967296
  ·exact hq
  ·exfalso
   have : 4294967297 * yn1 ≤ q * yn1 := Int.mul_le_mul_of_nonneg_right (by omega) (by omega)
   omega
 have hm : q * yn0 ≤ 4294967296 * 4294967295 := Int.mul_le_mul hq (by omega) h0 (by decide)
 have := digit_up (u := u) hy c (by omega) (by omega)
 omega
theorem digit_done {U u y yn1 yn0 q rh : Int} (h : Digit U u y yn1 q rh) (hy : y = yn1 * 4294967296 + yn0) (hy0 : 0 < y) (hle : q * yn0 ≤ 4294967296 * rh + u) : q = (U * 4294967296 + u) / y := by
 obtain ⟨a, b, c, d⟩ := h
 have := digit_up (u := u) hy c hle hy0
 omega
theorem digit_over {U u y yn1 yn0 q rh : Int} (h : Digit U u y yn1 q rh) (hy : y = yn1 * 4294967296 + yn0) (hy0 : 0 < y) (hgt : q * yn0 > 4294967296 * rh + u) : (U * 4294967296 + u) / y < q :=
 digit_down hy h.2.2.1 hgt hy0
theorem digit_big {U u y q : Int} (hU : U < y) (hu : u < 4294967296) (hy0 : 0 < y) (hq : 4294967296 ≤ q) : (U * 4294967296 + u) / y < q := by
 have := digit_small hU hu hy0; omega
end Go.Proofs.YtcfidimnbamnkaaGreat

/-
 math/bits.Div64, where the upper word is not 0. Conditions: words are of 64 bits, the upper word is below the divisor.
-/
namespace Go.Proofs.YtcfidimnbamnkaaGreat
open Go.RowKit Go.Shelf

theorem len_zeros (y : Int) (h0 : 0 ≤ y) (h1 : y ≤ 18446744073709551615) (w : World) :
  Calls Tryz.prog 269 #[.int .u64 y] w fun e w' => e = .returned (.int .i64 (64 - (Lib.bitLen y.toNat : Int))) ∧ w = w' := by
 have hb := Lib.bitLen_le y.toNat 64 (by omega) (by omega)
 go_enter Tryz.func269, Tryz.ntmps269
 go_wp2_with fail
 refine (Tryz.bits_Len64 y _ h0 h1).mono ?_
 rintro e w' ⟨rfl, rfl⟩
 go_wp2_with fail
 go_ret
 exact ⟨rfl, rfl⟩

theorem div_words {hi x y : Int} {k : Nat} (hk : k ≤ 63) (hx : U64 x) (h0 : 0 < hi) (h1 : hi < y) (hy0 : 9223372036854775808 ≤ y * 2 ^ k) (hy1 : y * 2 ^ k < 18446744073709551616) :
  ∃ Y U X yn1 yn0 un1 un0 : Int, IntKind.u64.wrap (y * 2 ^ k) = Y ∧ bits .or .u64 (IntKind.u64.wrap (hi * 2 ^ k)) (x / 2 ^ (64 - k)) = U ∧ IntKind.u64.wrap (x * 2 ^ k) = X ∧
   Y / 4294967296 = yn1 ∧ bits .and .u64 Y 4294967295 = yn0 ∧ X / 4294967296 = un1 ∧ bits .and .u64 X 4294967295 = un0 ∧
   Y = yn1 * 4294967296 + yn0 ∧ 0 ≤ yn0 ∧ yn0 < 4294967296 ∧ 2147483648 ≤ yn1 ∧ yn1 < 4294967296 ∧ 0 ≤ un1 ∧ un1 < 4294967296 ∧ 0 ≤ un0 ∧ un0 < 4294967296 ∧ 0 ≤ U ∧ U < Y ∧ Y < 18446744073709551616 ∧
   val hi x / y = (U * 18446744073709551616 + (un1 * 4294967296 + un0)) / Y ∧ val hi x % y = (U * 18446744073709551616 + (un1 * 4294967296 + un0)) % Y / 2 ^ k := by
 have p := two_pow_pos k
 have eY : IntKind.u64.wrap (y * 2 ^ k) = y * 2 ^ k := by rw [IntKind.wrap_u64]; omega
 have hlt : hi * 2 ^ k + 2 ^ k ≤ y * 2 ^ k := by
  have : (hi + 1) * 2 ^ k ≤ y * 2 ^ k := Int.mul_le_mul_of_nonneg_right (by omega) (Int.le_of_lt p)
  rw [Int.add_mul, Int.one_mul] at this; exact this
 obtain ⟨eU, d0, d1⟩ := shift_join hk (Int.le_of_lt h0) (by omega) hx
 have hw := shift_whole hk (hi := hi) (x := x)
 have hX : U64 (IntKind.u64.wrap (x * 2 ^ k)) := by rw [IntKind.wrap_u64]; exact ⟨by omega, by omega⟩
 obtain ⟨s1, s2⟩ := shift_div (k := k) (n := hi * 18446744073709551616 + x) (y := y)
 have m0 : 0 ≤ hi * 2 ^ k := Int.mul_nonneg (Int.le_of_lt h0) (Int.le_of_lt p)
 refine ⟨_, _, _, _, _, _, _, rfl, rfl, rfl, rfl, rfl, rfl, rfl, ?_⟩
 rw [mask32 _ hX, eY, mask32 _ ⟨by omega, hy1⟩, eU]
 generalize IntKind.u64.wrap (x * 2 ^ k) = X at *
 have eX : X / 4294967296 * 4294967296 + X % 4294967296 = X := by omega
 rw [eX, hw]
 obtain ⟨X0, X1⟩ := hX
 refine ⟨by omega, by omega, by omega, by omega, by omega, by omega, by omega, by omega, by omega, by omega, by omega, hy1, ?_, ?_⟩
 ·rw [s1]; unfold val; rfl
 ·rw [s2]; unfold val; rfl

set_option maxRecDepth 100000 in
set_option maxHeartbeats 1600000 in
theorem div64_walk (hi x y : Int) (k : Nat) (hk : k ≤ 63) (hx : U64 x) (hy : U64 y) (h0 : 0 < hi) (h1 : hi < y) (hy0 : 9223372036854775808 ≤ y * 2 ^ k) (hy1 : y * 2 ^ k < 18446744073709551616)
  (LZ : ∀ w, Calls Tryz.prog 269 #[.int .u64 y] w fun e w' => e = .returned (.int .i64 k) ∧ w = w') (w : World) :
  Calls Tryz.prog 268 #[.int .u64 hi, .int .u64 x, .int .u64 y] w (Ret w (.tuple #[.int .u64 ((val hi x) / y), .int .u64 ((val hi x) % y)])) := by
 obtain ⟨Y,U,_,yn1,yn0,un1,un0,eY,eU,eX,e1,e2,e3,e4,wY,b1,b2,b3,b4,b5,b6,b7,b8,b9,b10,b11,r1,r2⟩ := div_words hk hx h0 h1 hy0 hy1
 rw [r1, r2]
 clear r1 r2 hy0 hy1
 obtain ⟨x0, x1⟩ := hx
 obtain ⟨y0, y1⟩ := hy
 have g1 : (y == 0) = false := by simp; omega
 have g2 : decide (y ≤ hi) = false := by simp; omega
 have g3 : (hi == 0) = false := by simp; omega
 have g4 : ¬ yn1 = 0 := by omega
 have HL := Lib.hid LZ
 have HY := Lib.hid wY
 clear LZ wY
 go_enter Tryz.func268, Tryz.ntmps268
 go_wp2_with fail
 refine (HL.out _).mono ?_
 rintro e w' ⟨rfl, rfl⟩
 go_upto_block 0 with fail
 clear eY eU eX e1 e2 e3 e4
 obtain ⟨D1, hD1⟩ : ∃ D1, D1 = (U * 4294967296 + un1) / Y := ⟨_, rfl⟩
 obtain ⟨R1, hR1⟩ : ∃ R1, R1 = (U * 4294967296 + un1) % Y := ⟨_, rfl⟩
 obtain ⟨D0, hD0⟩ : ∃ D0, D0 = (R1 * 4294967296 + un0) / Y := ⟨_, rfl⟩
 have hY0 : 0 < Y := by omega
 have hrest := digit_rest hD1 hY0 b11
 have hrest0 := digit_rest hD0 hY0 b11
 obtain ⟨hw1, hw2⟩ := digits_whole hD1 hR1 hD0 hY0
 have R1a : 0 ≤ R1 := by rw [hR1]; exact Int.emod_nonneg _ (by omega)
 have R1b : R1 < Y := by rw [hR1]; exact Int.emod_lt_of_pos _ hY0
 have D1a : 0 ≤ D1 := by rw [hD1]; exact Int.ediv_nonneg (by omega) (by omega)
 have D1b : D1 < 4294967296 := by rw [hD1]; exact digit_small b10 b6 hY0
 have D0a : 0 ≤ D0 := by rw [hD0]; exact Int.ediv_nonneg (by omega) (by omega)
 have D0b : D0 < 4294967296 := by rw [hD0]; exact digit_small R1b b8 hY0
 rw [← hR1] at hrest
 have HD1 := Lib.hid hD1
 have HR1 := Lib.hid hR1
 have HD0 := Lib.hid hD0
 have HW1 := Lib.hid hw1
 have HW2 := Lib.hid hw2
 have HRest := Lib.hid hrest
 have HRest0 := Lib.hid hrest0
 clear hD1 hR1 hD0 hw1 hw2 hrest hrest0
 go_cut [15] (fun s15 wx => s15 = .int .u64 D1 ∧ w = wx)
 case first =>
  go_wp2_with fail
  go_loop [15, 16] (fun a b => ∃ q rh : Int, a = .int .u64 q ∧ b = .int .u64 rh ∧ 0 ≤ rh ∧ rh < 4294967296 ∧ 0 ≤ q ∧ q ≤ 8589934592 ∧ Hid (Digit U un1 Y yn1 q rh)) (fun a _ => (intOf a).toNat)
  case atStart =>
   obtain ⟨s1, s2, s3, s4, s5⟩ := digit_start (u := un1) HY.out b1 b3 b4 b6 b9 (by omega)
   exact ⟨_, _, rfl, rfl, s4, s5, s2, s3, Lib.hid s1⟩
  case round =>
   obtain ⟨q, rh, rfl, rfl, r0, r1, q0, q1, HD⟩ := hrel
   by_cases c1 : 4294967296 ≤ q
   ·have st := digit_step HD.out (digit_big b10 b6 (by omega) c1) (by omega)
    have ST := Lib.hid st
    clear st
    by_cases c2 : 4294967296 ≤ rh + yn1
    ·go_wp2_with fail
     go_meet
     case rel => exact ⟨by rw [HD1.out, ← digit_break ST.out HY.out b1 b2 (by omega) b10 b5 c2], rfl⟩
    ·have c3 : ¬ (4294967296 ≤ rh + yn1) := c2
     go_wp2_with fail
     go_round
     case rel => exact ⟨q - 1, rh + yn1, rfl, rfl, by omega, by omega, by omega, by omega, ST⟩
     case measure => simp [intOf]; omega
   ·have mm := digit_mul q0 (by omega) b1 b2
    obtain ⟨m0, m1⟩ := mm
    by_cases c4 : 4294967296 * rh + un1 < q * yn0
    ·have qp : 0 < q := by
      by_cases qp : 0 < q
      ·exact qp
      ·have : q = 0 := by omega
       subst this; omega
     have st := digit_step HD.out (digit_over HD.out HY.out (by omega) c4) (by omega)
     have ST := Lib.hid st
     clear st
     by_cases c2 : 4294967296 ≤ rh + yn1
     ·go_wp2_with fail
      go_meet
      case rel => exact ⟨by rw [HD1.out, ← digit_break ST.out HY.out b1 b2 (by omega) b10 b5 c2], rfl⟩
     ·have c3 : ¬ (4294967296 ≤ rh + yn1) := c2
      go_wp2_with fail
      go_round
      case rel => exact ⟨q - 1, rh + yn1, rfl, rfl, by omega, by omega, by omega, by omega, ST⟩
      case measure => simp [intOf]; omega
    ·have dn := Lib.hid (digit_done HD.out HY.out (by omega) (by omega))
     go_wp2_with fail
     go_meet
     case rel => exact ⟨by rw [HD1.out, ← dn.out], rfl⟩
 case rest =>
  obtain ⟨rfl, rfl⟩ := hcut
  have hrest := HRest.out
  clear HRest
  go_upto_block 2 with fail
  clear hrest
  go_cut [18] (fun s18 wx => s18 = .int .u64 D0 ∧ w = wx)
  case first =>
   go_wp2_with fail
   go_loop [18, 16] (fun a b => ∃ q rh : Int, a = .int .u64 q ∧ b = .int .u64 rh ∧ 0 ≤ rh ∧ rh < 4294967296 ∧ 0 ≤ q ∧ q ≤ 8589934592 ∧ Hid (Digit R1 un0 Y yn1 q rh)) (fun a _ => (intOf a).toNat)
   case atStart =>
    obtain ⟨s1, s2, s3, s4, s5⟩ := digit_start (u := un0) HY.out b1 b3 b4 b8 R1a (by omega)
    exact ⟨_, _, rfl, rfl, s4, s5, s2, s3, Lib.hid s1⟩
   case round =>
    obtain ⟨q, rh, rfl, rfl, r0, r1, q0, q1, HD⟩ := hrel
    by_cases c1 : 4294967296 ≤ q
    ·have st := digit_step HD.out (digit_big R1b b8 (by omega) c1) (by omega)
     have ST := Lib.hid st
     clear st
     by_cases c2 : 4294967296 ≤ rh + yn1
     ·go_wp2_with fail
      go_meet
      case rel => exact ⟨by rw [HD0.out, ← digit_break ST.out HY.out b1 b2 (by omega) R1b b7 c2], rfl⟩
     ·have c3 : ¬ (4294967296 ≤ rh + yn1) := c2
      go_wp2_with fail
      go_round
      case rel => exact ⟨q - 1, rh + yn1, rfl, rfl, by omega, by omega, by omega, by omega, ST⟩
      case measure => simp [intOf]; omega
    ·have mm := digit_mul q0 (by omega) b1 b2
     obtain ⟨m0, m1⟩ := mm
     by_cases c4 : 4294967296 * rh + un0 < q * yn0
     ·have qp : 0 < q := by
       by_cases qp : 0 < q
       ·exact qp
       ·have : q = 0 := by omega
        subst this; omega
      have st := digit_step HD.out (digit_over HD.out HY.out (by omega) c4) (by omega)
      have ST := Lib.hid st
      clear st
      by_cases c2 : 4294967296 ≤ rh + yn1
      ·go_wp2_with fail
       go_meet
       case rel => exact ⟨by rw [HD0.out, ← digit_break ST.out HY.out b1 b2 (by omega) R1b b7 c2], rfl⟩
      ·have c3 : ¬ (4294967296 ≤ rh + yn1) := c2
       go_wp2_with fail
       go_round
       case rel => exact ⟨q - 1, rh + yn1, rfl, rfl, by omega, by omega, by omega, by omega, ST⟩
       case measure => simp [intOf]; omega
     ·have dn := Lib.hid (digit_done HD.out HY.out (by omega) (by omega))
      go_wp2_with fail
      go_meet
      case rel => exact ⟨by rw [HD0.out, ← dn.out], rfl⟩
  case rest =>
   obtain ⟨rfl, rfl⟩ := hcut
   obtain ⟨R0, hR0⟩ : ∃ R0, R0 = (R1 * 4294967296 + un0) % Y := ⟨_, rfl⟩
   have hrest := HRest0.out
   rw [← hR0] at hrest
   have HR0 := Lib.hid hR0
   clear hR0
   go_wp2_with fail
   go_returns
   exact ⟨by rw [HW1.out, HW2.out, ← HR0.out]; rfl, Below.refl _ _⟩
theorem div64_any (hi x y : Int) (hx : U64 x) (hy : U64 y) (h0 : 0 ≤ hi) (h1 : hi < y) (w : World) :
  Calls Tryz.prog 268 #[.int .u64 hi, .int .u64 x, .int .u64 y] w (Ret w (.tuple #[.int .u64 ((val hi x) / y), .int .u64 ((val hi x) % y)])) := by
 by_cases g : hi = 0
 ·subst g
  have := div64_0 x y hx hy h1 w
  rw [show val 0 x = x from by unfold val; omega]
  exact this
 ·obtain ⟨k, hk, e, b0, b1⟩ := norm_bounds (y := y) (by omega) hy.2
  exact div64_walk hi x y k hk hx hy (by omega) h1 b0 b1 (fun w => by rw [← e]; exact len_zeros y hy.1 (by have := hy.2; omega) w) w
end Go.Proofs.YtcfidimnbamnkaaGreat

/-
 More of what package wide answers: how often a number has another one. Conditions: the words of a number are of 64 bits, the divisor is from 1 on where it is divided.
-/
namespace Go.Proofs.YtcfidimnbamnkaaGreat
open Go.RowKit Go.Shelf

theorem over_math {h l m : Int} (hh : U64 h) (hl : U64 l) (hm : U64 m) (h0 : 0 < m) :
  h / m = dh (val h l / m) ∧ val (h % m) l / m = dl (val h l / m) ∧ val (h % m) l % m = val h l % m ∧ U64 (h % m) ∧ h % m < m := by
 have e : val h l = val (h % m) l + m * (h / m * 18446744073709551616) := by
  unfold val
  have hd := Int.mul_ediv_add_emod h m
  rw [← Int.mul_assoc]
  generalize m * (h / m) = A at *
  omega
 have r0 := Int.emod_nonneg h (Int.ne_of_gt h0)
 have r1 := Int.emod_lt_of_pos h h0
 have q0 := Int.ediv_nonneg hh.1 hm.1
 have hv0 : 0 ≤ val (h % m) l := by unfold val; have := hl.1; omega
 have hv : val (h % m) l / m < 18446744073709551616 := by
  rw [Int.ediv_lt_iff_lt_mul h0]
  unfold val
  have := hl.2
  have : (h % m + 1) * 18446744073709551616 ≤ m * 18446744073709551616 := Int.mul_le_mul_of_nonneg_right (by omega) (by decide)
  rw [Int.mul_comm 18446744073709551616 m]
  omega
 have hd0 := Int.ediv_nonneg hv0 hm.1
 have e2 : val h l / m = val (h % m) l / m + h / m * 18446744073709551616 := by
  rw [e, Int.add_mul_ediv_left _ _ (Int.ne_of_gt h0)]
 refine ⟨?_, ?_, ?_, ⟨r0, by have := hm.2; omega⟩, r1⟩
 ·rw [e2]; unfold dh; omega
 ·rw [e2]; unfold dl; omega
 ·rw [e, Int.add_mul_emod_self_left]

theorem over_any (h l m : Int) (hh : U64 h) (hl : U64 l) (hm : U64 m) (h0 : 0 < m) (w : World) :
  Calls Tryz.prog 267 #[distV h l, .int .u64 m] w (Ret w (.tuple #[distV (dh (val h l / m)) (dl (val h l / m)), .int .u64 (val h l % m)])) := by
 obtain ⟨e1, e2, e3, e4, e5⟩ := over_math hh hl hm h0
 rw [← e1, ← e2, ← e3]
 clear e1 e2 e3
 have d1 := div64_0 h m hh hm h0
 have d2 := div64_any (h % m) l m hl hm e4.1 e5
 clear e4 e5
 generalize h / m = A at *
 generalize h % m = B at *
 generalize val B l / m = C at *
 generalize val B l % m = D at *
 have H1 := Lib.hid d1
 have H2 := Lib.hid d2
 clear d1 d2
 go_enter Tryz.func267, Tryz.ntmps267
 go_wp2_with fail
 refine (H1.out _).mono ?_
 rintro e w1 ⟨rfl, hb⟩
 have hHeld : Keeps w [(w.heap.size, 0, .int .u64 h), (w.heap.size, 1, .int .u64 l), (w.heap.size + 1, 0, .int .u64 0), (w.heap.size + 1, 1, .int .u64 0)] _ := Keeps.next (by refine ⟨by go_grown, ?_⟩; simp [Cells, go_sem]) hb
 clear hb
 obtain ⟨⟨kz0,kc0,kf0⟩,⟨kz1,kc1,kf1⟩,⟨kz2,kc2,kf2⟩,⟨kz3,kc3,kf3⟩,_⟩ := hHeld.2
 go_wp2_with fail
 refine (H2.out _).mono ?_
 rintro e w2 ⟨rfl, hb⟩
 replace hHeld := Keeps.next (hHeld) hb
 clear hb kz0 kc0 kf0 kz1 kc1 kf1 kz2 kc2 kf2 kz3 kc3 kf3
 obtain ⟨⟨kz0,kc0,kf0⟩,⟨kz1,kc1,kf1⟩,⟨kz2,kc2,kf2⟩,⟨kz3,kc3,kf3⟩,_⟩ := hHeld.2
 go_wp2_with fail
 refine bodyPost_ret (v := .tuple #[distV A C, .int .u64 D]) (by simp [results, Tryz.results267, go_sem, kc2, kc3]) rfl ?_
 exact ⟨rfl, by first | (with_reducible exact hHeld.1) | (have hB := hHeld.1; have hz := hB.size; go_grown)⟩

theorem divide_math {hi lo m : Int} (h : I64 hi) (k : U64 lo) (hm : I64 m) (h0 : 0 < m) (hp : 0 ≤ hi) :
  mag (val hi lo) = val hi lo ∧ 0 ≤ val hi lo ∧ val hi lo < 340282366920938463463374607431768211456 ∧ U64 m ∧ 0 ≤ val hi lo / m ∧ val hi lo / m < 340282366920938463463374607431768211456 ∧
  shi false (dh (val hi lo / m)) (dl (val hi lo / m)) = rhi (val hi lo / m) ∧ slo false (dl (val hi lo / m)) = rlo (val hi lo / m) ∧ 0 ≤ val hi lo % m ∧ val hi lo % m < m := by
 have hv0 : 0 ≤ val hi lo := by unfold val; have := k.1; omega
 have hF := fits_val h k
 have hv1 : val hi lo < 170141183460469231731687303715884105728 := by unfold Fits at hF; exact hF.2
 have d0 := Int.ediv_nonneg hv0 (Int.le_of_lt h0)
 have d1 : val hi lo / m ≤ val hi lo := Int.ediv_le_self _ hv0
 have u : U64 m := ⟨by omega, by have := hm.2; omega⟩
 have u1 : U64 (dh (val hi lo / m)) := dh_u64 d0 (by omega)
 have g : sfit false (dh (val hi lo / m)) (dl (val hi lo / m)) = true := by
  unfold sfit dh; simp; omega
 obtain ⟨y1, y2, y3⟩ := signed_yes u1 (dl_u64 _) g
 rw [val_d] at y2 y3
 have es : sgn false (val hi lo / m) = val hi lo / m := by simp [sgn]
 rw [es] at y2 y3
 refine ⟨?_, hv0, by omega, u, d0, by omega, y2, y3, Int.emod_nonneg _ (by omega), Int.emod_lt_of_pos _ h0⟩
 unfold mag; rw [if_neg (by omega)]

set_option maxHeartbeats 800000 in
theorem divide_any (hi lo m : Int) (h : I64 hi) (k : U64 lo) (hm : I64 m) (h0 : 0 < m) (hp : 0 ≤ hi) (w : World) :
  Calls Tryz.prog 261 #[wideV hi lo, .int .i64 m] w (Ret w (.tuple #[wideV (rhi (val hi lo / m)) (rlo (val hi lo / m)), .int .i64 (val hi lo % m)])) := by
 obtain ⟨e1, v0, v1, um, q0, q1, s1, s2, r0, r1⟩ := divide_math h k hm h0 hp
 have f1 := far_any hi lo h k
 rw [e1] at f1
 have o1 := over_any (dh (val hi lo)) (dl (val hi lo)) m (dh_u64 v0 v1) (dl_u64 _) um h0
 rw [val_d] at o1
 have g1 := signed_any false (dh (val hi lo / m)) (dl (val hi lo / m)) (dh_u64 q0 q1) (dl_u64 _)
 rw [s1, s2] at g1
 have hm2 := hm.2
 have em : IntKind.u64.wrap m = m := by rw [IntKind.wrap_u64]; omega
 clear e1 v0 v1 um q0 q1 s1 s2 hp
 generalize rhi (val hi lo / m) = A at *
 generalize rlo (val hi lo / m) = B at *
 generalize sfit false (dh (val hi lo / m)) (dl (val hi lo / m)) = F at *
 generalize dh (val hi lo / m) = C at *
 generalize dl (val hi lo / m) = D at *
 generalize val hi lo % m = R at *
 have H1 := Lib.hid f1
 have H2 := Lib.hid o1
 have H3 := Lib.hid g1
 clear f1 o1 g1
 go_enter Tryz.func261, Tryz.ntmps261
 go_wp2_with fail
 refine (H1.out _).mono ?_
 rintro e w1 ⟨rfl, hb⟩
 have hHeld : Keeps w [(w.heap.size, 0, .int .i64 hi), (w.heap.size, 1, .int .u64 lo), (w.heap.size + 1, 0, .int .i64 0), (w.heap.size + 1, 1, .int .u64 0)] _ := Keeps.next (by refine ⟨by go_grown, ?_⟩; simp [Cells, go_sem]) hb
 clear hb
 obtain ⟨⟨kz0,kc0,kf0⟩,⟨kz1,kc1,kf1⟩,⟨kz2,kc2,kf2⟩,⟨kz3,kc3,kf3⟩,_⟩ := hHeld.2
 go_wp2_with fail
 refine (H2.out _).mono ?_
 rintro e w2 ⟨rfl, hb⟩
 replace hHeld := Keeps.next (hHeld) hb
 clear hb kz0 kc0 kf0 kz1 kc1 kf1 kz2 kc2 kf2 kz3 kc3 kf3
 obtain ⟨⟨kz0,kc0,kf0⟩,⟨kz1,kc1,kf1⟩,⟨kz2,kc2,kf2⟩,⟨kz3,kc3,kf3⟩,_⟩ := hHeld.2
 go_wp2_with fail
 refine (H3.out _).mono ?_
 rintro e w3 ⟨rfl, hb⟩
 replace hHeld := Keeps.next ((hHeld.alloc _)) hb
 clear hb kz0 kc0 kf0 kz1 kc1 kf1 kz2 kc2 kf2 kz3 kc3 kf3
 obtain ⟨⟨kz0,kc0,kf0⟩,⟨kz1,kc1,kf1⟩,⟨kz2,kc2,kf2⟩,⟨kz3,kc3,kf3⟩,_⟩ := hHeld.2
 go_wp2_with fail
 refine bodyPost_ret (v := .tuple #[wideV A B, .int .i64 R]) (by simp [results, Tryz.results261, go_sem, World.cell?_alloc_lt, kc2, kc3, kz2]) rfl ?_
 exact ⟨rfl, by first | (with_reducible exact hHeld.1) | (have hB := hHeld.1; have hz := hB.size; go_grown)⟩
end Go.Proofs.YtcfidimnbamnkaaGreat

/-
 More of what package wide answers: the quotient, rounded down, and what is left. Conditions: the words of a number are of 64 bits.
-/
namespace Go.Proofs.YtcfidimnbamnkaaGreat
open Go.RowKit Go.Shelf

def qhi (z m : Int) : Int := if m < 1 then 0 else rhi (z / m)
def qlo (z m : Int) : Int := if m < 1 then 0 else rlo (z / m)
def qrest (z m : Int) : Int := if m < 1 then 0 else z % m
def qcode (m : Int) : Int := if m < 1 then 2 else 0
abbrev divV (z m : Int) : Value := .tuple #[wideV (qhi z m) (qlo z m), .int .i64 (qrest z m), .int .i64 (qcode m)]

theorem mirror_val {hi lo : Int} (h : I64 hi) (k : U64 lo) : val (-1 - hi) (18446744073709551615 - lo) = -1 - val hi lo ∧ I64 (-1 - hi) ∧ U64 (18446744073709551615 - lo) := by
 obtain ⟨_, _⟩ := h; obtain ⟨_, _⟩ := k
 refine ⟨by unfold val; omega, ⟨by omega, by omega⟩, ⟨by omega, by omega⟩⟩
theorem mirror_div {n m : Int} (h0 : 0 < m) : (-1 - n) / m = -1 - n / m ∧ (-1 - n) % m = m - 1 - n % m := by
 have hd := Int.mul_ediv_add_emod n m
 have r0 := Int.emod_nonneg n (Int.ne_of_gt h0)
 have r1 := Int.emod_lt_of_pos n h0
 have e : -1 - n = (m - 1 - n % m) + m * (-1 - n / m) := by
  rw [Int.mul_sub]
  generalize m * (n / m) = A at *
  omega
 constructor
 ·rw [e, Int.add_mul_ediv_left _ _ (Int.ne_of_gt h0), Int.ediv_eq_zero_of_lt (by omega) (by omega)]; omega
 ·rw [e, Int.add_mul_emod_self_left, Int.emod_eq_of_lt (by omega) (by omega)]
theorem mirror_r {z : Int} (h : Fits z) (h' : Fits (-1 - z)) : -1 - rhi z = rhi (-1 - z) ∧ 18446744073709551615 - rlo z = rlo (-1 - z) := by
 unfold rhi rlo; rw [if_pos h, if_pos h', if_pos h, if_pos h']; omega
theorem div_fits {z m : Int} (h : Fits z) (h0 : 0 < m) : Fits (z / m) := by
 unfold Fits at *
 have a : z / m ≤ 170141183460469231731687303715884105727 := by
  have : z / m < 170141183460469231731687303715884105727 + 1 := by
   rw [Int.ediv_lt_iff_lt_mul h0]
   omega
  omega
 have b : -170141183460469231731687303715884105728 ≤ z / m := by
  rw [Int.le_ediv_iff_mul_le h0]
  omega
 omega

theorem div_no (hi lo m : Int) (h0 : m < 1) (w : World) :
  Calls Tryz.prog 251 #[wideV hi lo, .int .i64 m] w (Ret w (.tuple #[wideV 0 0, .int .i64 0, .int .i64 2])) := by
 go_enter Tryz.func251, Tryz.ntmps251
 go_wp2
 go_returns
 exact ⟨rfl, by go_grown⟩

set_option maxHeartbeats 800000 in
theorem div_up (hi lo m : Int) (h : I64 hi) (k : U64 lo) (hm : I64 m) (h0 : 1 ≤ m) (hp : 0 ≤ hi) (w : World) :
  Calls Tryz.prog 251 #[wideV hi lo, .int .i64 m] w (Ret w (.tuple #[wideV (rhi (val hi lo / m)) (rlo (val hi lo / m)), .int .i64 (val hi lo % m), .int .i64 0])) := by
 have d1 := divide_any hi lo m h k hm h0 hp
 generalize rhi (val hi lo / m) = A at *
 generalize rlo (val hi lo / m) = B at *
 generalize val hi lo % m = R at *
 have G := Lib.hid (show decide (hi < 0) = false from by simp; omega)
 have H1 := Lib.hid d1
 have g : ¬ m < 1 := by omega
 clear d1
 go_enter Tryz.func251, Tryz.ntmps251
 go_wp2_with fail
 refine (below_is hi lo false G.out _).mono ?_
 rintro e w1 ⟨rfl, hb⟩
 have hHeld : Keeps w [(w.heap.size, 0, .int .i64 hi), (w.heap.size, 1, .int .u64 lo), (w.heap.size + 1, 0, .int .i64 0), (w.heap.size + 1, 1, .int .u64 0)] _ := Keeps.next (by refine ⟨by go_grown, ?_⟩; simp [Cells, go_sem]) hb
 clear hb
 obtain ⟨⟨kz0,kc0,kf0⟩,⟨kz1,kc1,kf1⟩,⟨kz2,kc2,kf2⟩,⟨kz3,kc3,kf3⟩,_⟩ := hHeld.2
 go_wp2_with fail
 refine (H1.out _).mono ?_
 rintro e w2 ⟨rfl, hb⟩
 replace hHeld := Keeps.next (hHeld) hb
 clear hb kz0 kc0 kf0 kz1 kc1 kf1 kz2 kc2 kf2 kz3 kc3 kf3
 obtain ⟨⟨kz0,kc0,kf0⟩,⟨kz1,kc1,kf1⟩,⟨kz2,kc2,kf2⟩,⟨kz3,kc3,kf3⟩,_⟩ := hHeld.2
 go_wp2_with fail
 refine bodyPost_ret (v := .tuple #[wideV A B, .int .i64 R, .int .i64 0]) (by simp [results, Tryz.results251, go_sem, World.cell?_alloc_lt, kc2, kc3, kz2]) rfl ?_
 exact ⟨rfl, by first | (with_reducible exact hHeld.1) | (have hB := hHeld.1; have hz := hB.size; go_grown)⟩

set_option maxHeartbeats 800000 in
theorem div_down (hi lo m : Int) (h : I64 hi) (k : U64 lo) (hm : I64 m) (h0 : 1 ≤ m) (hp : hi < 0) (w : World) :
  Calls Tryz.prog 251 #[wideV hi lo, .int .i64 m] w (Ret w (.tuple #[wideV (rhi (val hi lo / m)) (rlo (val hi lo / m)), .int .i64 (val hi lo % m), .int .i64 0])) := by
 obtain ⟨v1, v2, v3⟩ := mirror_val h k
 have d1 := divide_any _ _ m v2 v3 hm h0 (by omega)
 have hF := fits_val v2 v3
 rw [v1] at d1 hF
 have hF1 := div_fits hF (m := m) (by omega)
 obtain ⟨x1, x2⟩ := mirror_div (n := -1 - val hi lo) (m := m) (by omega)
 rw [show -1 - (-1 - val hi lo) = val hi lo from by omega] at x1 x2
 have hF2 := div_fits (fits_val h k) (m := m) (by omega)
 obtain ⟨y1, y2⟩ := mirror_r hF1 (by rw [← x1]; exact hF2)
 rw [← x1] at y1 y2
 have mi1 := mirror_any hi lo h k
 have mi2 := mirror_any (rhi ((-1 - val hi lo) / m)) (rlo ((-1 - val hi lo) / m)) (rhi_i64 _) (rlo_u64 _)
 rw [y1, y2] at mi2
 rw [x2]
 have r0 := Int.emod_nonneg (-1 - val hi lo) (show m ≠ 0 by omega)
 have r1 := Int.emod_lt_of_pos (-1 - val hi lo) (show 0 < m by omega)
 clear v1 v2 v3 hF hF1 hF2 x1 x2 y1 y2
 generalize rhi (val hi lo / m) = A at *
 generalize rlo (val hi lo / m) = B at *
 generalize (-1 - val hi lo) % m = R at *
 generalize rhi ((-1 - val hi lo) / m) = C at *
 generalize rlo ((-1 - val hi lo) / m) = D at *
 have G := Lib.hid (show decide (hi < 0) = true from by simp; omega)
 have H1 := Lib.hid d1
 have H2 := Lib.hid mi1
 have H3 := Lib.hid mi2
 have hm2 := hm.2
 have g : ¬ m < 1 := by omega
 clear d1 mi1 mi2
 go_enter Tryz.func251, Tryz.ntmps251
 go_wp2_with fail
 refine (below_is hi lo true G.out _).mono ?_
 rintro e w1 ⟨rfl, hb⟩
 have hHeld : Keeps w [(w.heap.size, 0, .int .i64 hi), (w.heap.size, 1, .int .u64 lo), (w.heap.size + 1, 0, .int .i64 0), (w.heap.size + 1, 1, .int .u64 0)] _ := Keeps.next (by refine ⟨by go_grown, ?_⟩; simp [Cells, go_sem]) hb
 clear hb
 obtain ⟨⟨kz0,kc0,kf0⟩,⟨kz1,kc1,kf1⟩,⟨kz2,kc2,kf2⟩,⟨kz3,kc3,kf3⟩,_⟩ := hHeld.2
 go_wp2_with fail
 refine (H2.out _).mono ?_
 rintro e w2 ⟨rfl, hb⟩
 replace hHeld := Keeps.next (hHeld) hb
 clear hb kz0 kc0 kf0 kz1 kc1 kf1 kz2 kc2 kf2 kz3 kc3 kf3
 obtain ⟨⟨kz0,kc0,kf0⟩,⟨kz1,kc1,kf1⟩,⟨kz2,kc2,kf2⟩,⟨kz3,kc3,kf3⟩,_⟩ := hHeld.2
 go_wp2_with fail
 refine (H1.out _).mono ?_
 rintro e w3 ⟨rfl, hb⟩
 replace hHeld := Keeps.next (hHeld) hb
 clear hb kz0 kc0 kf0 kz1 kc1 kf1 kz2 kc2 kf2 kz3 kc3 kf3
 obtain ⟨⟨kz0,kc0,kf0⟩,⟨kz1,kc1,kf1⟩,⟨kz2,kc2,kf2⟩,⟨kz3,kc3,kf3⟩,_⟩ := hHeld.2
 go_wp2_with fail
 refine (H3.out _).mono ?_
 rintro e w4 ⟨rfl, hb⟩
 replace hHeld := Keeps.next ((hHeld.alloc _)) hb
 clear hb kz0 kc0 kf0 kz1 kc1 kf1 kz2 kc2 kf2 kz3 kc3 kf3
 obtain ⟨⟨kz0,kc0,kf0⟩,⟨kz1,kc1,kf1⟩,⟨kz2,kc2,kf2⟩,⟨kz3,kc3,kf3⟩,_⟩ := hHeld.2
 go_wp2_with fail
 refine bodyPost_ret (v := .tuple #[wideV A B, .int .i64 (m - 1 - R), .int .i64 0]) (by simp [results, Tryz.results251, go_sem, kc2, kc3]) rfl ?_
 exact ⟨rfl, by first | (with_reducible exact hHeld.1) | (have hB := hHeld.1; have hz := hB.size; go_grown)⟩

theorem div_any (hi lo m : Int) (h : I64 hi) (k : U64 lo) (hm : I64 m) (w : World) :
  Calls Tryz.prog 251 #[wideV hi lo, .int .i64 m] w (Ret w (divV (val hi lo) m)) := by
 by_cases g : m < 1
 ·have := div_no hi lo m g w
  simpa [divV, qhi, qlo, qrest, qcode, g] using this
 ·have e : divV (val hi lo) m = .tuple #[wideV (rhi (val hi lo / m)) (rlo (val hi lo / m)), .int .i64 (val hi lo % m), .int .i64 0] := by simp [divV, qhi, qlo, qrest, qcode, g]
  rw [e]
  by_cases p : hi < 0
  ·exact div_down hi lo m h k hm (by omega) p w
  ·exact div_up hi lo m h k hm (by omega) (by omega) w
attribute [irreducible] qhi qlo qrest qcode
end Go.Proofs.YtcfidimnbamnkaaGreat

/-
 More of what package wide answers: sums, number by number. Conditions: the words of a number are of 64 bits.
-/
namespace Go.Proofs.YtcfidimnbamnkaaGreat
open Go.RowKit Go.Shelf

def ghi (sh sl nh nl : Int) : Int := wrap64 (wrap64 (sh + nh) + (sl + nl) / 18446744073709551616)
def glo (sl nl : Int) : Int := (sl + nl) % 18446744073709551616
def gfit (sh sl nh nl : Int) : Bool := decide (sh < 0) != decide (nh < 0) || decide (ghi sh sl nh nl < 0) == decide (nh < 0)

set_option maxRecDepth 100000 in
set_option maxHeartbeats 1600000 in
theorem grow_walk (s : Nat) (sh sl nh nl c lo : Int) (f0 ba bn bc : Bool) (w : World) (k0 : 0 ≤ c) (k1 : c ≤ 1)
  (hs : Cells [(s, 0, .int .i64 sh), (s, 1, .int .u64 sl), (s, 2, .bool f0)] w)
  (Q : ∀ w, (callFunc 147 #[.int .u64 sl, .int .u64 nl, .int .u64 0]).run Tryz.prog w = .ok (.value (.tuple #[.int .u64 lo, .int .u64 c])) w)
  (ea : decide (sh < 0) = ba) (en : decide (nh < 0) = bn) (ec : decide (wrap64 (wrap64 (sh + nh) + c) < 0) = bc) :
  Calls Tryz.prog 146 #[wideV nh nl, .pointer (some ⟨s, 0, none⟩)] w
   (Wrote w s (.tuple #[]) [(s, 0, .int .i64 (wrap64 (wrap64 (sh + nh) + c))), (s, 1, .int .u64 lo), (s, 2, .bool (ba != bn || bc == bn))]) := by
 have q0 := Lib.hid Q
 have HA := Lib.hid ea
 have HN := Lib.hid en
 clear Q
 have hK : KeepsX w s [(s, 0, .int .i64 sh), (s, 1, .int .u64 sl)] w := ⟨Near.refl _ _, hs.1, hs.2.1, trivial⟩
 have hK2 : KeepsX w s [(s, 2, .bool f0)] w := ⟨Near.refl _ _, hs.2.2.1, trivial⟩
 obtain ⟨⟨z0, c0, f0'⟩, ⟨z1, c1, f1⟩, ⟨z2, c2, f2⟩, _⟩ := hs
 by_cases g : ba = bn
 ·subst g
  rw [show (ba != ba || bc == ba) = (bc == ba) from by simp]
  cases ba <;> cases bc
  all_goals
   go_enter Tryz.func146, Tryz.ntmps146
   go_wp2_with (simp only [q0.out])
   refine region_keepsXB (w0 := w) (s := s) (L := [(s, 0, .int .i64 sh), (s, 1, .int .u64 sl), (w.heap.size, 0, .int .i64 nh), (w.heap.size, 1, .int .u64 nl)]) (M := [(s, 2, .bool f0)]) (by kernel_rfl) ((hK.alloc _).app (newX2 (hK.alloc _))) (hK2.alloc _) (fun hHeld0 hT0 => ?_)
   refine tv 0 24 rfl rfl ?_
   try go_frame
   refine tk 1 25 rfl rfl ?_ ?_ ?_
   rotate_left
   ·intro wq hSw; obtain ⟨⟨_,_,_⟩,⟨_,_,_⟩,⟨_,_,_⟩,⟨_,_,_⟩,_⟩ := hSw.2; go_simp; (try with_reducible rfl)
   try go_frame
   refine tk 3 27 rfl rfl ?_ ?_ ?_
   rotate_left
   ·intro wq hSw; obtain ⟨⟨_,_,_⟩,⟨_,_,_⟩,⟨_,_,_⟩,⟨_,_,_⟩,_⟩ := hSw.2; go_simp; (try with_reducible rfl)
   try go_frame
   refine ty [2] ?_
   refine AllReadyH.cons rfl (fun K hK => ?_) AllReadyH.nil
   go_simp
   (first | ((with_reducible refine (below_is sh sl _ HA.out _).mono ?_); rintro e w1 ⟨rfl, hb⟩) | ((with_reducible refine (below_is nh nl _ HN.out _).mono ?_); rintro e w1 ⟨rfl, hb⟩))
   refine hK.out _ _ (hHeld0.next hb) (fun hHeld1 => ?_)
   replace hT0 := hT0.next hb
   clear hK K; try clear hb
   try go_frame
   refine ty [4] ?_
   refine AllReadyH.cons rfl (fun K hK => ?_) AllReadyH.nil
   go_simp
   (first | ((with_reducible refine (below_is sh sl _ HA.out _).mono ?_); rintro e w1 ⟨rfl, hb⟩) | ((with_reducible refine (below_is nh nl _ HN.out _).mono ?_); rintro e w1 ⟨rfl, hb⟩))
   refine hK.out _ _ (hHeld1.next hb) (fun hHeld2 => ?_)
   replace hT0 := hT0.next hb
   clear hK K; try clear hb
   try go_frame
   refine tv 5 29 rfl rfl ?_
   try go_frame
   refine tv 6 30 rfl rfl ?_
   try go_frame
   refine tv 7 31 rfl rfl ?_
   try go_frame
   refine tv 8 32 rfl rfl ?_
   try go_frame
   refine tk 9 33 rfl rfl ?_ ?_ ?_
   rotate_left
   ·intro wq hSw; obtain ⟨⟨_,_,_⟩,⟨_,_,_⟩,⟨_,_,_⟩,⟨_,_,_⟩,_⟩ := hSw.2; go_simp; (try with_reducible rfl)
   try go_frame
   refine ty [10] ?_
   refine AllReadyH.cons rfl (fun K hK => ?_) AllReadyH.nil
   go_simp
   (first | ((with_reducible refine (below_is sh sl _ HA.out _).mono ?_); rintro e w1 ⟨rfl, hb⟩) | ((with_reducible refine (below_is nh nl _ HN.out _).mono ?_); rintro e w1 ⟨rfl, hb⟩))
   refine hK.out _ _ (hHeld2.next hb) (fun hHeld3 => ?_)
   replace hT0 := hT0.next hb
   clear hK K; try clear hb
   try go_frame
   refine tv 11 35 rfl rfl ?_
   try go_frame
   refine tv 12 36 rfl rfl ?_
   try go_frame
   refine tv 13 37 rfl rfl ?_
   try go_frame
   refine ty [14] ?_
   refine AllReadyH.cons rfl (fun K hK => ?_) AllReadyH.nil
   obtain ⟨⟨t0z0, t0c0, t0f0⟩, _⟩ := hT0.2; (try simp at t0z0); (try simp at t0c0); (try simp at t0f0)
   go_simp
   refine hK.out _ _ (by first | exact hHeld3.alloc _ | (repeat (first | (with_reducible exact hHeld3) | (with_reducible exact (KeepsX.undrewR hHeld3)) | (refine KeepsX.set ?_ (by simp <;> omega) rfl (by simp <;> omega) _) | (with_reducible refine KeepsX.drew ?_)))) (fun hHeld4 => ?_)
   clear hK K; try clear hb
   try go_frame
   refine wpAnyH_done (by kernel_rfl) ?_ _
   have hHeld := hHeld4
   obtain ⟨⟨_,_,_⟩,⟨_,_,_⟩,⟨_,_,_⟩,⟨_,_,_⟩,_⟩ := hHeld.2
   go_wp2_with fail
   go_returns
   exact ⟨rfl, (hHeld.1.set (Or.inl rfl) _).set (Or.inl rfl) _, ⟨by simp; omega, by simp [go_sem, *], by simp [*]⟩, ⟨by simp; omega, by simp [go_sem, *], by simp [*]⟩, ⟨by simp; omega, by simp [go_sem, *], by simp [*]⟩, trivial⟩
 ·rw [show (ba != bn || bc == bn) = true from by simp [g]]
  cases ba <;> cases bn <;> first | (exact absurd rfl g) | skip
  all_goals
   go_enter Tryz.func146, Tryz.ntmps146
   go_wp2_with (simp only [q0.out])
   refine region_keepsXB (w0 := w) (s := s) (L := [(s, 0, .int .i64 sh), (s, 1, .int .u64 sl), (w.heap.size, 0, .int .i64 nh), (w.heap.size, 1, .int .u64 nl)]) (M := [(s, 2, .bool f0)]) (by kernel_rfl) ((hK.alloc _).app (newX2 (hK.alloc _))) (hK2.alloc _) (fun hHeld0 hT0 => ?_)
   refine tv 0 24 rfl rfl ?_
   try go_frame
   refine tk 1 25 rfl rfl ?_ ?_ ?_
   rotate_left
   ·intro wq hSw; obtain ⟨⟨_,_,_⟩,⟨_,_,_⟩,⟨_,_,_⟩,⟨_,_,_⟩,_⟩ := hSw.2; go_simp; (try with_reducible rfl)
   try go_frame
   refine tk 3 27 rfl rfl ?_ ?_ ?_
   rotate_left
   ·intro wq hSw; obtain ⟨⟨_,_,_⟩,⟨_,_,_⟩,⟨_,_,_⟩,⟨_,_,_⟩,_⟩ := hSw.2; go_simp; (try with_reducible rfl)
   try go_frame
   refine ty [2] ?_
   refine AllReadyH.cons rfl (fun K hK => ?_) AllReadyH.nil
   go_simp
   (first | ((with_reducible refine (below_is sh sl _ HA.out _).mono ?_); rintro e w1 ⟨rfl, hb⟩) | ((with_reducible refine (below_is nh nl _ HN.out _).mono ?_); rintro e w1 ⟨rfl, hb⟩))
   refine hK.out _ _ (hHeld0.next hb) (fun hHeld1 => ?_)
   replace hT0 := hT0.next hb
   clear hK K; try clear hb
   try go_frame
   refine ty [4] ?_
   refine AllReadyH.cons rfl (fun K hK => ?_) AllReadyH.nil
   go_simp
   (first | ((with_reducible refine (below_is sh sl _ HA.out _).mono ?_); rintro e w1 ⟨rfl, hb⟩) | ((with_reducible refine (below_is nh nl _ HN.out _).mono ?_); rintro e w1 ⟨rfl, hb⟩))
   refine hK.out _ _ (hHeld1.next hb) (fun hHeld2 => ?_)
   replace hT0 := hT0.next hb
   clear hK K; try clear hb
   try go_frame
   refine tv 5 29 rfl rfl ?_
   try go_frame
   refine tv 6 30 rfl rfl ?_
   try go_frame
   refine tu 7 31 rfl rfl ?_
   try go_frame
   refine tu 8 32 rfl rfl ?_
   try go_frame
   refine tu 9 33 rfl rfl ?_
   try go_frame
   refine tu 10 34 rfl rfl ?_
   try go_frame
   refine tu 11 35 rfl rfl ?_
   try go_frame
   refine tv 12 36 rfl rfl ?_
   try go_frame
   refine tv 13 37 rfl rfl ?_
   try go_frame
   refine ty [14] ?_
   refine AllReadyH.cons rfl (fun K hK => ?_) AllReadyH.nil
   obtain ⟨⟨t0z0, t0c0, t0f0⟩, _⟩ := hT0.2; (try simp at t0z0); (try simp at t0c0); (try simp at t0f0)
   go_simp
   refine hK.out _ _ (by first | exact hHeld2.alloc _ | (repeat (first | (with_reducible exact hHeld2) | (with_reducible exact (KeepsX.undrewR hHeld2)) | (refine KeepsX.set ?_ (by simp <;> omega) rfl (by simp <;> omega) _) | (with_reducible refine KeepsX.drew ?_)))) (fun hHeld3 => ?_)
   clear hK K; try clear hb
   try go_frame
   refine wpAnyH_done (by kernel_rfl) ?_ _
   have hHeld := hHeld3
   obtain ⟨⟨_,_,_⟩,⟨_,_,_⟩,⟨_,_,_⟩,⟨_,_,_⟩,_⟩ := hHeld.2
   go_wp2_with fail
   go_returns
   exact ⟨rfl, (hHeld.1.set (Or.inl rfl) _).set (Or.inl rfl) _, ⟨by simp; omega, by simp [go_sem, *], by simp [*]⟩, ⟨by simp; omega, by simp [go_sem, *], by simp [*]⟩, ⟨by simp; omega, by simp [go_sem, *], by simp [*]⟩, trivial⟩
end Go.Proofs.YtcfidimnbamnkaaGreat

/-
 More of what package wide answers: sums of rows, and of two numbers. Conditions: the words of a number are of 64 bits.
-/
namespace Go.Proofs.YtcfidimnbamnkaaGreat
open Go.RowKit Go.Shelf

def tot (z : Int) : List (Int × Int) → Option Int
 | [] => some z
 | x :: l => if Fits (z + val x.1 x.2) then tot (z + val x.1 x.2) l else none
def ohi : Option Int → Int | some z => rhi z | none => 0
def olo : Option Int → Int | some z => rlo z | none => 0
def ocode : Option Int → Int | some _ => 0 | none => 5
abbrev totV (o : Option Int) : Value := .tuple #[wideV (ohi o) (olo o), .int .i64 (ocode o)]

theorem grow_math {z nh nl : Int} (hz : Fits z) (h : I64 nh) (k : U64 nl) :
  gfit (rhi z) (rlo z) nh nl = decide (Fits (z + val nh nl)) ∧ (Fits (z + val nh nl) → ghi (rhi z) (rlo z) nh nl = rhi (z + val nh nl) ∧ glo (rlo z) nl = rlo (z + val nh nl)) := by
 obtain ⟨_, _⟩ := h; obtain ⟨_, _⟩ := k
 have e1 : rhi z = z / 18446744073709551616 := by unfold rhi; rw [if_pos hz]
 have e2 : rlo z = z % 18446744073709551616 := by unfold rlo; rw [if_pos hz]
 unfold Fits at hz
 constructor
 ·rw [Bool.eq_iff_iff]
  unfold gfit ghi
  simp only [Bool.or_eq_true, bne_iff_ne, ne_eq, beq_iff_eq, decide_eq_decide, decide_eq_true_eq]
  rw [e1, e2]
  unfold Fits val wrap64
  omega
 ·intro f
  have f' := f
  unfold Fits val at f'
  unfold rhi rlo; rw [if_pos f, if_pos f, if_pos (by unfold Fits; omega), if_pos (by unfold Fits; omega)]
  unfold ghi glo val wrap64
  omega
theorem grow_any (s : Nat) (z nh nl : Int) (f0 : Bool) (hz : Fits z) (h : I64 nh) (k : U64 nl) (w : World)
  (hs : Cells [(s, 0, .int .i64 (rhi z)), (s, 1, .int .u64 (rlo z)), (s, 2, .bool f0)] w) :
  Calls Tryz.prog 146 #[wideV nh nl, .pointer (some ⟨s, 0, none⟩)] w
   (Wrote w s (.tuple #[]) [(s, 0, .int .i64 (ghi (rhi z) (rlo z) nh nl)), (s, 1, .int .u64 (glo (rlo z) nl)), (s, 2, .bool (decide (Fits (z + val nh nl))))]) := by
 have u := rlo_u64 z
 have hw := grow_walk s (rhi z) (rlo z) nh nl ((rlo z + nl) / 18446744073709551616) ((rlo z + nl) % 18446744073709551616) f0 _ _ _ w
  (by have := u.1; have := k.1; omega) (by have := u.2; have := k.2; omega) hs (add64_0 (rlo z) nl u.1 k.1) rfl rfl rfl
 have g := (grow_math hz h k).1
 unfold gfit ghi at g
 rw [g] at hw
 exact hw

set_option maxRecDepth 100000 in
set_option maxHeartbeats 1600000 in
theorem total_walk (b off cap : Nat) (xs : List (Int × Int)) (hx : ∀ x ∈ xs, I64 x.1 ∧ U64 x.2) (hn : xs.length ≤ 1048576) (w : World) (hb : b < w.heap.size)
  (hc : ∀ i, (h : i < xs.length) → w.cell? ⟨b, off + i * 2, none⟩ = some (.int .i64 xs[i].1) ∧ w.cell? ⟨b, off + i * 2 + 1, none⟩ = some (.int .u64 xs[i].2)) :
  Calls Tryz.prog 92 #[.slice (some ⟨b, off, none⟩) xs.length cap] w (Ret w (totV (tot 0 xs))) := by
 have HC := Lib.hid hc
 have HX := Lib.hid hx
 clear hc hx
 go_enter Tryz.func92, Tryz.ntmps92
 go_wp2_with fail
 go_step3
 go_wp2_with fail
 go_step3
 go_upto_block 0 with fail
 go_cut [12] (fun _s wx => ∃ H Lo : Int, ∃ F : Bool, Hid (totV (tot 0 xs) = .tuple #[wideV (if F then H else 0) (if F then Lo else 0), .int .i64 (if F then 0 else 5)]) ∧ Keeps w [(w.heap.size, 0, .int .i64 0), (w.heap.size, 1, .int .u64 0), (w.heap.size + 1, 0, .int .i64 H), (w.heap.size + 1, 1, .int .u64 Lo), (w.heap.size + 1, 2, .bool F)] wx)
 case first =>
  go_wp2_with fail
  go_loopw [12] (fun i wr => ∃ k : Nat, k ≤ xs.length ∧ i = .int .i64 k ∧ ∃ z : Int, Hid (tot 0 xs = tot z (xs.drop k) ∧ Fits z) ∧ Keeps w [(w.heap.size, 0, .int .i64 0), (w.heap.size, 1, .int .u64 0), (w.heap.size + 1, 0, .int .i64 (rhi z)), (w.heap.size + 1, 1, .int .u64 (rlo z)), (w.heap.size + 1, 2, .bool true)] wr) (fun i _ => xs.length - (intOf i).toNat)
  case atStart =>
   refine ⟨0, Nat.zero_le _, rfl, 0, Lib.hid ⟨rfl, by unfold Fits; omega⟩, ?_⟩
   have z0 : rhi 0 = 0 := by simp [rhi, show Fits 0 from by unfold Fits; omega]
   have z1 : rlo 0 = 0 := by simp [rlo, show Fits 0 from by unfold Fits; omega]
   rw [z0, z1]
   refine ⟨by go_grown, ?_⟩
   simp [Cells, go_sem]
  case round =>
   obtain ⟨k, hk, rfl, z, HZ, hHeld⟩ := hrel
   obtain ⟨⟨kz0,kc0,kf0⟩,⟨kz1,kc1,kf1⟩,⟨kz2,kc2,kf2⟩,⟨kz3,kc3,kf3⟩,⟨kz4,kc4,kf4⟩,_⟩ := hHeld.2
   by_cases hlt : k < xs.length
   ·obtain ⟨x0, x1⟩ := HC.out k hlt
    have y0 := (hHeld.1.cell (p := ⟨b, off + k * 2, none⟩) hb).trans x0
    have y1 := (hHeld.1.cell (p := ⟨b, off + k * 2 + 1, none⟩) hb).trans x1
    clear x0 x1
    obtain ⟨i0, i1⟩ := HX.out xs[k] (List.getElem_mem hlt)
    have hd : List.drop k xs = xs[k] :: List.drop (k + 1) xs := List.drop_eq_getElem_cons hlt
    obtain ⟨hz1, hz2⟩ := HZ.out
    have hg := (grow_math hz2 i0 i1).2
    rw [hd] at hz1
    have HT : Hid (tot 0 xs = if Fits (z + val xs[k].1 xs[k].2) then tot (z + val xs[k].1 xs[k].2) (List.drop (k + 1) xs) else none) := hz1
    clear hd hz1
    have gr := grow_any (w.heap.size + 1) z xs[k].1 xs[k].2 true hz2 i0 i1
    have GR := Lib.hid gr
    have HG := Lib.hid hg
    clear gr hg hz2 i0 i1
    generalize hxk : xs[k] = xk at *
    clear hxk
    obtain ⟨nh, nl⟩ := xk
    simp only at *
    go_wp2_with fail
    refine (GR.out _ (hHeld.alloc _).2.2.2).mono ?_
    rintro e w' ⟨rfl, hX⟩
    have hR : Keeps w [(w.heap.size, 0, .int .i64 0), (w.heap.size, 1, .int .u64 0)] (wr.alloc (.cells #[.int .i64 nh, .int .u64 nl] 57)) := ⟨(hHeld.alloc _).1, (hHeld.alloc _).2.1, (hHeld.alloc _).2.2.1, trivial⟩
    have hN := hR.nextX hX (by omega) (by simp)
    clear hR hX hHeld kz0 kc0 kf0 kz1 kc1 kf1 kz2 kc2 kf2 kz3 kc3 kf3 kz4 kc4 kf4
    cases hF : decide (Fits (z + val nh nl))
    ·rw [hF] at hN
     have nF : ¬ Fits (z + val nh nl) := by simpa using hF
     have HF := Lib.hid nF
     clear hF nF
     obtain ⟨⟨kz0,kc0,kf0⟩,⟨kz1,kc1,kf1⟩,⟨kz2,kc2,kf2⟩,⟨kz3,kc3,kf3⟩,⟨kz4,kc4,kf4⟩,_⟩ := hN.2
     go_wp2_with fail
     go_meet
     case rel => exact ⟨_, _, false, Lib.hid (by rw [HT.out, if_neg HF.out]; rfl), hN⟩
    ·rw [hF] at hN
     have nF : Fits (z + val nh nl) := by simpa using hF
     have HF := Lib.hid nF
     clear hF nF
     obtain ⟨e1, e2⟩ := HG.out HF.out
     rw [e1, e2] at hN
     clear e1 e2
     generalize z + val nh nl = z' at *
     obtain ⟨⟨kz0,kc0,kf0⟩,⟨kz1,kc1,kf1⟩,⟨kz2,kc2,kf2⟩,⟨kz3,kc3,kf3⟩,⟨kz4,kc4,kf4⟩,_⟩ := hN.2
     go_wp2_with fail
     go_roundw
     case rel => exact ⟨k + 1, by omega, by go_num, z', Lib.hid ⟨by rw [HT.out, if_pos HF.out], HF.out⟩, hN⟩
     case measure => simp [intOf]; omega
   ·have hke : k = xs.length := by omega
    subst hke
    go_wp2_with fail
    go_meet
    case rel => exact ⟨_, _, true, Lib.hid (by rw [HZ.out.1, List.drop_length]; rfl), hHeld⟩
 case rest =>
  obtain ⟨H, Lo, F, HV, hHeld⟩ := hcut
  obtain ⟨⟨kz0,kc0,kf0⟩,⟨kz1,kc1,kf1⟩,⟨kz2,kc2,kf2⟩,⟨kz3,kc3,kf3⟩,⟨kz4,kc4,kf4⟩,_⟩ := hHeld.2
  cases F
  ·skip
   go_wp2_with fail
   refine (ifRoomW_no _ _ _).mono ?_
   skip
   rintro e w2 ⟨rfl, hb⟩
   replace hHeld := Keeps.next (hHeld) hb
   clear hb kz0 kc0 kf0 kz1 kc1 kf1 kz2 kc2 kf2 kz3 kc3 kf3 kz4 kc4 kf4
   obtain ⟨⟨kz0,kc0,kf0⟩,⟨kz1,kc1,kf1⟩,⟨kz2,kc2,kf2⟩,⟨kz3,kc3,kf3⟩,⟨kz4,kc4,kf4⟩,_⟩ := hHeld.2
   go_wp2_with fail
   refine bodyPost_ret (v := .tuple #[wideV 0 0, .int .i64 5]) (by simp [results, Tryz.results92, go_sem, kc0, kc1]) rfl ?_
   exact ⟨by rw [HV.out]; simp, by first | (with_reducible exact hHeld.1) | (have hB := hHeld.1; have hz := hB.size; go_grown)⟩
  ·skip
   go_wp2_with fail
   refine (ifRoomW_yes _ _ _).mono ?_
   skip
   rintro e w2 ⟨rfl, hb⟩
   replace hHeld := Keeps.next (hHeld) hb
   clear hb kz0 kc0 kf0 kz1 kc1 kf1 kz2 kc2 kf2 kz3 kc3 kf3 kz4 kc4 kf4
   obtain ⟨⟨kz0,kc0,kf0⟩,⟨kz1,kc1,kf1⟩,⟨kz2,kc2,kf2⟩,⟨kz3,kc3,kf3⟩,⟨kz4,kc4,kf4⟩,_⟩ := hHeld.2
   go_wp2_with fail
   refine bodyPost_ret (v := .tuple #[wideV H Lo, .int .i64 0]) (by simp [results, Tryz.results92, go_sem, kc0, kc1]) rfl ?_
   exact ⟨by rw [HV.out]; simp, by first | (with_reducible exact hHeld.1) | (have hB := hHeld.1; have hz := hB.size; go_grown)⟩

theorem tot_two {ah al bh bl : Int} (h1 : I64 ah) (h2 : U64 al) : totV (tot 0 [(ah, al), (bh, bl)]) = roomV (val ah al + val bh bl) := by
 have f := fits_val h1 h2
 simp only [tot, Int.zero_add, if_pos f]
 by_cases g : Fits (val ah al + val bh bl)
 ·simp [g, totV, ohi, olo, ocode, roomV, rcode]
 ·simp [g, totV, ohi, olo, ocode, roomV, rcode, rhi, rlo]
theorem total_two (b : Nat) (ah al bh bl : Int) (h1 : I64 ah) (h2 : U64 al) (h3 : I64 bh) (h4 : U64 bl) (w : World) (hb : b < w.heap.size)
  (c0 : w.cell? ⟨b, 0, none⟩ = some (.int .i64 ah)) (c1 : w.cell? ⟨b, 1, none⟩ = some (.int .u64 al)) (c2 : w.cell? ⟨b, 2, none⟩ = some (.int .i64 bh)) (c3 : w.cell? ⟨b, 3, none⟩ = some (.int .u64 bl)) :
  Calls Tryz.prog 92 #[.slice (some ⟨b, 0, none⟩) 2 2] w (Ret w (roomV (val ah al + val bh bl))) := by
 rw [← tot_two h1 h2]
 refine total_walk b 0 2 [(ah, al), (bh, bl)] ?_ (by simp) w hb ?_
 ·intro x hx
  rcases List.mem_cons.1 hx with rfl | hx
  ·exact ⟨h1, h2⟩
  ·rcases List.mem_cons.1 hx with rfl | hx
   ·exact ⟨h3, h4⟩
   ·cases hx
 ·intro i hi
  match i, hi with
  | 0, _ => exact ⟨c0, c1⟩
  | 1, _ => exact ⟨c2, c3⟩
set_option maxRecDepth 100000 in
theorem add_any (ah al bh bl : Int) (h1 : I64 ah) (h2 : U64 al) (h3 : I64 bh) (h4 : U64 bl) (w : World) :
  Calls Tryz.prog 40 #[wideV ah al, wideV bh bl] w (Ret w (roomV (val ah al + val bh bl))) := by
 have hT := fun b => total_two b ah al bh bl h1 h2 h3 h4
 generalize val ah al + val bh bl = z at *
 have HT := Lib.hid hT
 clear hT
 go_enter Tryz.func40, Tryz.ntmps40
 go_wp2_with fail
 refine (HT.out _ _ (by simp) (by simp [go_sem]) (by simp [go_sem]) (by simp [go_sem]) (by simp [go_sem])).mono ?_
 rintro e w1 ⟨rfl, hb⟩
 have hHeld : Keeps w [(w.heap.size + 1 + 1, 0, .int .i64 0), (w.heap.size + 1 + 1, 1, .int .u64 0)] _ := Keeps.next (by refine ⟨by go_grown, ?_⟩; simp [Cells, go_sem]) hb
 clear hb
 obtain ⟨⟨kz0, kc0, kf0⟩, ⟨kz1, kc1, kf1⟩, _⟩ := hHeld.2
 go_wp2_with fail
 refine bodyPost_ret (v := roomV z) (by simp [results, Tryz.results40, go_sem, kc0, kc1]) rfl ?_
 exact ⟨rfl, by first | (with_reducible exact hHeld.1) | (have hB := hHeld.1; have hz := hB.size; go_grown)⟩
end Go.Proofs.YtcfidimnbamnkaaGreat
