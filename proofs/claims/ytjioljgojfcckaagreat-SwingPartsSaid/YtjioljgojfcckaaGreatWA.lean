/-
  Plain facts on how far a number is from 0, and on products, as words: no program in sight. Conditions: none beyond those written at each fact.
-/
import Derived.Maps.RangeWalk
import Derived.Test.YtjioljgojfcckaaGreatNum
import Derived.Test.YtjioljgojfcckaaGreatChecked
import Derived.Test.YtjioljgojfcckaaGreatShelf
import Derived.Test.YtjioljgojfcckaaGreatKitX
import Derived.Deep.CutBlock
import Derived.Deep.LoopGhost
namespace Go.Proofs.YtjioljgojfcckaaGreat
open Go.RowKit

/-- How far a number is from 0. -/
def mag (z : Int) : Int := if z < 0 then -z else z
/-- The upper and the lower word of a number from 0 on. -/
def dh (n : Int) : Int := n / 18446744073709551616
def dl (n : Int) : Int := n % 18446744073709551616
/-- The negative of two words. -/
def nhi (hi lo : Int) : Int := (0 - hi - bor 0 lo) % 18446744073709551616
def nlo (lo : Int) : Int := (0 - lo) % 18446744073709551616

theorem mag_nonneg (z : Int) : 0 ≤ mag z := by unfold mag; split <;> omega
theorem mag_fits {z : Int} (h : Fits z) : mag z ≤ 170141183460469231731687303715884105728 := by unfold mag; unfold Fits at h; split <;> omega
theorem dh_u64 {n : Int} (h0 : 0 ≤ n) (h1 : n < 340282366920938463463374607431768211456) : U64 (dh n) := by unfold dh U64; omega
theorem dl_u64 (n : Int) : U64 (dl n) := by unfold dl U64; omega
theorem val_d (n : Int) : val (dh n) (dl n) = n := by unfold val dh dl; omega
theorem wrap_u64_u64 (x : Int) : U64 (IntKind.u64.wrap x) := by rw [IntKind.wrap_u64]; unfold U64; omega

theorem far_pos {hi lo : Int} (h : I64 hi) (k : U64 lo) (g : decide (hi < 0) = false) : IntKind.u64.wrap hi = dh (mag (val hi lo)) ∧ lo = dl (mag (val hi lo)) := by
  simp only [decide_eq_false_iff_not] at g
  obtain ⟨_, _⟩ := h; obtain ⟨_, _⟩ := k
  rw [IntKind.wrap_u64]; unfold mag dh dl val
  constructor <;> split <;> omega
theorem far_neg {hi lo : Int} (h : I64 hi) (k : U64 lo) (g : decide (hi < 0) = true) : nhi (IntKind.u64.wrap hi) lo = dh (mag (val hi lo)) ∧ nlo lo = dl (mag (val hi lo)) := by
  simp only [decide_eq_true_eq] at g
  obtain ⟨_, _⟩ := h; obtain ⟨_, _⟩ := k
  rw [IntKind.wrap_u64]; unfold mag dh dl val nhi nlo bor
  constructor <;> (repeat split) <;> omega

/-- The product of a number of two words and a word, as three words. -/
theorem times_words {h l n : Int} (hh : U64 h) (hl : U64 l) (hn : U64 n) :
    (h * n % 18446744073709551616 + l * n / 18446744073709551616) % 18446744073709551616 = dh (val h l * n % 340282366920938463463374607431768211456) ∧
    l * n % 18446744073709551616 = dl (val h l * n % 340282366920938463463374607431768211456) ∧
    IntKind.u64.wrap (h * n / 18446744073709551616 + (h * n % 18446744073709551616 + l * n / 18446744073709551616) / 18446744073709551616) = val h l * n / 340282366920938463463374607431768211456 := by
  have e : val h l * n = h * n * 18446744073709551616 + l * n := by
    unfold val; rw [Int.add_mul, Int.mul_right_comm]
  rw [e]
  have b1 : 0 ≤ h * n := Int.mul_nonneg hh.1 hn.1
  have b2 : 0 ≤ l * n := Int.mul_nonneg hl.1 hn.1
  have b3 : h * n ≤ 18446744073709551615 * 18446744073709551615 := Int.mul_le_mul (by have := hh.2; omega) (by have := hn.2; omega) hn.1 (by decide)
  have b4 : l * n ≤ 18446744073709551615 * 18446744073709551615 := Int.mul_le_mul (by have := hl.2; omega) (by have := hn.2; omega) hn.1 (by decide)
  generalize h * n = A at *
  generalize l * n = B at *
  rw [IntKind.wrap_u64]
  unfold dh dl
  refine ⟨?_, ?_, ?_⟩ <;> omega

/-- A number of that distance, on that side. -/
def sgn (b : Bool) (n : Int) : Int := if b then -n else n
def sfit (b : Bool) (h l : Int) : Bool := decide (h < 9223372036854775808) || b && (h == 9223372036854775808 && l == 0)
def shi (b : Bool) (h l : Int) : Int := wrap64 (if b then nhi h l else h)
def slo (b : Bool) (l : Int) : Int := if b then nlo l else l
theorem signed_yes {b : Bool} {h l : Int} (hh : U64 h) (hl : U64 l) (g : sfit b h l = true) : Fits (sgn b (val h l)) ∧ shi b h l = rhi (sgn b (val h l)) ∧ slo b l = rlo (sgn b (val h l)) := by
  obtain ⟨_, _⟩ := hh; obtain ⟨_, _⟩ := hl
  have f : Fits (sgn b (val h l)) := by
    unfold sfit at g; unfold sgn Fits val
    cases b <;> simp at g ⊢ <;> omega
  refine ⟨f, ?_⟩
  unfold rhi rlo; rw [if_pos f, if_pos f]
  unfold shi slo wrap64
  unfold Fits at f
  unfold sgn val at *
  cases b
  · simp at f ⊢; omega
  · simp at f ⊢; unfold nhi nlo bor; constructor <;> (repeat split) <;> omega
theorem signed_no {b : Bool} {h l : Int} (hh : U64 h) (hl : U64 l) (g : sfit b h l = false) : ¬ Fits (sgn b (val h l)) := by
  obtain ⟨_, _⟩ := hh; obtain ⟨_, _⟩ := hl
  unfold sfit at g; unfold sgn Fits val
  cases b <;> simp at g ⊢ <;> omega
theorem val_neg {hi lo : Int} (k : U64 lo) : val hi lo < 0 ↔ hi < 0 := by unfold val; obtain ⟨_, _⟩ := k; omega
theorem mul_sgn (M n : Int) : M * n = sgn (!decide (M < 0) == decide (n < 0)) (mag M * mag n) := by
  unfold sgn mag
  by_cases a : M < 0 <;> by_cases b : n < 0 <;> simp [a, b, Int.neg_mul, Int.mul_neg]
/-- What a product, as distances, comes to. -/
theorem scale_math {M n : Int} {bb f o : Bool} (hbb : bb = (!decide (M < 0) == decide (n < 0)))
    (hf : sfit bb (dh (mag M * mag n % 340282366920938463463374607431768211456)) (dl (mag M * mag n % 340282366920938463463374607431768211456)) = f)
    (ho : (mag M * mag n / 340282366920938463463374607431768211456 == 0) = o) :
    (if f && o then shi bb (dh (mag M * mag n % 340282366920938463463374607431768211456)) (dl (mag M * mag n % 340282366920938463463374607431768211456)) else 0) = rhi (M * n) ∧
    (if f && o then slo bb (dl (mag M * mag n % 340282366920938463463374607431768211456)) else 0) = rlo (M * n) ∧ (if f && o then (0 : Int) else 5) = rcode (M * n) := by
  rw [mul_sgn M n, ← hbb]
  have hp : 0 ≤ mag M * mag n := Int.mul_nonneg (mag_nonneg _) (mag_nonneg _)
  generalize mag M * mag n = p at *
  cases o with
  | false =>
    have h1 : p / 340282366920938463463374607431768211456 ≠ 0 := by simpa using ho
    have nf : ¬ Fits (sgn bb p) := by unfold Fits sgn; cases bb <;> simp <;> omega
    simp [rhi, rlo, rcode, nf]
  | true =>
    have h1 : p / 340282366920938463463374607431768211456 = 0 := by simpa using ho
    have e : p % 340282366920938463463374607431768211456 = p := by omega
    rw [e] at hf ⊢
    have u1 : U64 (dh p) := dh_u64 hp (by omega)
    cases f with
    | true =>
      obtain ⟨y1, y2, y3⟩ := signed_yes u1 (dl_u64 p) hf
      rw [val_d] at y1 y2 y3
      simp [y2, y3, rcode, y1]
    | false =>
      have nf := signed_no u1 (dl_u64 p) hf
      rw [val_d] at nf
      simp [rhi, rlo, rcode, nf]
attribute [irreducible] mag dh dl nhi nlo sgn sfit shi slo
end Go.Proofs.YtjioljgojfcckaaGreat

/-
  What each call of package wide answers, for all arguments. Conditions: the words of a number are of 64 bits.
-/
namespace Go.Proofs.YtjioljgojfcckaaGreat
open Go.RowKit Go.Shelf

theorem add64 (x y c : Int) (hx : 0 ≤ x) (hy : 0 ≤ y) (hc0 : 0 ≤ c) (hc : c ≤ 1) (w : World) : (callFunc 96 #[.int .u64 x, .int .u64 y, .int .u64 c]).run Tryz.prog w =
    .ok (.value (.tuple #[.int .u64 ((x + y + c) % 18446744073709551616), .int .u64 ((x + y + c) / 18446744073709551616)])) w := by
  obtain ⟨x, rfl⟩ := Int.eq_ofNat_of_zero_le hx
  obtain ⟨y, rfl⟩ := Int.eq_ofNat_of_zero_le hy
  obtain ⟨c, rfl⟩ := Int.eq_ofNat_of_zero_le hc0
  refine (Any7.bits_Add64 Tryz.lays25 x y c (by omega) w).trans ?_
  congr 5 <;> omega
theorem sub64 (x y b : Int) (hx : 0 ≤ x) (hy : 0 ≤ y) (hy' : y < 18446744073709551616) (hb0 : 0 ≤ b) (hb : b ≤ 1) (w : World) : (callFunc 117 #[.int .u64 x, .int .u64 y, .int .u64 b]).run Tryz.prog w =
    .ok (.value (.tuple #[.int .u64 ((x - y - b) % 18446744073709551616), .int .u64 (bor x (y + b))])) w := by
  obtain ⟨x, rfl⟩ := Int.eq_ofNat_of_zero_le hx
  obtain ⟨y, rfl⟩ := Int.eq_ofNat_of_zero_le hy
  obtain ⟨b, rfl⟩ := Int.eq_ofNat_of_zero_le hb0
  have e1 : (((x + 18446744073709551616 - y - b) % 18446744073709551616 : Nat) : Int) = ((x : Int) - y - b) % 18446744073709551616 := by omega
  have e2 : ((if x < y + b then 1 else 0 : Nat) : Int) = bor (x : Int) (y + b) := by unfold bor; split <;> split <;> omega
  rw [← e1, ← e2]
  exact Any7.bits_Sub64 Tryz.lays26 x y b (by omega) w
theorem add64_0 (x y : Int) (hx : 0 ≤ x) (hy : 0 ≤ y) (w : World) : (callFunc 96 #[.int .u64 x, .int .u64 y, .int .u64 0]).run Tryz.prog w =
    .ok (.value (.tuple #[.int .u64 ((x + y) % 18446744073709551616), .int .u64 ((x + y) / 18446744073709551616)])) w := by
  simpa using add64 x y 0 hx hy (Int.le_refl 0) (by decide) w
theorem sub64_0 (x y : Int) (hx : 0 ≤ x) (hy : 0 ≤ y) (hy' : y < 18446744073709551616) (w : World) : (callFunc 117 #[.int .u64 x, .int .u64 y, .int .u64 0]).run Tryz.prog w =
    .ok (.value (.tuple #[.int .u64 ((x - y) % 18446744073709551616), .int .u64 (bor x y)])) w := by
  simpa using sub64 x y 0 hx hy hy' (Int.le_refl 0) (by decide) w

theorem below_any (hi lo : Int) (w : World) :
    Calls Tryz.prog 97 #[wideV hi lo] w (Ret w (.bool (decide (hi < 0)))) := by
  go_enter Tryz.func97, Tryz.ntmps97
  go_wp2
  go_ret
  exact ⟨rfl, by go_grown⟩
theorem ifRoomW_yes (hi lo : Int) (w : World) :
    Calls Tryz.prog 98 #[wideV hi lo, .bool true] w (Ret w (.tuple #[wideV hi lo, .int .i64 0])) := by
  go_enter Tryz.func98, Tryz.ntmps98
  go_wp2
  go_returns
  exact ⟨rfl, by go_grown⟩
theorem ifRoomW_no (hi lo : Int) (w : World) :
    Calls Tryz.prog 98 #[wideV hi lo, .bool false] w (Ret w (.tuple #[wideV 0 0, .int .i64 5])) := by
  go_enter Tryz.func98, Tryz.ntmps98
  go_wp2
  go_returns
  exact ⟨rfl, by go_grown⟩
theorem of_any (n : Int) (h : I64 n) (w : World) :
    Calls Tryz.prog 79 #[.int .i64 n] w (Ret w (wideV (rhi n) (rlo n))) := by
  obtain ⟨h1, h2⟩ := h
  have e1 : rhi n = n / 9223372036854775808 := by unfold rhi; rw [if_pos (by unfold Fits; omega)]; omega
  have e2 : rlo n = IntKind.u64.wrap n := by unfold rlo; rw [if_pos (by unfold Fits; omega), IntKind.wrap_u64]
  rw [e1, e2]
  clear e1 e2
  go_enter Tryz.func79, Tryz.ntmps79
  go_wp2
  go_returns
  exact ⟨rfl, by go_grown⟩
theorem negative_any (hi lo : Int) (h : U64 hi) (k : U64 lo) (w : World) :
    Calls Tryz.prog 109 #[distV hi lo] w (Ret w (distV (nhi hi lo) (nlo lo))) := by
  obtain ⟨h1, h2⟩ := h
  obtain ⟨h3, h4⟩ := k
  have k0 : 0 ≤ bor 0 lo := by unfold bor; split <;> decide
  have k1 : bor 0 lo ≤ 1 := by unfold bor; split <;> decide
  have q1 := sub64 0 hi (bor 0 lo) (by decide) h1 h2 k0 k1
  have q0 := sub64_0 0 lo (by decide) h3 h4
  unfold nhi nlo
  generalize bor 0 lo = b at *
  generalize bor 0 (hi + b) = b' at *
  generalize (0 - hi - b) % 18446744073709551616 = x at *
  generalize (0 - lo) % 18446744073709551616 = y at *
  have Q1 := Lib.hid q1
  have Q0 := Lib.hid q0
  clear q1 q0
  go_enter Tryz.func109, Tryz.ntmps109
  go_wp2_with (first | simp only [Q0.out] | simp only [Q1.out])
  go_returns
  exact ⟨rfl, by go_grown⟩
theorem compare_any (ah al bh bl : Int) (w : World) :
    Calls Tryz.prog 47 #[wideV ah al, wideV bh bl] w (Ret w (.int .i64 (if ah = bh ∧ al = bl then 0 else if ah < bh ∨ ah = bh ∧ al < bl then -1 else 1))) := by
  by_cases c1 : ah = bh
  · subst c1
    by_cases c2 : al = bl
    · subst c2
      rw [if_pos ⟨rfl, rfl⟩]
      go_enter Tryz.func47, Tryz.ntmps47
      go_wp2
      go_ret
      exact ⟨rfl, by go_grown⟩
    · rw [if_neg (by simp [c2])]
      have d2 : (al == bl) = false := by simpa using c2
      by_cases c3 : al < bl
      · rw [if_pos (Or.inr ⟨rfl, c3⟩)]
        go_enter Tryz.func47, Tryz.ntmps47
        go_wp2
        go_ret
        exact ⟨rfl, by go_grown⟩
      · rw [if_neg (by omega)]
        have d3 : decide (al < bl) = false := by simpa using c3
        go_enter Tryz.func47, Tryz.ntmps47
        go_wp2
        go_ret
        exact ⟨rfl, by go_grown⟩
  · rw [if_neg (by simp [c1])]
    have d1 : (ah == bh) = false := by simpa using c1
    by_cases c3 : ah < bh
    · rw [if_pos (Or.inl c3)]
      go_enter Tryz.func47, Tryz.ntmps47
      go_wp2
      go_ret
      exact ⟨rfl, by go_grown⟩
    · rw [if_neg (by omega)]
      have d3 : decide (ah < bh) = false := by simpa using c3
      go_enter Tryz.func47, Tryz.ntmps47
      go_wp2
      go_ret
      exact ⟨rfl, by go_grown⟩
end Go.Proofs.YtjioljgojfcckaaGreat

/-
  More of what package wide answers: differences. Conditions: the words of a number are of 64 bits.
-/
namespace Go.Proofs.YtjioljgojfcckaaGreat
open Go.RowKit Go.Shelf

theorem below_is (hi lo : Int) (b : Bool) (h : decide (hi < 0) = b) (w : World) :
    Calls Tryz.prog 97 #[wideV hi lo] w (Ret w (.bool b)) := by
  subst h; exact below_any hi lo w
end Go.Proofs.YtjioljgojfcckaaGreat

/-
  More of what package wide answers: how far a number is from 0, products. Conditions: the words of a number are of 64 bits.
-/
namespace Go.Proofs.YtjioljgojfcckaaGreat
open Go.RowKit Go.Shelf

theorem far_any (hi lo : Int) (h : I64 hi) (k : U64 lo) (w : World) :
    Calls Tryz.prog 99 #[wideV hi lo] w (Ret w (distV (dh (mag (val hi lo))) (dl (mag (val hi lo))))) := by
  cases g : decide (hi < 0)
  · obtain ⟨e1, e2⟩ := far_pos h k g
    rw [← e1, ← e2]
    clear e1 e2
    have G := Lib.hid g
    clear g
    go_enter Tryz.func99, Tryz.ntmps99
    go_wp2_with fail
    refine (below_is hi lo false G.out _).mono ?_
    rintro e w1 ⟨rfl, hb⟩
    have hHeld : Keeps w [(w.heap.size, 0, .int .i64 hi), (w.heap.size, 1, .int .u64 lo), (w.heap.size + 1, 0, .int .u64 0), (w.heap.size + 1, 1, .int .u64 0)] _ := Keeps.next (by refine ⟨by go_grown, ?_⟩; simp [Cells, go_sem]) hb
    clear hb
    obtain ⟨⟨kz0, kc0, kf0⟩, ⟨kz1, kc1, kf1⟩, ⟨kz2, kc2, kf2⟩, ⟨kz3, kc3, kf3⟩, _⟩ := hHeld.2
    go_wp2_with fail
    refine bodyPost_ret (v := distV (IntKind.u64.wrap hi) lo) (by simp [results, Tryz.results99, go_sem, kc2, kc3]) rfl ?_
    exact ⟨rfl, by first | (with_reducible exact hHeld.1) | (have hB := hHeld.1; have hz := hB.size; go_grown)⟩
  · obtain ⟨e1, e2⟩ := far_neg h k g
    rw [← e1, ← e2]
    clear e1 e2
    have G := Lib.hid g
    clear g
    go_enter Tryz.func99, Tryz.ntmps99
    go_wp2_with fail
    refine (below_is hi lo true G.out _).mono ?_
    rintro e w1 ⟨rfl, hb⟩
    have hHeld : Keeps w [(w.heap.size, 0, .int .i64 hi), (w.heap.size, 1, .int .u64 lo), (w.heap.size + 1, 0, .int .u64 0), (w.heap.size + 1, 1, .int .u64 0)] _ := Keeps.next (by refine ⟨by go_grown, ?_⟩; simp [Cells, go_sem]) hb
    clear hb
    obtain ⟨⟨kz0, kc0, kf0⟩, ⟨kz1, kc1, kf1⟩, ⟨kz2, kc2, kf2⟩, ⟨kz3, kc3, kf3⟩, _⟩ := hHeld.2
    go_wp2_with fail
    refine (negative_any _ _ (wrap_u64_u64 _) k _).mono ?_
    rintro e w2 ⟨rfl, hb⟩
    replace hHeld := Keeps.next (hHeld) hb
    clear hb kz0 kc0 kf0 kz1 kc1 kf1 kz2 kc2 kf2 kz3 kc3 kf3
    obtain ⟨⟨kz0, kc0, kf0⟩, ⟨kz1, kc1, kf1⟩, ⟨kz2, kc2, kf2⟩, ⟨kz3, kc3, kf3⟩, _⟩ := hHeld.2
    go_wp2_with fail
    refine bodyPost_ret (v := distV (nhi (IntKind.u64.wrap hi) lo) (nlo lo)) (by simp [results, Tryz.results99, go_sem, kc2, kc3]) rfl ?_
    exact ⟨rfl, by first | (with_reducible exact hHeld.1) | (have hB := hHeld.1; have hz := hB.size; go_grown)⟩

theorem mul64 (x y : Int) (hx : U64 x) (hy : U64 y) (w : World) :
    Calls Tryz.prog 110 #[.int .u64 x, .int .u64 y] w fun e w' => e = .returned (.tuple #[.int .u64 (x * y / 18446744073709551616), .int .u64 (x * y % 18446744073709551616)]) ∧ w' = w := by
  obtain ⟨x0, x1⟩ := hx
  obtain ⟨y0, y1⟩ := hy
  obtain ⟨x, rfl⟩ := Int.eq_ofNat_of_zero_le x0
  obtain ⟨y, rfl⟩ := Int.eq_ofNat_of_zero_le y0
  refine (Tryz.bits_Mul64 x y (by omega) (by omega) w).mono ?_
  rintro e w' ⟨rfl, rfl⟩
  refine ⟨?_, rfl⟩
  congr 5 <;> (push_cast; rfl)

theorem times_any (h l n : Int) (hh : U64 h) (hl : U64 l) (hn : U64 n) (w : World) :
    Calls Tryz.prog 100 #[distV h l, .int .u64 n] w (Ret w (.tuple #[distV (dh (val h l * n % 340282366920938463463374607431768211456)) (dl (val h l * n % 340282366920938463463374607431768211456)), .int .u64 (val h l * n / 340282366920938463463374607431768211456)])) := by
  obtain ⟨e1, e2, e3⟩ := times_words hh hl hn
  rw [← e1, ← e2, ← e3]
  clear e1 e2 e3
  have m1 := mul64 l n hl hn
  have m2 := mul64 h n hh hn
  have a0 := add64_0 (h * n % 18446744073709551616) (l * n / 18446744073709551616) (by omega) (by
    have := Int.mul_nonneg hl.1 hn.1; omega)
  clear hh hl hn
  generalize h * n % 18446744073709551616 = c at *
  generalize l * n / 18446744073709551616 = d at *
  generalize (c + d) % 18446744073709551616 = e at *
  generalize (c + d) / 18446744073709551616 = f at *
  generalize h * n / 18446744073709551616 = g at *
  generalize l * n % 18446744073709551616 = k at *
  have M1 := Lib.hid m1
  have M2 := Lib.hid m2
  have A0 := Lib.hid a0
  clear m1 m2 a0
  go_enter Tryz.func100, Tryz.ntmps100
  go_wp2_with fail
  refine (M1.out _).mono ?_
  rintro e' w1 ⟨rfl, rfl⟩
  go_wp2_with fail
  refine (M2.out _).mono ?_
  rintro e' w2 ⟨rfl, rfl⟩
  go_wp2_with (simp only [A0.out])
  go_returns
  exact ⟨rfl, by go_grown⟩
end Go.Proofs.YtjioljgojfcckaaGreat

/-
  More of what package wide answers: the number that is so far from 0, on one side. Conditions: words are of 64 bits.
-/
namespace Go.Proofs.YtjioljgojfcckaaGreat
open Go.RowKit Go.Shelf

set_option maxHeartbeats 1600000 in
theorem signed_any (b : Bool) (h l : Int) (hh : U64 h) (hl : U64 l) (w : World) :
    Calls Tryz.prog 101 #[distV h l, .bool b] w (Ret w (.tuple #[wideV (shi b h l) (slo b l), .bool (sfit b h l)])) := by
  cases b
  · have e : sfit false h l = decide (h < 9223372036854775808) := by simp [sfit]
    rw [e, show shi false h l = wrap64 h from by simp [shi], show slo false l = l from by simp [slo]]
    clear e
    cases g : decide (h < 9223372036854775808)
    all_goals
      go_enter Tryz.func101, Tryz.ntmps101
      go_wp2
      go_returns
      exact ⟨rfl, by go_grown⟩
  · have e0 : shi true h l = wrap64 (nhi h l) := by simp [shi]
    have e1 : slo true l = nlo l := by simp [slo]
    rw [e0, e1]
    clear e0 e1
    cases g : decide (h < 9223372036854775808)
    · have e : sfit true h l = (h == 9223372036854775808 && l == 0) := by simp [sfit, g]
      rw [e]
      clear e
      cases g1 : (h == 9223372036854775808)
      · rw [show (false && l == 0) = false from rfl]
        go_enter Tryz.func101, Tryz.ntmps101
        go_wp2_with fail
        refine (negative_any _ _ hh hl _).mono ?_
        rintro e w1 ⟨rfl, hb⟩
        have hHeld : Keeps w [(w.heap.size, 0, .int .u64 h), (w.heap.size, 1, .int .u64 l), (w.heap.size + 1, 0, .int .i64 0), (w.heap.size + 1, 1, .int .u64 0)] _ := Keeps.next (by refine ⟨by go_grown, ?_⟩; simp [Cells, go_sem]) hb
        clear hb
        obtain ⟨⟨kz0, kc0, kf0⟩, ⟨kz1, kc1, kf1⟩, ⟨kz2, kc2, kf2⟩, ⟨kz3, kc3, kf3⟩, _⟩ := hHeld.2
        go_wp2_with fail
        refine bodyPost_ret (v := .tuple #[wideV (wrap64 (nhi h l)) (nlo l), .bool false]) (by simp [results, Tryz.results101, go_sem, kc2, kc3]) rfl ?_
        exact ⟨rfl, by first | (with_reducible exact hHeld.1) | (have hB := hHeld.1; have hz := hB.size; go_grown)⟩
      · rw [show (true && l == 0) = (l == 0) from rfl]
        cases g2 : (l == 0)
        all_goals
          go_enter Tryz.func101, Tryz.ntmps101
          go_wp2_with fail
          refine (negative_any _ _ hh hl _).mono ?_
          rintro e w1 ⟨rfl, hb⟩
          have hHeld : Keeps w [(w.heap.size, 0, .int .u64 h), (w.heap.size, 1, .int .u64 l), (w.heap.size + 1, 0, .int .i64 0), (w.heap.size + 1, 1, .int .u64 0)] _ := Keeps.next (by refine ⟨by go_grown, ?_⟩; simp [Cells, go_sem]) hb
          clear hb
          obtain ⟨⟨kz0, kc0, kf0⟩, ⟨kz1, kc1, kf1⟩, ⟨kz2, kc2, kf2⟩, ⟨kz3, kc3, kf3⟩, _⟩ := hHeld.2
          go_wp2_with fail
          refine bodyPost_ret (by simp [results, Tryz.results101, go_sem, kc2, kc3]; rfl) rfl ?_
          exact ⟨rfl, by first | (with_reducible exact hHeld.1) | (have hB := hHeld.1; have hz := hB.size; go_grown)⟩
    · rw [show sfit true h l = true from by simp [sfit, g]]
      go_enter Tryz.func101, Tryz.ntmps101
      go_wp2_with fail
      refine (negative_any _ _ hh hl _).mono ?_
      rintro e w1 ⟨rfl, hb⟩
      have hHeld : Keeps w [(w.heap.size, 0, .int .u64 h), (w.heap.size, 1, .int .u64 l), (w.heap.size + 1, 0, .int .i64 0), (w.heap.size + 1, 1, .int .u64 0)] _ := Keeps.next (by refine ⟨by go_grown, ?_⟩; simp [Cells, go_sem]) hb
      clear hb
      obtain ⟨⟨kz0, kc0, kf0⟩, ⟨kz1, kc1, kf1⟩, ⟨kz2, kc2, kf2⟩, ⟨kz3, kc3, kf3⟩, _⟩ := hHeld.2
      go_wp2_with fail
      refine bodyPost_ret (v := .tuple #[wideV (wrap64 (nhi h l)) (nlo l), .bool true]) (by simp [results, Tryz.results101, go_sem, kc2, kc3]) rfl ?_
      exact ⟨rfl, by first | (with_reducible exact hHeld.1) | (have hB := hHeld.1; have hz := hB.size; go_grown)⟩
end Go.Proofs.YtjioljgojfcckaaGreat

/-
  More of what package wide answers: products. Conditions: the words of a number are of 64 bits.
-/
namespace Go.Proofs.YtjioljgojfcckaaGreat
open Go.RowKit Go.Shelf

theorem mag_i64 {n : Int} (h : I64 n) : 0 ≤ mag n ∧ mag n ≤ 9223372036854775808 := by unfold mag; obtain ⟨_, _⟩ := h; split <;> omega
theorem fits_i64 {n : Int} (h : I64 n) : Fits n := by obtain ⟨_, _⟩ := h; unfold Fits; omega
theorem dl_mag {n : Int} (h : I64 n) : dl (mag n) = mag n := by have := mag_i64 h; unfold dl; omega

theorem field_dist (a b : Int) (w : World) : (Instr.field 149 (distV a b) 1).run Tryz.prog w = .ok (.int .u64 b) w := by kernel_rfl

set_option maxRecDepth 100000 in
set_option maxHeartbeats 1600000 in
theorem scale_walk (hi lo n : Int) (h : I64 hi) (k : U64 lo) (hn : I64 n) (w : World) (ba bn : Bool) (ea : decide (hi < 0) = ba) (en : decide (n < 0) = bn) :
    Calls Tryz.prog 80 #[wideV hi lo, .int .i64 n] w (Ret w (roomV (val hi lo * n))) := by
  have F := fits_val h k
  have HM := mag_fits F
  have EA := Lib.hid ea
  clear F ea
  go_enter Tryz.func80, Tryz.ntmps80
  go_wp2_with fail
  refine (far_any hi lo h k _).mono ?_
  rintro e w1 ⟨rfl, hb⟩
  have hHeld : Keeps w [(w.heap.size, 0, .int .i64 hi), (w.heap.size, 1, .int .u64 lo), (w.heap.size + 1, 0, .int .i64 0), (w.heap.size + 1, 1, .int .u64 0)] _ := Keeps.next (by refine ⟨by go_grown, ?_⟩; simp [Cells, go_sem]) hb
  clear hb
  obtain ⟨⟨kz0, kc0, kf0⟩, ⟨kz1, kc1, kf1⟩, ⟨kz2, kc2, kf2⟩, ⟨kz3, kc3, kf3⟩, _⟩ := hHeld.2
  go_wp2_with fail
  refine (of_any n hn _).mono ?_
  rintro e w2 ⟨rfl, hb⟩
  replace hHeld := Keeps.next (hHeld) hb
  clear hb kz0 kc0 kf0 kz1 kc1 kf1 kz2 kc2 kf2 kz3 kc3 kf3
  obtain ⟨⟨kz0, kc0, kf0⟩, ⟨kz1, kc1, kf1⟩, ⟨kz2, kc2, kf2⟩, ⟨kz3, kc3, kf3⟩, _⟩ := hHeld.2
  go_wp2_with fail
  refine (far_any (rhi n) (rlo n) (rhi_i64 n) (rlo_u64 n) _).mono ?_
  rintro e w3 ⟨rfl, hb⟩
  replace hHeld := Keeps.next (hHeld) hb
  clear hb kz0 kc0 kf0 kz1 kc1 kf1 kz2 kc2 kf2 kz3 kc3 kf3
  obtain ⟨⟨kz0, kc0, kf0⟩, ⟨kz1, kc1, kf1⟩, ⟨kz2, kc2, kf2⟩, ⟨kz3, kc3, kf3⟩, _⟩ := hHeld.2
  simp only [val_r (fits_i64 hn), dl_mag hn]
  go_wp2_with (simp only [field_dist])
  have HN := mag_i64 hn
  refine (times_any _ _ _ (dh_u64 (mag_nonneg _) (by omega)) (dl_u64 _) ⟨HN.1, by omega⟩ _).mono ?_
  rintro e w4 ⟨rfl, hb⟩
  replace hHeld := Keeps.next (hHeld) hb
  clear hb kz0 kc0 kf0 kz1 kc1 kf1 kz2 kc2 kf2 kz3 kc3 kf3
  obtain ⟨⟨kz0, kc0, kf0⟩, ⟨kz1, kc1, kf1⟩, ⟨kz2, kc2, kf2⟩, ⟨kz3, kc3, kf3⟩, _⟩ := hHeld.2
  simp only [val_d]
  have HP : Hid (0 ≤ mag (val hi lo) * mag n) := Lib.hid (Int.mul_nonneg (mag_nonneg _) (mag_nonneg _))
  clear HM HN
  generalize hP : mag (val hi lo) * mag n % 340282366920938463463374607431768211456 = P at *
  generalize hO : mag (val hi lo) * mag n / 340282366920938463463374607431768211456 = O at *
  have HPP := Lib.hid hP
  have hP0 : 0 ≤ P := by omega
  have hP1 : P < 340282366920938463463374607431768211456 := by omega
  have HO := Lib.hid hO
  clear hP hO
  go_upto_region 2 with fail
  go_cut [8, 9] (fun s8 s9 wx => ∃ g : Nat, ∃ bb : Bool, Hid (bb = (!ba == bn)) ∧ s8 = .pointer (some ⟨g, 0, none⟩) ∧ s9 = .bool (sfit bb (dh P) (dl P)) ∧ wx.cell? ⟨g, 0, none⟩ = some (.int .i64 (shi bb (dh P) (dl P))) ∧ wx.cell? ⟨g, 1, none⟩ = some (.int .u64 (slo bb (dl P))) ∧ Keeps w [(w.heap.size + 1, 0, .int .i64 0), (w.heap.size + 1, 1, .int .u64 0)] wx)
  case first =>
    refine region_keeps (w0 := w) (L := [(w.heap.size, 0, .int .i64 hi), (w.heap.size, 1, .int .u64 lo), (w.heap.size + 1, 0, .int .i64 0), (w.heap.size + 1, 1, .int .u64 0), (w4.heap.size, 0, .int .u64 (dh P)), (w4.heap.size, 1, .int .u64 (dl P))]) (by kernel_rfl) ((hHeld.alloc _).app (newK2 (hHeld.alloc _))) (fun hHeld0 => ?_)
    refine wpAnyH_take (i := 0) (oi := ⟨some 21, _, _, _, _, _⟩) (v := ?_) rfl (by kernel_rfl) (by kernel_rfl) (by kernel_rfl) (fun _ _ _ h => h) (Or.inl ⟨by rfl, ?_⟩) (by assumption) ?_
    rotate_left
    · intro wq hSw; obtain ⟨⟨qz0, qc0, qf0⟩, ⟨qz1, qc1, qf1⟩, ⟨qz2, qc2, qf2⟩, ⟨qz3, qc3, qf3⟩, ⟨qz4, qc4, qf4⟩, ⟨qz5, qc5, qf5⟩, _⟩ := hSw.2; go_simp; (try with_reducible rfl)
    try go_frame
    refine wpAnyH_take (i := 1) (oi := ⟨some 22, _, _, _, _, _⟩) (v := ?_) rfl (by kernel_rfl) (by kernel_rfl) (by kernel_rfl) (fun _ _ _ h => h) (Or.inl ⟨by rfl, ?_⟩) (by assumption) ?_
    rotate_left
    · intro wq hSw; obtain ⟨⟨qz0, qc0, qf0⟩, ⟨qz1, qc1, qf1⟩, ⟨qz2, qc2, qf2⟩, ⟨qz3, qc3, qf3⟩, ⟨qz4, qc4, qf4⟩, ⟨qz5, qc5, qf5⟩, _⟩ := hSw.2; go_simp; (try with_reducible rfl)
    try go_frame
    refine wpAnyH_take (i := 3) (oi := ⟨some 24, _, _, _, _, _⟩) (v := ?_) rfl (by kernel_rfl) (by kernel_rfl) (by kernel_rfl) (fun _ _ _ h => h) (Or.inl ⟨by rfl, ?_⟩) (by assumption) ?_
    rotate_left
    · intro wq hSw; go_simp; (try with_reducible rfl)
    try go_frame
    refine wpAnyH_take (i := 4) (oi := ⟨some 25, _, _, _, _, _⟩) (v := ?_) rfl (by kernel_rfl) (by kernel_rfl) (by kernel_rfl) (fun _ _ _ h => h) (Or.inl ⟨by rfl, ?_⟩) (by assumption) ?_
    rotate_left
    · intro wq hSw; go_simp; (try with_reducible rfl)
    try go_frame
    refine wpAnyH_ready (rs := [2, 10]) (by kernel_rfl) (by simp) ?_
    refine AllReadyH.cons (o := ⟨some 23, _, _, _, _, _⟩) rfl (fun K hK => ?_) ?_
    go_simp
    (first | ((with_reducible refine (below_is hi lo _ EA.out _).mono ?_); rintro e w5 ⟨rfl, hb⟩) | ((with_reducible refine (signed_any _ _ _ (dh_u64 hP0 hP1) (dl_u64 _) _).mono ?_); rintro e w6 ⟨rfl, hb⟩))
    refine hK.out _ _ (hHeld0.next hb) (fun hHeld1 => ?_)
    clear hK K
    try clear hb
    try go_frame
    refine wpAnyH_take (i := 5) (oi := ⟨some 26, _, _, _, _, _⟩) (v := ?_) rfl (by kernel_rfl) (by kernel_rfl) (by kernel_rfl) (fun _ _ _ h => h) (Or.inl ⟨by rfl, ?_⟩) (by assumption) ?_
    rotate_left
    · intro wq hSw; go_simp; (try with_reducible rfl)
    try go_frame
    refine wpAnyH_ready (rs := [6, 10]) (by kernel_rfl) (by simp) ?_
    refine AllReadyH.cons (o := ⟨some 27, _, _, _, _, _⟩) rfl (fun K hK => ?_) ?_
    go_simp
    (first | ((with_reducible refine (below_is hi lo _ EA.out _).mono ?_); rintro e w5 ⟨rfl, hb⟩) | ((with_reducible refine (signed_any _ _ _ (dh_u64 hP0 hP1) (dl_u64 _) _).mono ?_); rintro e w6 ⟨rfl, hb⟩))
    refine hK.out _ _ (hHeld1.next hb) (fun hHeld2 => ?_)
    clear hK K
    try clear hb
    try go_frame
    refine wpAnyH_take (i := 7) (oi := ⟨some 20, _, _, _, _, _⟩) (v := ?_) rfl (by kernel_rfl) (by kernel_rfl) (by kernel_rfl) (fun _ _ _ h => h) (Or.inl ⟨by rfl, ?_⟩) (by assumption) ?_
    rotate_left
    · intro wq hSw; go_simp; (try with_reducible rfl)
    try go_frame
    refine wpAnyH_take (i := 8) (oi := ⟨some 28, _, _, _, _, _⟩) (v := ?_) rfl (by kernel_rfl) (by kernel_rfl) (by kernel_rfl) (fun _ _ _ h => h) (Or.inl ⟨by rfl, ?_⟩) (by assumption) ?_
    rotate_left
    · intro wq hSw; go_simp; (try with_reducible rfl)
    try go_frame
    refine wpAnyH_take (i := 9) (oi := ⟨some 29, _, _, _, _, _⟩) (v := ?_) rfl (by kernel_rfl) (by kernel_rfl) (by kernel_rfl) (fun _ _ _ h => h) (Or.inl ⟨by rfl, ?_⟩) (by assumption) ?_
    rotate_left
    · intro wq hSw; go_simp; (try with_reducible rfl)
    try go_frame
    refine wpAnyH_ready (rs := [10]) (by kernel_rfl) (by simp) ?_
    refine AllReadyH.cons (o := ⟨some 8, _, _, _, _, _⟩) rfl (fun K hK => ?_) AllReadyH.nil
    go_simp
    refine hK.out _ _ (by first | exact hHeld2.alloc _ | exact (hHeld2.alloc _).drew) (fun hHeld3 => ?_)
    first | have hN3 := newK2 hHeld3 | have hN3 := newK2d hHeld3
    clear hK K
    try clear hb
    try go_frame
    refine wpAnyH_ready (rs := [11]) (by kernel_rfl) (by simp) ?_
    refine AllReadyH.cons (o := ⟨none, _, _, _, _, _⟩) rfl (fun K hK => ?_) AllReadyH.nil
    have hz0 := hHeld2.1.size; obtain ⟨⟨az0, ac0, af0⟩, ⟨az1, ac1, af1⟩, ⟨az2, ac2, af2⟩, ⟨az3, ac3, af3⟩, ⟨az4, ac4, af4⟩, ⟨az5, ac5, af5⟩, _⟩ := hHeld2.2; (try simp at hz0); (try simp at az0); (try simp at az1); (try simp at az2); (try simp at az3); (try simp at az4); (try simp at az5)
    obtain ⟨⟨t0z0, t0c0, t0f0⟩, ⟨t0z1, t0c1, t0f1⟩, _⟩ := hN3.2; (try simp at t0z0); (try simp at t0c0); (try simp at t0f0); (try simp at t0z1); (try simp at t0c1); (try simp at t0f1)
    go_simp
    refine hK.out _ _ (by first | exact hHeld2.alloc _ | (repeat (first | (with_reducible exact hHeld3) | (with_reducible exact (Keeps.undrewR hHeld3)) | (refine Keeps.set ?_ (by simp <;> omega) (by simp <;> omega) _) | (with_reducible refine Keeps.drew ?_)))) (fun hHeld4 => ?_)
    clear hK K
    try clear hb
    try go_frame
    refine wpAnyH_take (i := 12) (oi := ⟨some 9, _, _, _, _, _⟩) (v := ?_) rfl (by kernel_rfl) (by kernel_rfl) (by kernel_rfl) (fun _ _ _ h => h) (Or.inl ⟨by rfl, ?_⟩) (by assumption) ?_
    rotate_left
    · intro wq hSw; go_simp; (try with_reducible rfl)
    try go_frame
    refine wpAnyH_done (by kernel_rfl) ?_ _
    have hHeld := hHeld4
    obtain ⟨⟨kz0, kc0, kf0⟩, ⟨kz1, kc1, kf1⟩, ⟨kz2, kc2, kf2⟩, ⟨kz3, kc3, kf3⟩, ⟨kz4, kc4, kf4⟩, ⟨kz5, kc5, kf5⟩, _⟩ := hHeld.2
    (go_wp2_with fail; go_meet; (case rel => exact ⟨_, _, Lib.hid rfl, rfl, rfl, by simp [go_sem, *], by simp [go_sem, *], hHeld.1, hHeld.2.2.2.1, hHeld.2.2.2.2.1, trivial⟩))
    refine AllReadyH.cons (o := ⟨some 8, _, _, _, _, _⟩) rfl (fun K hK => ?_) ?_
    go_simp
    refine hK.out _ _ (by first | exact hHeld1.alloc _ | exact (hHeld1.alloc _).drew) (fun hHeld5 => ?_)
    first | have hN5 := newK2 hHeld5 | have hN5 := newK2d hHeld5
    clear hK K
    try clear hb
    try go_frame
    refine wpAnyH_ready (rs := [6]) (by kernel_rfl) (by simp) ?_
    refine AllReadyH.cons (o := ⟨some 27, _, _, _, _, _⟩) rfl (fun K hK => ?_) AllReadyH.nil
    go_simp
    (first | ((with_reducible refine (below_is hi lo _ EA.out _).mono ?_); rintro e w5 ⟨rfl, hb⟩) | ((with_reducible refine (signed_any _ _ _ (dh_u64 hP0 hP1) (dl_u64 _) _).mono ?_); rintro e w6 ⟨rfl, hb⟩))
    refine hK.out _ _ (hHeld5.next hb) (fun hHeld6 => ?_)
    replace hN5 := hN5.next hb
    clear hK K
    try clear hb
    try go_frame
    refine wpAnyH_take (i := 7) (oi := ⟨some 20, _, _, _, _, _⟩) (v := ?_) rfl (by kernel_rfl) (by kernel_rfl) (by kernel_rfl) (fun _ _ _ h => h) (Or.inl ⟨by rfl, ?_⟩) (by assumption) ?_
    rotate_left
    · intro wq hSw; go_simp; (try with_reducible rfl)
    try go_frame
    refine wpAnyH_take (i := 8) (oi := ⟨some 28, _, _, _, _, _⟩) (v := ?_) rfl (by kernel_rfl) (by kernel_rfl) (by kernel_rfl) (fun _ _ _ h => h) (Or.inl ⟨by rfl, ?_⟩) (by assumption) ?_
    rotate_left
    · intro wq hSw; go_simp; (try with_reducible rfl)
    try go_frame
    refine wpAnyH_take (i := 9) (oi := ⟨some 29, _, _, _, _, _⟩) (v := ?_) rfl (by kernel_rfl) (by kernel_rfl) (by kernel_rfl) (fun _ _ _ h => h) (Or.inl ⟨by rfl, ?_⟩) (by assumption) ?_
    rotate_left
    · intro wq hSw; go_simp; (try with_reducible rfl)
    try go_frame
    refine wpAnyH_ready (rs := [11]) (by kernel_rfl) (by simp) ?_
    refine AllReadyH.cons (o := ⟨none, _, _, _, _, _⟩) rfl (fun K hK => ?_) AllReadyH.nil
    have hz0 := hHeld1.1.size; obtain ⟨⟨az0, ac0, af0⟩, ⟨az1, ac1, af1⟩, ⟨az2, ac2, af2⟩, ⟨az3, ac3, af3⟩, ⟨az4, ac4, af4⟩, ⟨az5, ac5, af5⟩, _⟩ := hHeld1.2; (try simp at hz0); (try simp at az0); (try simp at az1); (try simp at az2); (try simp at az3); (try simp at az4); (try simp at az5)
    obtain ⟨⟨t0z0, t0c0, t0f0⟩, ⟨t0z1, t0c1, t0f1⟩, _⟩ := hN5.2; (try simp at t0z0); (try simp at t0c0); (try simp at t0f0); (try simp at t0z1); (try simp at t0c1); (try simp at t0f1)
    go_simp
    refine hK.out _ _ (by first | exact hHeld1.alloc _ | (repeat (first | (with_reducible exact hHeld6) | (with_reducible exact (Keeps.undrewR hHeld6)) | (refine Keeps.set ?_ (by simp <;> omega) (by simp <;> omega) _) | (with_reducible refine Keeps.drew ?_)))) (fun hHeld7 => ?_)
    clear hK K
    try clear hb
    try go_frame
    refine wpAnyH_take (i := 12) (oi := ⟨some 9, _, _, _, _, _⟩) (v := ?_) rfl (by kernel_rfl) (by kernel_rfl) (by kernel_rfl) (fun _ _ _ h => h) (Or.inl ⟨by rfl, ?_⟩) (by assumption) ?_
    rotate_left
    · intro wq hSw; go_simp; (try with_reducible rfl)
    try go_frame
    refine wpAnyH_done (by kernel_rfl) ?_ _
    have hHeld := hHeld7
    obtain ⟨⟨kz0, kc0, kf0⟩, ⟨kz1, kc1, kf1⟩, ⟨kz2, kc2, kf2⟩, ⟨kz3, kc3, kf3⟩, ⟨kz4, kc4, kf4⟩, ⟨kz5, kc5, kf5⟩, _⟩ := hHeld.2
    (go_wp2_with fail; go_meet; (case rel => exact ⟨_, _, Lib.hid rfl, rfl, rfl, by simp [go_sem, *], by simp [go_sem, *], hHeld.1, hHeld.2.2.2.1, hHeld.2.2.2.2.1, trivial⟩))
    exact AllReadyH.nil
    refine AllReadyH.cons (o := ⟨some 8, _, _, _, _, _⟩) rfl (fun K hK => ?_) ?_
    go_simp
    refine hK.out _ _ (by first | exact hHeld0.alloc _ | exact (hHeld0.alloc _).drew) (fun hHeld8 => ?_)
    first | have hN8 := newK2 hHeld8 | have hN8 := newK2d hHeld8
    clear hK K
    try clear hb
    try go_frame
    refine wpAnyH_ready (rs := [2]) (by kernel_rfl) (by simp) ?_
    refine AllReadyH.cons (o := ⟨some 23, _, _, _, _, _⟩) rfl (fun K hK => ?_) AllReadyH.nil
    go_simp
    (first | ((with_reducible refine (below_is hi lo _ EA.out _).mono ?_); rintro e w5 ⟨rfl, hb⟩) | ((with_reducible refine (signed_any _ _ _ (dh_u64 hP0 hP1) (dl_u64 _) _).mono ?_); rintro e w6 ⟨rfl, hb⟩))
    refine hK.out _ _ (hHeld8.next hb) (fun hHeld9 => ?_)
    replace hN8 := hN8.next hb
    clear hK K
    try clear hb
    try go_frame
    refine wpAnyH_take (i := 5) (oi := ⟨some 26, _, _, _, _, _⟩) (v := ?_) rfl (by kernel_rfl) (by kernel_rfl) (by kernel_rfl) (fun _ _ _ h => h) (Or.inl ⟨by rfl, ?_⟩) (by assumption) ?_
    rotate_left
    · intro wq hSw; go_simp; (try with_reducible rfl)
    try go_frame
    refine wpAnyH_ready (rs := [6]) (by kernel_rfl) (by simp) ?_
    refine AllReadyH.cons (o := ⟨some 27, _, _, _, _, _⟩) rfl (fun K hK => ?_) AllReadyH.nil
    go_simp
    (first | ((with_reducible refine (below_is hi lo _ EA.out _).mono ?_); rintro e w5 ⟨rfl, hb⟩) | ((with_reducible refine (signed_any _ _ _ (dh_u64 hP0 hP1) (dl_u64 _) _).mono ?_); rintro e w6 ⟨rfl, hb⟩))
    refine hK.out _ _ (hHeld9.next hb) (fun hHeld10 => ?_)
    replace hN8 := hN8.next hb
    clear hK K
    try clear hb
    try go_frame
    refine wpAnyH_take (i := 7) (oi := ⟨some 20, _, _, _, _, _⟩) (v := ?_) rfl (by kernel_rfl) (by kernel_rfl) (by kernel_rfl) (fun _ _ _ h => h) (Or.inl ⟨by rfl, ?_⟩) (by assumption) ?_
    rotate_left
    · intro wq hSw; go_simp; (try with_reducible rfl)
    try go_frame
    refine wpAnyH_take (i := 8) (oi := ⟨some 28, _, _, _, _, _⟩) (v := ?_) rfl (by kernel_rfl) (by kernel_rfl) (by kernel_rfl) (fun _ _ _ h => h) (Or.inl ⟨by rfl, ?_⟩) (by assumption) ?_
    rotate_left
    · intro wq hSw; go_simp; (try with_reducible rfl)
    try go_frame
    refine wpAnyH_take (i := 9) (oi := ⟨some 29, _, _, _, _, _⟩) (v := ?_) rfl (by kernel_rfl) (by kernel_rfl) (by kernel_rfl) (fun _ _ _ h => h) (Or.inl ⟨by rfl, ?_⟩) (by assumption) ?_
    rotate_left
    · intro wq hSw; go_simp; (try with_reducible rfl)
    try go_frame
    refine wpAnyH_ready (rs := [11]) (by kernel_rfl) (by simp) ?_
    refine AllReadyH.cons (o := ⟨none, _, _, _, _, _⟩) rfl (fun K hK => ?_) AllReadyH.nil
    have hz0 := hHeld0.1.size; obtain ⟨⟨az0, ac0, af0⟩, ⟨az1, ac1, af1⟩, ⟨az2, ac2, af2⟩, ⟨az3, ac3, af3⟩, ⟨az4, ac4, af4⟩, ⟨az5, ac5, af5⟩, _⟩ := hHeld0.2; (try simp at hz0); (try simp at az0); (try simp at az1); (try simp at az2); (try simp at az3); (try simp at az4); (try simp at az5)
    obtain ⟨⟨t0z0, t0c0, t0f0⟩, ⟨t0z1, t0c1, t0f1⟩, _⟩ := hN8.2; (try simp at t0z0); (try simp at t0c0); (try simp at t0f0); (try simp at t0z1); (try simp at t0c1); (try simp at t0f1)
    go_simp
    refine hK.out _ _ (by first | exact hHeld0.alloc _ | (repeat (first | (with_reducible exact hHeld10) | (with_reducible exact (Keeps.undrewR hHeld10)) | (refine Keeps.set ?_ (by simp <;> omega) (by simp <;> omega) _) | (with_reducible refine Keeps.drew ?_)))) (fun hHeld11 => ?_)
    clear hK K
    try clear hb
    try go_frame
    refine wpAnyH_take (i := 12) (oi := ⟨some 9, _, _, _, _, _⟩) (v := ?_) rfl (by kernel_rfl) (by kernel_rfl) (by kernel_rfl) (fun _ _ _ h => h) (Or.inl ⟨by rfl, ?_⟩) (by assumption) ?_
    rotate_left
    · intro wq hSw; go_simp; (try with_reducible rfl)
    try go_frame
    refine wpAnyH_done (by kernel_rfl) ?_ _
    have hHeld := hHeld11
    obtain ⟨⟨kz0, kc0, kf0⟩, ⟨kz1, kc1, kf1⟩, ⟨kz2, kc2, kf2⟩, ⟨kz3, kc3, kf3⟩, ⟨kz4, kc4, kf4⟩, ⟨kz5, kc5, kf5⟩, _⟩ := hHeld.2
    (go_wp2_with fail; go_meet; (case rel => exact ⟨_, _, Lib.hid rfl, rfl, rfl, by simp [go_sem, *], by simp [go_sem, *], hHeld.1, hHeld.2.2.2.1, hHeld.2.2.2.2.1, trivial⟩))
    exact AllReadyH.nil
  case rest =>
    obtain ⟨g, bb, HBB, rfl, rfl, c0, c1, hHeld⟩ := hcut
    obtain ⟨⟨kz0, kc0, kf0⟩, ⟨kz1, kc1, kf1⟩, _⟩ := hHeld.2
    have hmath : Hid (∀ f o, sfit bb (dh P) (dl P) = f → (O == 0) = o → roomV (val hi lo * n) = .tuple #[wideV (if f && o then shi bb (dh P) (dl P) else 0) (if f && o then slo bb (dl P) else 0), .int .i64 (if f && o then 0 else 5)]) := by
      intro f o hf ho
      rw [← HPP.out] at hf ⊢
      rw [← HO.out] at ho
      have hbb : bb = (!decide (val hi lo < 0) == decide (n < 0)) := by
        rw [HBB.out, ← EA.out, ← en, decide_eq_decide.2 (val_neg (hi := hi) k)]
      obtain ⟨e1, e2, e3⟩ := scale_math hbb hf ho
      rw [e1, e2, e3]
    cases hf : sfit bb (dh P) (dl P)
    · have HF := Lib.hid hf
      clear hf
      go_wp2_with fail
      refine (ifRoomW_no _ _ _).mono ?_
      skip
      rintro e w7 ⟨rfl, hb⟩
      replace hHeld := Keeps.next (hHeld) hb
      clear hb kz0 kc0 kf0 kz1 kc1 kf1
      obtain ⟨⟨kz0, kc0, kf0⟩, ⟨kz1, kc1, kf1⟩, _⟩ := hHeld.2
      go_wp2_with fail
      refine bodyPost_ret (v := .tuple #[wideV 0 0, .int .i64 5]) (by simp [results, Tryz.results80, go_sem, kc0, kc1]) rfl ?_
      exact ⟨by rw [hmath.out _ _ HF.out rfl]; simp, by first | (with_reducible exact hHeld.1) | (have hB := hHeld.1; have hz := hB.size; go_grown)⟩
    · have HF := Lib.hid hf
      clear hf
      cases ho : (O == 0)
      · have HO2 := Lib.hid ho
        go_wp2_with fail
        refine (ifRoomW_no _ _ _).mono ?_
        skip
        rintro e w7 ⟨rfl, hb⟩
        replace hHeld := Keeps.next (hHeld) hb
        clear hb kz0 kc0 kf0 kz1 kc1 kf1
        obtain ⟨⟨kz0, kc0, kf0⟩, ⟨kz1, kc1, kf1⟩, _⟩ := hHeld.2
        go_wp2_with fail
        refine bodyPost_ret (v := .tuple #[wideV 0 0, .int .i64 5]) (by simp [results, Tryz.results80, go_sem, kc0, kc1]) rfl ?_
        exact ⟨by rw [hmath.out _ _ HF.out HO2.out]; simp, by first | (with_reducible exact hHeld.1) | (have hB := hHeld.1; have hz := hB.size; go_grown)⟩
      · have HO2 := Lib.hid ho
        go_wp2_with fail
        refine (ifRoomW_yes _ _ _).mono ?_
        skip
        rintro e w7 ⟨rfl, hb⟩
        replace hHeld := Keeps.next (hHeld) hb
        clear hb kz0 kc0 kf0 kz1 kc1 kf1
        obtain ⟨⟨kz0, kc0, kf0⟩, ⟨kz1, kc1, kf1⟩, _⟩ := hHeld.2
        go_wp2_with fail
        refine bodyPost_ret (v := .tuple #[wideV (shi bb (dh P) (dl P)) (slo bb (dl P)), .int .i64 0]) (by simp [results, Tryz.results80, go_sem, kc0, kc1]) rfl ?_
        exact ⟨by rw [hmath.out _ _ HF.out HO2.out]; simp, by first | (with_reducible exact hHeld.1) | (have hB := hHeld.1; have hz := hB.size; go_grown)⟩
theorem scale_any (hi lo n : Int) (h : I64 hi) (k : U64 lo) (hn : I64 n) (w : World) :
    Calls Tryz.prog 80 #[wideV hi lo, .int .i64 n] w (Ret w (roomV (val hi lo * n))) :=
  scale_walk hi lo n h k hn w _ _ rfl rfl
end Go.Proofs.YtjioljgojfcckaaGreat

/-
  More of what package wide answers: products of two words, the negative, the number of 64 bits. Conditions: the words of a number are of 64 bits.
-/
namespace Go.Proofs.YtjioljgojfcckaaGreat
open Go.RowKit Go.Shelf

theorem mul_fits {a b : Int} (ha : I64 a) (hb : I64 b) : Fits (a * b) := by
  have h := Int.mul_le_mul (mag_i64 ha).2 (mag_i64 hb).2 (mag_i64 hb).1 (by decide)
  have h0 := Int.mul_nonneg (mag_i64 ha).1 (mag_i64 hb).1
  rw [mul_sgn]
  generalize mag a * mag b = p at *
  unfold sgn Fits
  cases (!decide (a < 0) == decide (b < 0)) <;> simp <;> omega

theorem mul_any (a b : Int) (ha : I64 a) (hb : I64 b) (w : World) :
    Calls Tryz.prog 48 #[.int .i64 a, .int .i64 b] w (Ret w (wideV (rhi (a * b)) (rlo (a * b)))) := by
  go_enter Tryz.func48, Tryz.ntmps48
  go_wp2_with fail
  refine (of_any a ha _).mono ?_
  rintro e w1 ⟨rfl, hb⟩
  have hHeld : Keeps w [(w.heap.size, 0, .int .i64 0), (w.heap.size, 1, .int .u64 0)] _ := Keeps.next (by refine ⟨by go_grown, ?_⟩; simp [Cells, go_sem]) hb
  clear hb
  obtain ⟨⟨kz0, kc0, kf0⟩, ⟨kz1, kc1, kf1⟩, _⟩ := hHeld.2
  go_wp2_with fail
  refine (scale_any (rhi a) (rlo a) b (rhi_i64 a) (rlo_u64 a) hb _).mono ?_
  rintro e w2 ⟨rfl, hb⟩
  replace hHeld := Keeps.next (hHeld) hb
  clear hb kz0 kc0 kf0 kz1 kc1 kf1
  obtain ⟨⟨kz0, kc0, kf0⟩, ⟨kz1, kc1, kf1⟩, _⟩ := hHeld.2
  simp only [val_r (fits_i64 ha)]
  generalize a * b = z at *
  go_wp2_with fail
  refine bodyPost_ret (v := wideV (rhi z) (rlo z)) (by simp [results, Tryz.results48, go_sem, World.cell?_alloc_lt, kc0, kc1, kz0]) rfl ?_
  exact ⟨rfl, by first | (with_reducible exact hHeld.1) | (have hB := hHeld.1; have hz := hB.size; go_grown)⟩

/-- The number of 64 bits, or that it is none. -/
def ihi (z : Int) : Int := if -9223372036854775808 ≤ z ∧ z ≤ 9223372036854775807 then z else 0
def icode (z : Int) : Int := if -9223372036854775808 ≤ z ∧ z ≤ 9223372036854775807 then 0 else 5
attribute [irreducible] ihi icode
end Go.Proofs.YtjioljgojfcckaaGreat

/-
  More of what package wide answers: how often a number has another one. Conditions: the words of a number are of 64 bits, the divisor is from 1 on where it is divided.
-/
namespace Go.Proofs.YtjioljgojfcckaaGreat
open Go.RowKit Go.Shelf

end Go.Proofs.YtjioljgojfcckaaGreat

/-
  More of what package wide answers: the quotient, rounded down, and what is left. Conditions: the words of a number are of 64 bits.
-/
namespace Go.Proofs.YtjioljgojfcckaaGreat
open Go.RowKit Go.Shelf

def qhi (z m : Int) : Int := if m < 1 then 0 else rhi (z / m)
def qlo (z m : Int) : Int := if m < 1 then 0 else rlo (z / m)
def qrest (z m : Int) : Int := if m < 1 then 0 else z % m
def qcode (m : Int) : Int := if m < 1 then 2 else 0
attribute [irreducible] qhi qlo qrest qcode
end Go.Proofs.YtjioljgojfcckaaGreat

/-
  More of what package wide answers: sums, number by number. Conditions: the words of a number are of 64 bits.
-/
namespace Go.Proofs.YtjioljgojfcckaaGreat
open Go.RowKit Go.Shelf

def ghi (sh sl nh nl : Int) : Int := wrap64 (wrap64 (sh + nh) + (sl + nl) / 18446744073709551616)
def glo (sl nl : Int) : Int := (sl + nl) % 18446744073709551616
def gfit (sh sl nh nl : Int) : Bool := decide (sh < 0) != decide (nh < 0) || decide (ghi sh sl nh nl < 0) == decide (nh < 0)

set_option maxRecDepth 100000 in
set_option maxHeartbeats 1600000 in
theorem grow_walk (s : Nat) (sh sl nh nl c lo : Int) (f0 ba bn bc : Bool) (w : World) (k0 : 0 ≤ c) (k1 : c ≤ 1)
    (hs : Cells [(s, 0, .int .i64 sh), (s, 1, .int .u64 sl), (s, 2, .bool f0)] w)
    (Q : ∀ w, (callFunc 96 #[.int .u64 sl, .int .u64 nl, .int .u64 0]).run Tryz.prog w = .ok (.value (.tuple #[.int .u64 lo, .int .u64 c])) w)
    (ea : decide (sh < 0) = ba) (en : decide (nh < 0) = bn) (ec : decide (wrap64 (wrap64 (sh + nh) + c) < 0) = bc) :
    Calls Tryz.prog 95 #[wideV nh nl, .pointer (some ⟨s, 0, none⟩)] w
      (Wrote w s (.tuple #[]) [(s, 0, .int .i64 (wrap64 (wrap64 (sh + nh) + c))), (s, 1, .int .u64 lo), (s, 2, .bool (ba != bn || bc == bn))]) := by
  have q0 := Lib.hid Q
  have HA := Lib.hid ea
  have HN := Lib.hid en
  clear Q
  have hK : KeepsX w s [(s, 0, .int .i64 sh), (s, 1, .int .u64 sl)] w := ⟨Near.refl _ _, hs.1, hs.2.1, trivial⟩
  have hK2 : KeepsX w s [(s, 2, .bool f0)] w := ⟨Near.refl _ _, hs.2.2.1, trivial⟩
  obtain ⟨⟨z0, c0, f0'⟩, ⟨z1, c1, f1⟩, ⟨z2, c2, f2⟩, _⟩ := hs
  by_cases g : ba = bn
  · subst g
    rw [show (ba != ba || bc == ba) = (bc == ba) from by simp]
    cases ba <;> cases bc
    all_goals
      go_enter Tryz.func95, Tryz.ntmps95
      go_wp2_with (simp only [q0.out])
      refine region_keepsXB (w0 := w) (s := s) (L := [(s, 0, .int .i64 sh), (s, 1, .int .u64 sl), (w.heap.size, 0, .int .i64 nh), (w.heap.size, 1, .int .u64 nl)]) (M := [(s, 2, .bool f0)]) (by kernel_rfl) ((hK.alloc _).app (newX2 (hK.alloc _))) (hK2.alloc _) (fun hHeld0 hT0 => ?_)
      refine wpAnyH_take (i := 0) (oi := ⟨some 24, _, _, _, _, _⟩) (v := ?_) rfl (by kernel_rfl) (by kernel_rfl) (by kernel_rfl) (fun _ _ _ h => h) (Or.inl ⟨by rfl, ?_⟩) (by assumption) ?_
      rotate_left
      · intro wq hSw; go_simp; (try with_reducible rfl)
      try go_frame
      refine wpAnyH_take (i := 1) (oi := ⟨some 25, _, _, _, _, _⟩) (v := ?_) rfl (by kernel_rfl) (by kernel_rfl) (by kernel_rfl) (fun _ _ _ h => h) (Or.inl ⟨by rfl, ?_⟩) (by assumption) ?_
      rotate_left
      · intro wq hSw; obtain ⟨⟨qz0, qc0, qf0⟩, ⟨qz1, qc1, qf1⟩, ⟨qz2, qc2, qf2⟩, ⟨qz3, qc3, qf3⟩, _⟩ := hSw.2; go_simp; (try with_reducible rfl)
      try go_frame
      refine wpAnyH_take (i := 3) (oi := ⟨some 27, _, _, _, _, _⟩) (v := ?_) rfl (by kernel_rfl) (by kernel_rfl) (by kernel_rfl) (fun _ _ _ h => h) (Or.inl ⟨by rfl, ?_⟩) (by assumption) ?_
      rotate_left
      · intro wq hSw; obtain ⟨⟨qz0, qc0, qf0⟩, ⟨qz1, qc1, qf1⟩, ⟨qz2, qc2, qf2⟩, ⟨qz3, qc3, qf3⟩, _⟩ := hSw.2; go_simp; (try with_reducible rfl)
      try go_frame
      refine wpAnyH_ready (rs := [2]) (by kernel_rfl) (by simp) ?_
      refine AllReadyH.cons (o := ⟨some 26, _, _, _, _, _⟩) rfl (fun K hK => ?_) AllReadyH.nil
      go_simp
      (first | ((with_reducible refine (below_is sh sl _ HA.out _).mono ?_); rintro e w1 ⟨rfl, hb⟩) | ((with_reducible refine (below_is nh nl _ HN.out _).mono ?_); rintro e w1 ⟨rfl, hb⟩))
      refine hK.out _ _ (hHeld0.next hb) (fun hHeld1 => ?_)
      replace hT0 := hT0.next hb
      clear hK K
      try clear hb
      try go_frame
      refine wpAnyH_ready (rs := [4]) (by kernel_rfl) (by simp) ?_
      refine AllReadyH.cons (o := ⟨some 28, _, _, _, _, _⟩) rfl (fun K hK => ?_) AllReadyH.nil
      go_simp
      (first | ((with_reducible refine (below_is sh sl _ HA.out _).mono ?_); rintro e w1 ⟨rfl, hb⟩) | ((with_reducible refine (below_is nh nl _ HN.out _).mono ?_); rintro e w1 ⟨rfl, hb⟩))
      refine hK.out _ _ (hHeld1.next hb) (fun hHeld2 => ?_)
      replace hT0 := hT0.next hb
      clear hK K
      try clear hb
      try go_frame
      refine wpAnyH_take (i := 5) (oi := ⟨some 29, _, _, _, _, _⟩) (v := ?_) rfl (by kernel_rfl) (by kernel_rfl) (by kernel_rfl) (fun _ _ _ h => h) (Or.inl ⟨by rfl, ?_⟩) (by assumption) ?_
      rotate_left
      · intro wq hSw; go_simp; (try with_reducible rfl)
      try go_frame
      refine wpAnyH_take (i := 6) (oi := ⟨some 30, _, _, _, _, _⟩) (v := ?_) rfl (by kernel_rfl) (by kernel_rfl) (by kernel_rfl) (fun _ _ _ h => h) (Or.inl ⟨by rfl, ?_⟩) (by assumption) ?_
      rotate_left
      · intro wq hSw; go_simp; (try with_reducible rfl)
      try go_frame
      refine wpAnyH_take (i := 7) (oi := ⟨some 31, _, _, _, _, _⟩) (v := ?_) rfl (by kernel_rfl) (by kernel_rfl) (by kernel_rfl) (fun _ _ _ h => h) (Or.inl ⟨by rfl, ?_⟩) (by assumption) ?_
      rotate_left
      · intro wq hSw; go_simp; (try with_reducible rfl)
      try go_frame
      refine wpAnyH_take (i := 8) (oi := ⟨some 32, _, _, _, _, _⟩) (v := ?_) rfl (by kernel_rfl) (by kernel_rfl) (by kernel_rfl) (fun _ _ _ h => h) (Or.inl ⟨by rfl, ?_⟩) (by assumption) ?_
      rotate_left
      · intro wq hSw; go_simp; (try with_reducible rfl)
      try go_frame
      refine wpAnyH_take (i := 9) (oi := ⟨some 33, _, _, _, _, _⟩) (v := ?_) rfl (by kernel_rfl) (by kernel_rfl) (by kernel_rfl) (fun _ _ _ h => h) (Or.inl ⟨by rfl, ?_⟩) (by assumption) ?_
      rotate_left
      · intro wq hSw; obtain ⟨⟨qz0, qc0, qf0⟩, ⟨qz1, qc1, qf1⟩, ⟨qz2, qc2, qf2⟩, ⟨qz3, qc3, qf3⟩, _⟩ := hSw.2; go_simp; (try with_reducible rfl)
      try go_frame
      refine wpAnyH_ready (rs := [10]) (by kernel_rfl) (by simp) ?_
      refine AllReadyH.cons (o := ⟨some 34, _, _, _, _, _⟩) rfl (fun K hK => ?_) AllReadyH.nil
      go_simp
      (first | ((with_reducible refine (below_is sh sl _ HA.out _).mono ?_); rintro e w1 ⟨rfl, hb⟩) | ((with_reducible refine (below_is nh nl _ HN.out _).mono ?_); rintro e w1 ⟨rfl, hb⟩))
      refine hK.out _ _ (hHeld2.next hb) (fun hHeld3 => ?_)
      replace hT0 := hT0.next hb
      clear hK K
      try clear hb
      try go_frame
      refine wpAnyH_take (i := 11) (oi := ⟨some 35, _, _, _, _, _⟩) (v := ?_) rfl (by kernel_rfl) (by kernel_rfl) (by kernel_rfl) (fun _ _ _ h => h) (Or.inl ⟨by rfl, ?_⟩) (by assumption) ?_
      rotate_left
      · intro wq hSw; go_simp; (try with_reducible rfl)
      try go_frame
      refine wpAnyH_take (i := 12) (oi := ⟨some 36, _, _, _, _, _⟩) (v := ?_) rfl (by kernel_rfl) (by kernel_rfl) (by kernel_rfl) (fun _ _ _ h => h) (Or.inl ⟨by rfl, ?_⟩) (by assumption) ?_
      rotate_left
      · intro wq hSw; go_simp; (try with_reducible rfl)
      try go_frame
      refine wpAnyH_take (i := 13) (oi := ⟨some 37, _, _, _, _, _⟩) (v := ?_) rfl (by kernel_rfl) (by kernel_rfl) (by kernel_rfl) (fun _ _ _ h => h) (Or.inl ⟨by rfl, ?_⟩) (by assumption) ?_
      rotate_left
      · intro wq hSw; go_simp; (try with_reducible rfl)
      try go_frame
      refine wpAnyH_ready (rs := [14]) (by kernel_rfl) (by simp) ?_
      refine AllReadyH.cons (o := ⟨none, _, _, _, _, _⟩) rfl (fun K hK => ?_) AllReadyH.nil
      obtain ⟨⟨t0z0, t0c0, t0f0⟩, _⟩ := hT0.2; (try simp at t0z0); (try simp at t0c0); (try simp at t0f0)
      go_simp
      refine hK.out _ _ (by first | exact hHeld3.alloc _ | (repeat (first | (with_reducible exact hHeld3) | (with_reducible exact (KeepsX.undrewR hHeld3)) | (refine KeepsX.set ?_ (by simp <;> omega) rfl (by simp <;> omega) _) | (with_reducible refine KeepsX.drew ?_)))) (fun hHeld4 => ?_)
      clear hK K
      try clear hb
      try go_frame
      refine wpAnyH_done (by kernel_rfl) ?_ _
      have hHeld := hHeld4
      obtain ⟨⟨kz0, kc0, kf0⟩, ⟨kz1, kc1, kf1⟩, ⟨kz2, kc2, kf2⟩, ⟨kz3, kc3, kf3⟩, _⟩ := hHeld.2
      go_wp2_with fail
      go_returns
      exact ⟨rfl, (hHeld.1.set (Or.inl rfl) _).set (Or.inl rfl) _, ⟨by simp; omega, by simp [go_sem, *], by simp [*]⟩, ⟨by simp; omega, by simp [go_sem, *], by simp [*]⟩, ⟨by simp; omega, by simp [go_sem, *], by simp [*]⟩, trivial⟩
  · rw [show (ba != bn || bc == bn) = true from by simp [g]]
    cases ba <;> cases bn <;> first | (exact absurd rfl g) | skip
    all_goals
      go_enter Tryz.func95, Tryz.ntmps95
      go_wp2_with (simp only [q0.out])
      refine region_keepsXB (w0 := w) (s := s) (L := [(s, 0, .int .i64 sh), (s, 1, .int .u64 sl), (w.heap.size, 0, .int .i64 nh), (w.heap.size, 1, .int .u64 nl)]) (M := [(s, 2, .bool f0)]) (by kernel_rfl) ((hK.alloc _).app (newX2 (hK.alloc _))) (hK2.alloc _) (fun hHeld0 hT0 => ?_)
      refine wpAnyH_take (i := 0) (oi := ⟨some 24, _, _, _, _, _⟩) (v := ?_) rfl (by kernel_rfl) (by kernel_rfl) (by kernel_rfl) (fun _ _ _ h => h) (Or.inl ⟨by rfl, ?_⟩) (by assumption) ?_
      rotate_left
      · intro wq hSw; go_simp; (try with_reducible rfl)
      try go_frame
      refine wpAnyH_take (i := 1) (oi := ⟨some 25, _, _, _, _, _⟩) (v := ?_) rfl (by kernel_rfl) (by kernel_rfl) (by kernel_rfl) (fun _ _ _ h => h) (Or.inl ⟨by rfl, ?_⟩) (by assumption) ?_
      rotate_left
      · intro wq hSw; obtain ⟨⟨qz0, qc0, qf0⟩, ⟨qz1, qc1, qf1⟩, ⟨qz2, qc2, qf2⟩, ⟨qz3, qc3, qf3⟩, _⟩ := hSw.2; go_simp; (try with_reducible rfl)
      try go_frame
      refine wpAnyH_take (i := 3) (oi := ⟨some 27, _, _, _, _, _⟩) (v := ?_) rfl (by kernel_rfl) (by kernel_rfl) (by kernel_rfl) (fun _ _ _ h => h) (Or.inl ⟨by rfl, ?_⟩) (by assumption) ?_
      rotate_left
      · intro wq hSw; obtain ⟨⟨qz0, qc0, qf0⟩, ⟨qz1, qc1, qf1⟩, ⟨qz2, qc2, qf2⟩, ⟨qz3, qc3, qf3⟩, _⟩ := hSw.2; go_simp; (try with_reducible rfl)
      try go_frame
      refine wpAnyH_ready (rs := [2]) (by kernel_rfl) (by simp) ?_
      refine AllReadyH.cons (o := ⟨some 26, _, _, _, _, _⟩) rfl (fun K hK => ?_) AllReadyH.nil
      go_simp
      (first | ((with_reducible refine (below_is sh sl _ HA.out _).mono ?_); rintro e w1 ⟨rfl, hb⟩) | ((with_reducible refine (below_is nh nl _ HN.out _).mono ?_); rintro e w1 ⟨rfl, hb⟩))
      refine hK.out _ _ (hHeld0.next hb) (fun hHeld1 => ?_)
      replace hT0 := hT0.next hb
      clear hK K
      try clear hb
      try go_frame
      refine wpAnyH_ready (rs := [4]) (by kernel_rfl) (by simp) ?_
      refine AllReadyH.cons (o := ⟨some 28, _, _, _, _, _⟩) rfl (fun K hK => ?_) AllReadyH.nil
      go_simp
      (first | ((with_reducible refine (below_is sh sl _ HA.out _).mono ?_); rintro e w1 ⟨rfl, hb⟩) | ((with_reducible refine (below_is nh nl _ HN.out _).mono ?_); rintro e w1 ⟨rfl, hb⟩))
      refine hK.out _ _ (hHeld1.next hb) (fun hHeld2 => ?_)
      replace hT0 := hT0.next hb
      clear hK K
      try clear hb
      try go_frame
      refine wpAnyH_take (i := 5) (oi := ⟨some 29, _, _, _, _, _⟩) (v := ?_) rfl (by kernel_rfl) (by kernel_rfl) (by kernel_rfl) (fun _ _ _ h => h) (Or.inl ⟨by rfl, ?_⟩) (by assumption) ?_
      rotate_left
      · intro wq hSw; go_simp; (try with_reducible rfl)
      try go_frame
      refine wpAnyH_take (i := 6) (oi := ⟨some 30, _, _, _, _, _⟩) (v := ?_) rfl (by kernel_rfl) (by kernel_rfl) (by kernel_rfl) (fun _ _ _ h => h) (Or.inl ⟨by rfl, ?_⟩) (by assumption) ?_
      rotate_left
      · intro wq hSw; go_simp; (try with_reducible rfl)
      try go_frame
      refine wpAnyH_take (i := 7) (oi := ⟨some 31, _, _, _, _, _⟩) (v := undef) rfl (by kernel_rfl) (by kernel_rfl) (by kernel_rfl) (fun _ _ _ h => h) (Or.inr ⟨by rfl, rfl⟩) (by assumption) ?_
      try go_frame
      refine wpAnyH_take (i := 8) (oi := ⟨some 32, _, _, _, _, _⟩) (v := undef) rfl (by kernel_rfl) (by kernel_rfl) (by kernel_rfl) (fun _ _ _ h => h) (Or.inr ⟨by rfl, rfl⟩) (by assumption) ?_
      try go_frame
      refine wpAnyH_take (i := 9) (oi := ⟨some 33, _, _, _, _, _⟩) (v := undef) rfl (by kernel_rfl) (by kernel_rfl) (by kernel_rfl) (fun _ _ _ h => h) (Or.inr ⟨by rfl, rfl⟩) (by assumption) ?_
      try go_frame
      refine wpAnyH_take (i := 10) (oi := ⟨some 34, _, _, _, _, _⟩) (v := undef) rfl (by kernel_rfl) (by kernel_rfl) (by kernel_rfl) (fun _ _ _ h => h) (Or.inr ⟨by rfl, rfl⟩) (by assumption) ?_
      try go_frame
      refine wpAnyH_take (i := 11) (oi := ⟨some 35, _, _, _, _, _⟩) (v := undef) rfl (by kernel_rfl) (by kernel_rfl) (by kernel_rfl) (fun _ _ _ h => h) (Or.inr ⟨by rfl, rfl⟩) (by assumption) ?_
      try go_frame
      refine wpAnyH_take (i := 12) (oi := ⟨some 36, _, _, _, _, _⟩) (v := ?_) rfl (by kernel_rfl) (by kernel_rfl) (by kernel_rfl) (fun _ _ _ h => h) (Or.inl ⟨by rfl, ?_⟩) (by assumption) ?_
      rotate_left
      · intro wq hSw; go_simp; (try with_reducible rfl)
      try go_frame
      refine wpAnyH_take (i := 13) (oi := ⟨some 37, _, _, _, _, _⟩) (v := ?_) rfl (by kernel_rfl) (by kernel_rfl) (by kernel_rfl) (fun _ _ _ h => h) (Or.inl ⟨by rfl, ?_⟩) (by assumption) ?_
      rotate_left
      · intro wq hSw; go_simp; (try with_reducible rfl)
      try go_frame
      refine wpAnyH_ready (rs := [14]) (by kernel_rfl) (by simp) ?_
      refine AllReadyH.cons (o := ⟨none, _, _, _, _, _⟩) rfl (fun K hK => ?_) AllReadyH.nil
      obtain ⟨⟨t0z0, t0c0, t0f0⟩, _⟩ := hT0.2; (try simp at t0z0); (try simp at t0c0); (try simp at t0f0)
      go_simp
      refine hK.out _ _ (by first | exact hHeld2.alloc _ | (repeat (first | (with_reducible exact hHeld2) | (with_reducible exact (KeepsX.undrewR hHeld2)) | (refine KeepsX.set ?_ (by simp <;> omega) rfl (by simp <;> omega) _) | (with_reducible refine KeepsX.drew ?_)))) (fun hHeld3 => ?_)
      clear hK K
      try clear hb
      try go_frame
      refine wpAnyH_done (by kernel_rfl) ?_ _
      have hHeld := hHeld3
      obtain ⟨⟨kz0, kc0, kf0⟩, ⟨kz1, kc1, kf1⟩, ⟨kz2, kc2, kf2⟩, ⟨kz3, kc3, kf3⟩, _⟩ := hHeld.2
      go_wp2_with fail
      go_returns
      exact ⟨rfl, (hHeld.1.set (Or.inl rfl) _).set (Or.inl rfl) _, ⟨by simp; omega, by simp [go_sem, *], by simp [*]⟩, ⟨by simp; omega, by simp [go_sem, *], by simp [*]⟩, ⟨by simp; omega, by simp [go_sem, *], by simp [*]⟩, trivial⟩
end Go.Proofs.YtjioljgojfcckaaGreat

/-
  More of what package wide answers: sums of rows, and of two numbers. Conditions: the words of a number are of 64 bits.
-/
namespace Go.Proofs.YtjioljgojfcckaaGreat
open Go.RowKit Go.Shelf

/-- All of a row, added one behind the other; none: one of these sums leaves the numbers. -/
def tot (z : Int) : List (Int × Int) → Option Int
  | [] => some z
  | x :: l => if Fits (z + val x.1 x.2) then tot (z + val x.1 x.2) l else none
def ohi : Option Int → Int | some z => rhi z | none => 0
def olo : Option Int → Int | some z => rlo z | none => 0
def ocode : Option Int → Int | some _ => 0 | none => 5
abbrev totV (o : Option Int) : Value := .tuple #[wideV (ohi o) (olo o), .int .i64 (ocode o)]

theorem grow_math {z nh nl : Int} (hz : Fits z) (h : I64 nh) (k : U64 nl) :
    gfit (rhi z) (rlo z) nh nl = decide (Fits (z + val nh nl)) ∧ (Fits (z + val nh nl) → ghi (rhi z) (rlo z) nh nl = rhi (z + val nh nl) ∧ glo (rlo z) nl = rlo (z + val nh nl)) := by
  obtain ⟨_, _⟩ := h; obtain ⟨_, _⟩ := k
  have e1 : rhi z = z / 18446744073709551616 := by unfold rhi; rw [if_pos hz]
  have e2 : rlo z = z % 18446744073709551616 := by unfold rlo; rw [if_pos hz]
  unfold Fits at hz
  constructor
  · rw [Bool.eq_iff_iff]
    unfold gfit ghi
    simp only [Bool.or_eq_true, bne_iff_ne, ne_eq, beq_iff_eq, decide_eq_decide, decide_eq_true_eq]
    rw [e1, e2]
    unfold Fits val wrap64
    omega
  · intro f
    have f' := f
    unfold Fits val at f'
    unfold rhi rlo; rw [if_pos f, if_pos f, if_pos (by unfold Fits; omega), if_pos (by unfold Fits; omega)]
    unfold ghi glo val wrap64
    omega
theorem grow_any (s : Nat) (z nh nl : Int) (f0 : Bool) (hz : Fits z) (h : I64 nh) (k : U64 nl) (w : World)
    (hs : Cells [(s, 0, .int .i64 (rhi z)), (s, 1, .int .u64 (rlo z)), (s, 2, .bool f0)] w) :
    Calls Tryz.prog 95 #[wideV nh nl, .pointer (some ⟨s, 0, none⟩)] w
      (Wrote w s (.tuple #[]) [(s, 0, .int .i64 (ghi (rhi z) (rlo z) nh nl)), (s, 1, .int .u64 (glo (rlo z) nl)), (s, 2, .bool (decide (Fits (z + val nh nl))))]) := by
  have u := rlo_u64 z
  have hw := grow_walk s (rhi z) (rlo z) nh nl ((rlo z + nl) / 18446744073709551616) ((rlo z + nl) % 18446744073709551616) f0 _ _ _ w
    (by have := u.1; have := k.1; omega) (by have := u.2; have := k.2; omega) hs (add64_0 (rlo z) nl u.1 k.1) rfl rfl rfl
  have g := (grow_math hz h k).1
  unfold gfit ghi at g
  rw [g] at hw
  exact hw

set_option maxRecDepth 100000 in
set_option maxHeartbeats 1600000 in
theorem total_walk (b off cap : Nat) (xs : List (Int × Int)) (hx : ∀ x ∈ xs, I64 x.1 ∧ U64 x.2) (hn : xs.length ≤ 1048576) (w : World) (hb : b < w.heap.size)
    (hc : ∀ i, (h : i < xs.length) → w.cell? ⟨b, off + i * 2, none⟩ = some (.int .i64 xs[i].1) ∧ w.cell? ⟨b, off + i * 2 + 1, none⟩ = some (.int .u64 xs[i].2)) :
    Calls Tryz.prog 78 #[.slice (some ⟨b, off, none⟩) xs.length cap] w (Ret w (totV (tot 0 xs))) := by
  have HC := Lib.hid hc
  have HX := Lib.hid hx
  clear hc hx
  go_enter Tryz.func78, Tryz.ntmps78
  go_wp2_with fail
  go_step3
  go_wp2_with fail
  go_step3
  go_upto_block 0 with fail
  go_cut [12] (fun _s wx => ∃ H Lo : Int, ∃ F : Bool, Hid (totV (tot 0 xs) = .tuple #[wideV (if F then H else 0) (if F then Lo else 0), .int .i64 (if F then 0 else 5)]) ∧ Keeps w [(w.heap.size, 0, .int .i64 0), (w.heap.size, 1, .int .u64 0), (w.heap.size + 1, 0, .int .i64 H), (w.heap.size + 1, 1, .int .u64 Lo), (w.heap.size + 1, 2, .bool F)] wx)
  case first =>
    go_wp2_with fail
    go_loopw [12] (fun i wr => ∃ k : Nat, k ≤ xs.length ∧ i = .int .i64 k ∧ ∃ z : Int, Hid (tot 0 xs = tot z (xs.drop k) ∧ Fits z) ∧ Keeps w [(w.heap.size, 0, .int .i64 0), (w.heap.size, 1, .int .u64 0), (w.heap.size + 1, 0, .int .i64 (rhi z)), (w.heap.size + 1, 1, .int .u64 (rlo z)), (w.heap.size + 1, 2, .bool true)] wr) (fun i _ => xs.length - (intOf i).toNat)
    case atStart =>
      refine ⟨0, Nat.zero_le _, rfl, 0, Lib.hid ⟨rfl, by unfold Fits; omega⟩, ?_⟩
      have z0 : rhi 0 = 0 := by simp [rhi, show Fits 0 from by unfold Fits; omega]
      have z1 : rlo 0 = 0 := by simp [rlo, show Fits 0 from by unfold Fits; omega]
      rw [z0, z1]
      refine ⟨by go_grown, ?_⟩
      simp [Cells, go_sem]
    case round =>
      obtain ⟨k, hk, rfl, z, HZ, hHeld⟩ := hrel
      obtain ⟨⟨kz0, kc0, kf0⟩, ⟨kz1, kc1, kf1⟩, ⟨kz2, kc2, kf2⟩, ⟨kz3, kc3, kf3⟩, ⟨kz4, kc4, kf4⟩, _⟩ := hHeld.2
      by_cases hlt : k < xs.length
      · obtain ⟨x0, x1⟩ := HC.out k hlt
        have y0 := (hHeld.1.cell (p := ⟨b, off + k * 2, none⟩) hb).trans x0
        have y1 := (hHeld.1.cell (p := ⟨b, off + k * 2 + 1, none⟩) hb).trans x1
        clear x0 x1
        obtain ⟨i0, i1⟩ := HX.out xs[k] (List.getElem_mem hlt)
        have hd : List.drop k xs = xs[k] :: List.drop (k + 1) xs := List.drop_eq_getElem_cons hlt
        obtain ⟨hz1, hz2⟩ := HZ.out
        have hg := (grow_math hz2 i0 i1).2
        rw [hd] at hz1
        have HT : Hid (tot 0 xs = if Fits (z + val xs[k].1 xs[k].2) then tot (z + val xs[k].1 xs[k].2) (List.drop (k + 1) xs) else none) := hz1
        clear hd hz1
        have gr := grow_any (w.heap.size + 1) z xs[k].1 xs[k].2 true hz2 i0 i1
        have GR := Lib.hid gr
        have HG := Lib.hid hg
        clear gr hg hz2 i0 i1
        generalize hxk : xs[k] = xk at *
        clear hxk
        obtain ⟨nh, nl⟩ := xk
        simp only at *
        go_wp2_with fail
        refine (GR.out _ (hHeld.alloc _).2.2.2).mono ?_
        rintro e w' ⟨rfl, hX⟩
        have hR : Keeps w [(w.heap.size, 0, .int .i64 0), (w.heap.size, 1, .int .u64 0)] (wr.alloc (.cells #[.int .i64 nh, .int .u64 nl] 83)) := ⟨(hHeld.alloc _).1, (hHeld.alloc _).2.1, (hHeld.alloc _).2.2.1, trivial⟩
        have hN := hR.nextX hX (by omega) (by simp)
        clear hR hX hHeld kz0 kc0 kf0 kz1 kc1 kf1 kz2 kc2 kf2 kz3 kc3 kf3 kz4 kc4 kf4
        cases hF : decide (Fits (z + val nh nl))
        · rw [hF] at hN
          have nF : ¬ Fits (z + val nh nl) := by simpa using hF
          have HF := Lib.hid nF
          clear hF nF
          obtain ⟨⟨kz0, kc0, kf0⟩, ⟨kz1, kc1, kf1⟩, ⟨kz2, kc2, kf2⟩, ⟨kz3, kc3, kf3⟩, ⟨kz4, kc4, kf4⟩, _⟩ := hN.2
          go_wp2_with fail
          go_meet
          case rel => exact ⟨_, _, false, Lib.hid (by rw [HT.out, if_neg HF.out]; rfl), hN⟩
        · rw [hF] at hN
          have nF : Fits (z + val nh nl) := by simpa using hF
          have HF := Lib.hid nF
          clear hF nF
          obtain ⟨e1, e2⟩ := HG.out HF.out
          rw [e1, e2] at hN
          clear e1 e2
          generalize z + val nh nl = z' at *
          obtain ⟨⟨kz0, kc0, kf0⟩, ⟨kz1, kc1, kf1⟩, ⟨kz2, kc2, kf2⟩, ⟨kz3, kc3, kf3⟩, ⟨kz4, kc4, kf4⟩, _⟩ := hN.2
          go_wp2_with fail
          go_roundw
          case rel => exact ⟨k + 1, by omega, by go_num, z', Lib.hid ⟨by rw [HT.out, if_pos HF.out], HF.out⟩, hN⟩
          case measure => simp [intOf]; omega
      · have hke : k = xs.length := by omega
        subst hke
        go_wp2_with fail
        go_meet
        case rel => exact ⟨_, _, true, Lib.hid (by rw [HZ.out.1, List.drop_length]; rfl), hHeld⟩
  case rest =>
    obtain ⟨H, Lo, F, HV, hHeld⟩ := hcut
    obtain ⟨⟨kz0, kc0, kf0⟩, ⟨kz1, kc1, kf1⟩, ⟨kz2, kc2, kf2⟩, ⟨kz3, kc3, kf3⟩, ⟨kz4, kc4, kf4⟩, _⟩ := hHeld.2
    cases F
    · skip
      go_wp2_with fail
      refine (ifRoomW_no _ _ _).mono ?_
      skip
      rintro e w2 ⟨rfl, hb⟩
      replace hHeld := Keeps.next (hHeld) hb
      clear hb kz0 kc0 kf0 kz1 kc1 kf1 kz2 kc2 kf2 kz3 kc3 kf3 kz4 kc4 kf4
      obtain ⟨⟨kz0, kc0, kf0⟩, ⟨kz1, kc1, kf1⟩, ⟨kz2, kc2, kf2⟩, ⟨kz3, kc3, kf3⟩, ⟨kz4, kc4, kf4⟩, _⟩ := hHeld.2
      go_wp2_with fail
      refine bodyPost_ret (v := .tuple #[wideV 0 0, .int .i64 5]) (by simp [results, Tryz.results78, go_sem, kc0, kc1]) rfl ?_
      exact ⟨by rw [HV.out]; simp, by first | (with_reducible exact hHeld.1) | (have hB := hHeld.1; have hz := hB.size; go_grown)⟩
    · skip
      go_wp2_with fail
      refine (ifRoomW_yes _ _ _).mono ?_
      skip
      rintro e w2 ⟨rfl, hb⟩
      replace hHeld := Keeps.next (hHeld) hb
      clear hb kz0 kc0 kf0 kz1 kc1 kf1 kz2 kc2 kf2 kz3 kc3 kf3 kz4 kc4 kf4
      obtain ⟨⟨kz0, kc0, kf0⟩, ⟨kz1, kc1, kf1⟩, ⟨kz2, kc2, kf2⟩, ⟨kz3, kc3, kf3⟩, ⟨kz4, kc4, kf4⟩, _⟩ := hHeld.2
      go_wp2_with fail
      refine bodyPost_ret (v := .tuple #[wideV H Lo, .int .i64 0]) (by simp [results, Tryz.results78, go_sem, kc0, kc1]) rfl ?_
      exact ⟨by rw [HV.out]; simp, by first | (with_reducible exact hHeld.1) | (have hB := hHeld.1; have hz := hB.size; go_grown)⟩

end Go.Proofs.YtjioljgojfcckaaGreat
