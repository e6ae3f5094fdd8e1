/-
  math/bits.Div64, where the upper word is not 0. Conditions: words are of 64 bits, the upper word is below the divisor.
-/
import Derived.Test.YtnacdofidmgfmaaDiv
import Derived.Test.YtnacdofidmgfmaaDivE
import Derived.Deep.CutBlock
import Derived.Deep.LoopGhost
namespace Go.Proofs.Ytnacdofidmgfmaa
open Go.RowKit Go.Shelf

theorem len_zeros (y : Int) (h0 : 0 ≤ y) (h1 : y ≤ 18446744073709551615) (w : World) :
    Calls Try.prog 109 #[.int .u64 y] w fun e w' => e = .returned (.int .i64 (64 - (Lib.bitLen y.toNat : Int))) ∧ w = w' := by
  have hb := Lib.bitLen_le y.toNat 64 (by omega) (by omega)
  go_enter Try.func109, Try.ntmps109
  go_wp2_with fail
  refine (Try.bits_Len64 y _ h0 h1).mono ?_
  rintro e w' ⟨rfl, rfl⟩
  go_wp2_with fail
  go_ret
  exact ⟨rfl, rfl⟩

/-- What the walk's words are. -/
theorem div_words {hi x y : Int} {k : Nat} (hk : k ≤ 63) (hx : U64 x) (h0 : 0 < hi) (h1 : hi < y) (hy0 : 9223372036854775808 ≤ y * 2 ^ k) (hy1 : y * 2 ^ k < 18446744073709551616) :
    ∃ Y U X yn1 yn0 un1 un0 : Int, IntKind.u64.wrap (y * 2 ^ k) = Y ∧ bits .or .u64 (IntKind.u64.wrap (hi * 2 ^ k)) (x / 2 ^ (64 - k)) = U ∧ IntKind.u64.wrap (x * 2 ^ k) = X ∧
      Y / 4294967296 = yn1 ∧ bits .and .u64 Y 4294967295 = yn0 ∧ X / 4294967296 = un1 ∧ bits .and .u64 X 4294967295 = un0 ∧
      Y = yn1 * 4294967296 + yn0 ∧ 0 ≤ yn0 ∧ yn0 < 4294967296 ∧ 2147483648 ≤ yn1 ∧ yn1 < 4294967296 ∧ 0 ≤ un1 ∧ un1 < 4294967296 ∧ 0 ≤ un0 ∧ un0 < 4294967296 ∧ 0 ≤ U ∧ U < Y ∧ Y < 18446744073709551616 ∧
      val hi x / y = (U * 18446744073709551616 + (un1 * 4294967296 + un0)) / Y ∧ val hi x % y = (U * 18446744073709551616 + (un1 * 4294967296 + un0)) % Y / 2 ^ k := by
  have p := two_pow_pos k
  have eY : IntKind.u64.wrap (y * 2 ^ k) = y * 2 ^ k := by rw [IntKind.wrap_u64]; omega
  have hlt : hi * 2 ^ k + 2 ^ k ≤ y * 2 ^ k := by
    have : (hi + 1) * 2 ^ k ≤ y * 2 ^ k := Int.mul_le_mul_of_nonneg_right (by omega) (Int.le_of_lt p)
    rw [Int.add_mul, Int.one_mul] at this; exact this
  obtain ⟨eU, d0, d1⟩ := shift_join hk (Int.le_of_lt h0) (by omega) hx
  have hw := shift_whole hk (hi := hi) (x := x)
  have hX : U64 (IntKind.u64.wrap (x * 2 ^ k)) := by rw [IntKind.wrap_u64]; exact ⟨by omega, by omega⟩
  obtain ⟨s1, s2⟩ := shift_div (k := k) (n := hi * 18446744073709551616 + x) (y := y)
  have m0 : 0 ≤ hi * 2 ^ k := Int.mul_nonneg (Int.le_of_lt h0) (Int.le_of_lt p)
  refine ⟨_, _, _, _, _, _, _, rfl, rfl, rfl, rfl, rfl, rfl, rfl, ?_⟩
  rw [mask32 _ hX, eY, mask32 _ ⟨by omega, hy1⟩, eU]
  generalize IntKind.u64.wrap (x * 2 ^ k) = X at *
  have eX : X / 4294967296 * 4294967296 + X % 4294967296 = X := by omega
  rw [eX, hw]
  obtain ⟨X0, X1⟩ := hX
  refine ⟨by omega, by omega, by omega, by omega, by omega, by omega, by omega, by omega, by omega, by omega, by omega, hy1, ?_, ?_⟩
  · rw [s1]; unfold val; rfl
  · rw [s2]; unfold val; rfl

set_option maxRecDepth 100000 in
set_option maxHeartbeats 1600000 in
theorem div64_walk (hi x y : Int) (k : Nat) (hk : k ≤ 63) (hx : U64 x) (hy : U64 y) (h0 : 0 < hi) (h1 : hi < y) (hy0 : 9223372036854775808 ≤ y * 2 ^ k) (hy1 : y * 2 ^ k < 18446744073709551616)
    (LZ : ∀ w, Calls Try.prog 109 #[.int .u64 y] w fun e w' => e = .returned (.int .i64 k) ∧ w = w') (w : World) :
    Calls Try.prog 108 #[.int .u64 hi, .int .u64 x, .int .u64 y] w (Ret w (.tuple #[.int .u64 ((val hi x) / y), .int .u64 ((val hi x) % y)])) := by
  obtain ⟨Y, U, X, yn1, yn0, un1, un0, eY, eU, eX, e1, e2, e3, e4, wY, b1, b2, b3, b4, b5, b6, b7, b8, b9, b10, b11, r1, r2⟩ := div_words hk hx h0 h1 hy0 hy1
  rw [r1, r2]
  clear r1 r2 hy0 hy1
  obtain ⟨x0, x1⟩ := hx
  obtain ⟨y0, y1⟩ := hy
  have g1 : (y == 0) = false := by simp; omega
  have g2 : decide (y ≤ hi) = false := by simp; omega
  have g3 : (hi == 0) = false := by simp; omega
  have g4 : ¬ yn1 = 0 := by omega
  have HL := Lib.hid LZ
  have HY := Lib.hid wY
  clear LZ wY
  go_enter Try.func108, Try.ntmps108
  go_wp2_with fail
  refine (HL.out _).mono ?_
  rintro e w' ⟨rfl, rfl⟩
  go_upto_block 0 with fail
  clear eY eU eX e1 e2 e3 e4
  obtain ⟨D1, hD1⟩ : ∃ D1, D1 = (U * 4294967296 + un1) / Y := ⟨_, rfl⟩
  obtain ⟨R1, hR1⟩ : ∃ R1, R1 = (U * 4294967296 + un1) % Y := ⟨_, rfl⟩
  obtain ⟨D0, hD0⟩ : ∃ D0, D0 = (R1 * 4294967296 + un0) / Y := ⟨_, rfl⟩
  have hY0 : 0 < Y := by omega
  have hrest := digit_rest hD1 hY0 b11
  have hrest0 := digit_rest hD0 hY0 b11
  obtain ⟨hw1, hw2⟩ := digits_whole hD1 hR1 hD0 hY0
  have R1a : 0 ≤ R1 := by rw [hR1]; exact Int.emod_nonneg _ (by omega)
  have R1b : R1 < Y := by rw [hR1]; exact Int.emod_lt_of_pos _ hY0
  have D1a : 0 ≤ D1 := by rw [hD1]; exact Int.ediv_nonneg (by omega) (by omega)
  have D1b : D1 < 4294967296 := by rw [hD1]; exact digit_small b10 b6 hY0
  have D0a : 0 ≤ D0 := by rw [hD0]; exact Int.ediv_nonneg (by omega) (by omega)
  have D0b : D0 < 4294967296 := by rw [hD0]; exact digit_small R1b b8 hY0
  rw [← hR1] at hrest
  have HD1 := Lib.hid hD1
  have HR1 := Lib.hid hR1
  have HD0 := Lib.hid hD0
  have HW1 := Lib.hid hw1
  have HW2 := Lib.hid hw2
  have HRest := Lib.hid hrest
  have HRest0 := Lib.hid hrest0
  clear hD1 hR1 hD0 hw1 hw2 hrest hrest0
  go_cut [15] (fun s15 wx => s15 = .int .u64 D1 ∧ w = wx)
  case first =>
    go_wp2_with fail
    go_loop [15, 16] (fun a b => ∃ q rh : Int, a = .int .u64 q ∧ b = .int .u64 rh ∧ 0 ≤ rh ∧ rh < 4294967296 ∧ 0 ≤ q ∧ q ≤ 8589934592 ∧ Hid (Digit U un1 Y yn1 q rh)) (fun a _ => (intOf a).toNat)
    case atStart =>
      obtain ⟨s1, s2, s3, s4, s5⟩ := digit_start (u := un1) HY.out b1 b3 b4 b6 b9 (by omega)
      exact ⟨_, _, rfl, rfl, s4, s5, s2, s3, Lib.hid s1⟩
    case round =>
      obtain ⟨q, rh, rfl, rfl, r0, r1, q0, q1, HD⟩ := hrel
      by_cases c1 : 4294967296 ≤ q
      · have st := digit_step HD.out (digit_big b10 b6 (by omega) c1) (by omega)
        have ST := Lib.hid st
        clear st
        by_cases c2 : 4294967296 ≤ rh + yn1
        · go_wp2_with fail
          go_meet
          case rel => exact ⟨by rw [HD1.out, ← digit_break ST.out HY.out b1 b2 (by omega) b10 b5 c2], rfl⟩
        · have c3 : ¬ (4294967296 ≤ rh + yn1) := c2
          go_wp2_with fail
          go_round
          case rel => exact ⟨q - 1, rh + yn1, rfl, rfl, by omega, by omega, by omega, by omega, ST⟩
          case measure => simp [intOf]; omega
      · have mm := digit_mul q0 (by omega) b1 b2
        obtain ⟨m0, m1⟩ := mm
        by_cases c4 : 4294967296 * rh + un1 < q * yn0
        · have qp : 0 < q := by
            by_cases qp : 0 < q
            · exact qp
            · have : q = 0 := by omega
              subst this; omega
          have st := digit_step HD.out (digit_over HD.out HY.out (by omega) c4) (by omega)
          have ST := Lib.hid st
          clear st
          by_cases c2 : 4294967296 ≤ rh + yn1
          · go_wp2_with fail
            go_meet
            case rel => exact ⟨by rw [HD1.out, ← digit_break ST.out HY.out b1 b2 (by omega) b10 b5 c2], rfl⟩
          · have c3 : ¬ (4294967296 ≤ rh + yn1) := c2
            go_wp2_with fail
            go_round
            case rel => exact ⟨q - 1, rh + yn1, rfl, rfl, by omega, by omega, by omega, by omega, ST⟩
            case measure => simp [intOf]; omega
        · have dn := Lib.hid (digit_done HD.out HY.out (by omega) (by omega))
          go_wp2_with fail
          go_meet
          case rel => exact ⟨by rw [HD1.out, ← dn.out], rfl⟩
  case rest =>
    obtain ⟨rfl, rfl⟩ := hcut
    have hrest := HRest.out
    clear HRest
    go_upto_block 2 with fail
    clear hrest
    go_cut [18] (fun s18 wx => s18 = .int .u64 D0 ∧ w = wx)
    case first =>
      go_wp2_with fail
      go_loop [18, 16] (fun a b => ∃ q rh : Int, a = .int .u64 q ∧ b = .int .u64 rh ∧ 0 ≤ rh ∧ rh < 4294967296 ∧ 0 ≤ q ∧ q ≤ 8589934592 ∧ Hid (Digit R1 un0 Y yn1 q rh)) (fun a _ => (intOf a).toNat)
      case atStart =>
        obtain ⟨s1, s2, s3, s4, s5⟩ := digit_start (u := un0) HY.out b1 b3 b4 b8 R1a (by omega)
        exact ⟨_, _, rfl, rfl, s4, s5, s2, s3, Lib.hid s1⟩
      case round =>
        obtain ⟨q, rh, rfl, rfl, r0, r1, q0, q1, HD⟩ := hrel
        by_cases c1 : 4294967296 ≤ q
        · have st := digit_step HD.out (digit_big R1b b8 (by omega) c1) (by omega)
          have ST := Lib.hid st
          clear st
          by_cases c2 : 4294967296 ≤ rh + yn1
          · go_wp2_with fail
            go_meet
            case rel => exact ⟨by rw [HD0.out, ← digit_break ST.out HY.out b1 b2 (by omega) R1b b7 c2], rfl⟩
          · have c3 : ¬ (4294967296 ≤ rh + yn1) := c2
            go_wp2_with fail
            go_round
            case rel => exact ⟨q - 1, rh + yn1, rfl, rfl, by omega, by omega, by omega, by omega, ST⟩
            case measure => simp [intOf]; omega
        · have mm := digit_mul q0 (by omega) b1 b2
          obtain ⟨m0, m1⟩ := mm
          by_cases c4 : 4294967296 * rh + un0 < q * yn0
          · have qp : 0 < q := by
              by_cases qp : 0 < q
              · exact qp
              · have : q = 0 := by omega
                subst this; omega
            have st := digit_step HD.out (digit_over HD.out HY.out (by omega) c4) (by omega)
            have ST := Lib.hid st
            clear st
            by_cases c2 : 4294967296 ≤ rh + yn1
            · go_wp2_with fail
              go_meet
              case rel => exact ⟨by rw [HD0.out, ← digit_break ST.out HY.out b1 b2 (by omega) R1b b7 c2], rfl⟩
            · have c3 : ¬ (4294967296 ≤ rh + yn1) := c2
              go_wp2_with fail
              go_round
              case rel => exact ⟨q - 1, rh + yn1, rfl, rfl, by omega, by omega, by omega, by omega, ST⟩
              case measure => simp [intOf]; omega
          · have dn := Lib.hid (digit_done HD.out HY.out (by omega) (by omega))
            go_wp2_with fail
            go_meet
            case rel => exact ⟨by rw [HD0.out, ← dn.out], rfl⟩
    case rest =>
      obtain ⟨rfl, rfl⟩ := hcut
      obtain ⟨R0, hR0⟩ : ∃ R0, R0 = (R1 * 4294967296 + un0) % Y := ⟨_, rfl⟩
      have hrest := HRest0.out
      rw [← hR0] at hrest
      have HR0 := Lib.hid hR0
      clear hR0
      go_wp2_with fail
      go_returns
      exact ⟨by rw [HW1.out, HW2.out, ← HR0.out]; rfl, Below.refl _ _⟩
theorem div64_any (hi x y : Int) (hx : U64 x) (hy : U64 y) (h0 : 0 ≤ hi) (h1 : hi < y) (w : World) :
    Calls Try.prog 108 #[.int .u64 hi, .int .u64 x, .int .u64 y] w (Ret w (.tuple #[.int .u64 ((val hi x) / y), .int .u64 ((val hi x) % y)])) := by
  by_cases g : hi = 0
  · subst g
    have := div64_0 x y hx hy h1 w
    rw [show val 0 x = x from by unfold val; omega]
    exact this
  · obtain ⟨k, hk, e, b0, b1⟩ := norm_bounds (y := y) (by omega) hy.2
    exact div64_walk hi x y k hk hx hy (by omega) h1 b0 b1 (fun w => by rw [← e]; exact len_zeros y hy.1 (by have := hy.2; omega) w) w
end Go.Proofs.Ytnacdofidmgfmaa
