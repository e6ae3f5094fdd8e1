/-
  Layer 3: the float of a whole number: its parts. Conditions: those written at each fact.
-/
import Derived.Test.YtinppckjolkhpaaOrd
import Derived.Test.YtinppckjolkhpaaFlB
namespace Go.Proofs.Ytinppckjolkhpaa
open Go.RowKit Go.Shelf

/-- What 'shifted' answers where a number's first 53 digits are asked. -/
theorem mant_any (x : Nat) (h0 : x ≠ 0) (h : x ≤ 2305843009213693952) (w : World) :
    Calls Try.prog 45 #[.int .u64 x, .int .i64 (-surp x)] w (Ret w (.tuple #[.int .u64 (mant x), .bool true])) := by
  obtain ⟨r1, r2⟩ := surp_range h0 h
  by_cases g : surp x ≤ 0
  · obtain ⟨n, hn⟩ : ∃ n : Nat, -surp x = (n : Int) := ⟨(-surp x).toNat, by omega⟩
    have hL : Lib.bitLen x + n ≤ 64 := by unfold surp at hn; omega
    have S := shifted_pos x n (by omega) (by omega) true (decide_eq_true hL) w
    have fy := fits_yes (show x < 18446744073709551616 by omega) hL
    have e : IntKind.u64.wrap ((x : Int) * 2 ^ min n 64) = (mant x : Int) := by
      unfold mant
      rw [if_pos g, hn, Int.toNat_natCast, Nat.min_eq_left (by omega), IntKind.wrap_u64]
      have : ((x : Int)) * 2 ^ n = ((x * 2 ^ n : Nat) : Int) := by simp
      rw [this]
      omega
    rw [e] at S
    rw [hn]
    exact S
  · obtain ⟨n, hn⟩ : ∃ n : Nat, surp x = (n : Int) := ⟨(surp x).toNat, by omega⟩
    have S := shifted_neg x n (by omega) (by omega) (by omega) w
    have e : cutN x n = mant x := by unfold mant; rw [if_neg g, hn, Int.toNat_natCast]
    rw [e] at S
    rw [hn]
    exact S
theorem far_of (v : Int) : max v (-v) = (v.natAbs : Int) := by omega
abbrev partsV (s : Bool) (e f : Int) : Value := .agg #[.bool s, .int .i64 e, .int .u64 f]

set_option maxRecDepth 100000 in
set_option maxHeartbeats 2000000 in
theorem parts_zero (s : Int) (w : World) : Calls Try.prog 25 #[.int .i64 0, .int .i64 s] w (Ret w (.tuple #[partsV false 0 0, .bool true])) := by
  go_enter Try.func25, Try.ntmps25
  go_wp2_with fail
  exact bodyPost_ret (v := .tuple #[partsV false 0 0, .bool true]) (by simp [results, Try.results25, go_sem]) rfl ⟨rfl, below_alloc w _⟩
set_option maxRecDepth 100000 in
set_option maxHeartbeats 2000000 in
theorem parts_walk (v : Int) (sb : Bool) (x L m : Nat) (s : Int) (S FE FF : Int) (ex : Bool) (hv : v ≠ 0) (hsb : decide (v < 0) = sb) (hx : max v (-v) = (x : Int)) (h1 : -2305843009213693952 ≤ v) (h2 : v ≤ 2305843009213693952) (hs1 : -40 ≤ s) (hs2 : s ≤ 40)
    (hL : ∀ W, Calls Try.prog 46 #[.int .u64 x] W fun e w' => e = .returned (.int .i64 L) ∧ w' = W) (hS : (L : Int) - 53 = S) (hS1 : -52 ≤ S) (hS2 : S ≤ 9)
    (SH : ∀ W p, p = -S → Calls Try.prog 45 #[.int .u64 x, .int .i64 p] W (Ret W (.tuple #[.int .u64 m, .bool true])))
    (hm1 : 4503599627370496 ≤ m) (hm2 : m ≤ 9007199254740992) (hex : (decide (S ≤ 0) || decide (m * 2 ^ S.toNat = x)) = ex)
    (hFE : FE = (if m = 9007199254740992 then S + 1 else S) - s + 1075) (hFF : FF = if m = 9007199254740992 then 0 else (m : Int) - 4503599627370496) (w : World) :
    Calls Try.prog 25 #[.int .i64 v, .int .i64 s] w (Ret w (.tuple #[partsV sb FE FF, .bool ex])) := by
  have k0 : (v == 0) = false := by simpa using hv
  have HL := Lib.hid hL
  have HS := Lib.hid SH
  have kx : (x : Int) ≤ 2305843009213693952 := by omega
  clear hv hL SH
  by_cases g : S ≤ 0
  · obtain rfl : ex = true := by rw [← hex, decide_eq_true g]; rfl
    clear hex
    by_cases c : m = 9007199254740992
    · subst c
      rw [if_pos rfl] at hFE hFF
      subst hFE hFF
      go_enter Try.func25, Try.ntmps25
      go_wp2_with fail
      refine (HL.out _).mono ?_
      rintro en w1 ⟨rfl, rfl⟩
      go_wp2_with fail
      refine (HS.out _ _ (by omega)).mono ?_
      rintro en w1 ⟨rfl, hb1⟩
      have c0 : w1.cell? ⟨w.heap.size, 0, none⟩ = some (.bool false) := (hb1.cell (p := ⟨w.heap.size, 0, none⟩) (by simp)).trans (by simp [go_sem])
      have c1 : w1.cell? ⟨w.heap.size, 1, none⟩ = some (.int .i64 0) := (hb1.cell (p := ⟨w.heap.size, 1, none⟩) (by simp)).trans (by simp [go_sem])
      have c2 : w1.cell? ⟨w.heap.size, 2, none⟩ = some (.int .u64 0) := (hb1.cell (p := ⟨w.heap.size, 2, none⟩) (by simp)).trans (by simp [go_sem])
      have f0 : w1.frozen? ⟨w.heap.size, 0, none⟩ = false := (hb1.frozen (p := ⟨w.heap.size, 0, none⟩) (by simp)).trans (by simp [go_sem])
      have f1 : w1.frozen? ⟨w.heap.size, 1, none⟩ = false := (hb1.frozen (p := ⟨w.heap.size, 1, none⟩) (by simp)).trans (by simp [go_sem])
      have f2 : w1.frozen? ⟨w.heap.size, 2, none⟩ = false := (hb1.frozen (p := ⟨w.heap.size, 2, none⟩) (by simp)).trans (by simp [go_sem])
      have HB := Lib.hid (under (below_alloc w _) hb1)
      clear hb1
      go_wp2_with fail
      obtain ⟨d0, d1, d2⟩ := set3 (W := w1) (B := w.heap.size) (u0 := .bool sb) (u1 := .int .i64 (S + 1 - s + 1075)) (u2 := .int .u64 0) c0 c1 c2
      refine bodyPost_ret (v := .tuple #[partsV sb (S + 1 - s + 1075) 0, .bool true]) (by simp [results, Try.results25, go_sem, d0, d1, d2]) rfl ?_
      exact ⟨rfl, ((HB.out.setCell (p := ⟨w.heap.size, 0, none⟩) (by simp) _).setCell (p := ⟨w.heap.size, 1, none⟩) (by simp) _).setCell (p := ⟨w.heap.size, 2, none⟩) (by simp) _⟩
    · rw [if_neg c] at hFE hFF
      subst hFE hFF
      have k2 : ((m : Int) == 9007199254740992) = false := by simp; omega
      have k3 : (4503599627370496 : Int) ≤ m := by omega
      have k4 : (m : Int) ≤ 9007199254740992 := by omega
      go_enter Try.func25, Try.ntmps25
      go_wp2_with fail
      refine (HL.out _).mono ?_
      rintro en w1 ⟨rfl, rfl⟩
      go_wp2_with fail
      refine (HS.out _ _ (by omega)).mono ?_
      rintro en w1 ⟨rfl, hb1⟩
      have c0 : w1.cell? ⟨w.heap.size, 0, none⟩ = some (.bool false) := (hb1.cell (p := ⟨w.heap.size, 0, none⟩) (by simp)).trans (by simp [go_sem])
      have c1 : w1.cell? ⟨w.heap.size, 1, none⟩ = some (.int .i64 0) := (hb1.cell (p := ⟨w.heap.size, 1, none⟩) (by simp)).trans (by simp [go_sem])
      have c2 : w1.cell? ⟨w.heap.size, 2, none⟩ = some (.int .u64 0) := (hb1.cell (p := ⟨w.heap.size, 2, none⟩) (by simp)).trans (by simp [go_sem])
      have f0 : w1.frozen? ⟨w.heap.size, 0, none⟩ = false := (hb1.frozen (p := ⟨w.heap.size, 0, none⟩) (by simp)).trans (by simp [go_sem])
      have f1 : w1.frozen? ⟨w.heap.size, 1, none⟩ = false := (hb1.frozen (p := ⟨w.heap.size, 1, none⟩) (by simp)).trans (by simp [go_sem])
      have f2 : w1.frozen? ⟨w.heap.size, 2, none⟩ = false := (hb1.frozen (p := ⟨w.heap.size, 2, none⟩) (by simp)).trans (by simp [go_sem])
      have HB := Lib.hid (under (below_alloc w _) hb1)
      clear hb1
      go_wp2_with fail
      obtain ⟨d0, d1, d2⟩ := set3 (W := w1) (B := w.heap.size) (u0 := .bool sb) (u1 := .int .i64 (S - s + 1075)) (u2 := .int .u64 ((m : Int) - 4503599627370496)) c0 c1 c2
      refine bodyPost_ret (v := .tuple #[partsV sb (S - s + 1075) ((m : Int) - 4503599627370496), .bool true]) (by simp [results, Try.results25, go_sem, d0, d1, d2]) rfl ?_
      exact ⟨rfl, ((HB.out.setCell (p := ⟨w.heap.size, 0, none⟩) (by simp) _).setCell (p := ⟨w.heap.size, 1, none⟩) (by simp) _).setCell (p := ⟨w.heap.size, 2, none⟩) (by simp) _⟩
  · obtain ⟨n, rfl⟩ : ∃ n : Nat, S = (n : Int) := ⟨S.toNat, by omega⟩
    rw [decide_eq_false g, Bool.false_or, Int.toNat_natCast] at hex
    have g1 : ¬ (n : Int) ≤ 0 := g
    have gn : min n 64 = n := by omega
    have gn2 : (0 : Int) ≤ (n : Int) := by omega
    have q1 : m * 2 ^ n ≤ 9007199254740992 * 512 := Nat.mul_le_mul hm2 (by have : 2 ^ n ≤ 2 ^ 9 := Nat.pow_le_pow_right (by decide) (by omega); omega)
    have q2 : IntKind.u64.wrap ((m : Int) * 2 ^ n) = ((m * 2 ^ n : Nat) : Int) := by
      have : ((m : Int)) * 2 ^ n = ((m * 2 ^ n : Nat) : Int) := by simp
      rw [this, IntKind.wrap_u64]
      omega
    generalize m * 2 ^ n = y at *
    have q3 : ((y : Int) == (x : Int)) = ex := by rw [← hex, Bool.eq_iff_iff]; simp; omega
    have q4 : (y == x) = ex := by rw [← hex, Bool.eq_iff_iff]; simp
    clear hex q1 g
    by_cases c : m = 9007199254740992
    · subst c
      have q5 : IntKind.u64.wrap (9007199254740992 * 2 ^ n) = (y : Int) := q2
      clear q2
      rw [if_pos rfl] at hFE hFF
      subst hFE hFF
      go_enter Try.func25, Try.ntmps25
      go_wp2_with fail
      refine (HL.out _).mono ?_
      rintro en w1 ⟨rfl, rfl⟩
      go_wp2_with fail
      refine (HS.out _ _ (by omega)).mono ?_
      rintro en w1 ⟨rfl, hb1⟩
      have c0 : w1.cell? ⟨w.heap.size, 0, none⟩ = some (.bool false) := (hb1.cell (p := ⟨w.heap.size, 0, none⟩) (by simp)).trans (by simp [go_sem])
      have c1 : w1.cell? ⟨w.heap.size, 1, none⟩ = some (.int .i64 0) := (hb1.cell (p := ⟨w.heap.size, 1, none⟩) (by simp)).trans (by simp [go_sem])
      have c2 : w1.cell? ⟨w.heap.size, 2, none⟩ = some (.int .u64 0) := (hb1.cell (p := ⟨w.heap.size, 2, none⟩) (by simp)).trans (by simp [go_sem])
      have f0 : w1.frozen? ⟨w.heap.size, 0, none⟩ = false := (hb1.frozen (p := ⟨w.heap.size, 0, none⟩) (by simp)).trans (by simp [go_sem])
      have f1 : w1.frozen? ⟨w.heap.size, 1, none⟩ = false := (hb1.frozen (p := ⟨w.heap.size, 1, none⟩) (by simp)).trans (by simp [go_sem])
      have f2 : w1.frozen? ⟨w.heap.size, 2, none⟩ = false := (hb1.frozen (p := ⟨w.heap.size, 2, none⟩) (by simp)).trans (by simp [go_sem])
      have HB := Lib.hid (under (below_alloc w _) hb1)
      clear hb1
      go_wp2_with fail
      obtain ⟨d0, d1, d2⟩ := set3 (W := w1) (B := w.heap.size) (u0 := .bool sb) (u1 := .int .i64 ((n : Int) + 1 - s + 1075)) (u2 := .int .u64 0) c0 c1 c2
      refine bodyPost_ret (v := .tuple #[partsV sb ((n : Int) + 1 - s + 1075) 0, .bool ex]) (by simp [results, Try.results25, go_sem, d0, d1, d2]) rfl ?_
      exact ⟨rfl, ((HB.out.setCell (p := ⟨w.heap.size, 0, none⟩) (by simp) _).setCell (p := ⟨w.heap.size, 1, none⟩) (by simp) _).setCell (p := ⟨w.heap.size, 2, none⟩) (by simp) _⟩
    · rw [if_neg c] at hFE hFF
      subst hFE hFF
      have k2 : ((m : Int) == 9007199254740992) = false := by simp; omega
      have k3 : (4503599627370496 : Int) ≤ m := by omega
      have k4 : (m : Int) ≤ 9007199254740992 := by omega
      go_enter Try.func25, Try.ntmps25
      go_wp2_with fail
      refine (HL.out _).mono ?_
      rintro en w1 ⟨rfl, rfl⟩
      go_wp2_with fail
      refine (HS.out _ _ (by omega)).mono ?_
      rintro en w1 ⟨rfl, hb1⟩
      have c0 : w1.cell? ⟨w.heap.size, 0, none⟩ = some (.bool false) := (hb1.cell (p := ⟨w.heap.size, 0, none⟩) (by simp)).trans (by simp [go_sem])
      have c1 : w1.cell? ⟨w.heap.size, 1, none⟩ = some (.int .i64 0) := (hb1.cell (p := ⟨w.heap.size, 1, none⟩) (by simp)).trans (by simp [go_sem])
      have c2 : w1.cell? ⟨w.heap.size, 2, none⟩ = some (.int .u64 0) := (hb1.cell (p := ⟨w.heap.size, 2, none⟩) (by simp)).trans (by simp [go_sem])
      have f0 : w1.frozen? ⟨w.heap.size, 0, none⟩ = false := (hb1.frozen (p := ⟨w.heap.size, 0, none⟩) (by simp)).trans (by simp [go_sem])
      have f1 : w1.frozen? ⟨w.heap.size, 1, none⟩ = false := (hb1.frozen (p := ⟨w.heap.size, 1, none⟩) (by simp)).trans (by simp [go_sem])
      have f2 : w1.frozen? ⟨w.heap.size, 2, none⟩ = false := (hb1.frozen (p := ⟨w.heap.size, 2, none⟩) (by simp)).trans (by simp [go_sem])
      have HB := Lib.hid (under (below_alloc w _) hb1)
      clear hb1
      go_wp2_with fail
      obtain ⟨d0, d1, d2⟩ := set3 (W := w1) (B := w.heap.size) (u0 := .bool sb) (u1 := .int .i64 ((n : Int) - s + 1075)) (u2 := .int .u64 ((m : Int) - 4503599627370496)) c0 c1 c2
      refine bodyPost_ret (v := .tuple #[partsV sb ((n : Int) - s + 1075) ((m : Int) - 4503599627370496), .bool ex]) (by simp [results, Try.results25, go_sem, d0, d1, d2]) rfl ?_
      exact ⟨rfl, ((HB.out.setCell (p := ⟨w.heap.size, 0, none⟩) (by simp) _).setCell (p := ⟨w.heap.size, 1, none⟩) (by simp) _).setCell (p := ⟨w.heap.size, 2, none⟩) (by simp) _⟩
/-- The parts of the float that is nearest to a whole number that is not 0. -/
theorem parts_some (v s : Int) (hv : v ≠ 0) (h : v.natAbs ≤ 2305843009213693952) (hs : Scale s) (w : World) :
    Calls Try.prog 25 #[.int .i64 v, .int .i64 s] w (Ret w (.tuple #[partsV (decide (v < 0)) (FE v.natAbs s) ((FM v.natAbs : Int) - 4503599627370496), .bool (decide (keep v.natAbs = v.natAbs))])) := by
  have hx : v.natAbs ≠ 0 := by omega
  obtain ⟨r1, r2⟩ := surp_range hx h
  obtain ⟨m1, m2⟩ := mant_range hx h
  refine parts_walk v _ v.natAbs (Lib.bitLen v.natAbs) (mant v.natAbs) s (surp v.natAbs) _ _ _ hv rfl (far_of v) (by omega) (by omega) hs.1 hs.2 (len_any _ (by omega)) (by unfold surp; rfl) r1 r2
    (fun W p hp => hp ▸ mant_any _ hx h W) m1 m2 (keep_asked _) ?_ ?_ w
  · unfold FE FS; rfl
  · unfold FM
    split
    · rfl
    · rfl
set_option maxRecDepth 100000 in
set_option maxHeartbeats 1000000 in
theorem float_walk (sb : Bool) (e f y z r : Int) (h1 : 0 ≤ e) (h2 : e ≤ 2047) (e1 : IntKind.u64.wrap (e * 4503599627370496) = y) (e2 : bits .or .u64 y f = z) (e3 : bits .or .u64 z 9223372036854775808 = r) (hr : 0 ≤ r) (hz : 0 ≤ z) (w : World) :
    Calls Try.prog 26 #[partsV sb e f] w (Ret w (fl (if sb then r else z).toNat)) := by
  obtain ⟨R, rfl⟩ := Int.eq_ofNat_of_zero_le hr
  obtain ⟨Z, rfl⟩ := Int.eq_ofNat_of_zero_le hz
  have q1 := Lib.hid (frombits_run R)
  have q2 := Lib.hid (frombits_run Z)
  clear hr hz
  cases sb
  · simp only [Bool.false_eq_true, if_false, Int.toNat_natCast]
    go_enter Try.func26, Try.ntmps26
    go_wp2_with (simp only [q2.out])
    go_ret
    exact ⟨rfl, below_alloc w _⟩
  · simp only [if_true, Int.toNat_natCast]
    go_enter Try.func26, Try.ntmps26
    go_wp2_with (simp only [q1.out])
    go_ret
    exact ⟨rfl, below_alloc w _⟩
end Go.Proofs.Ytinppckjolkhpaa
