/-
 Layer 5: the greatest common divisor, slopes in lowest terms, which slopes may be. Conditions: those written at each fact.
-/
import Derived.Test.YtcfidimnbamnkaaGreatKitW
import Derived.Maps.RangeWalk
import Derived.Test.YtcfidimnbamnkaaGreatChecked
import Derived.Test.YtcfidimnbamnkaaGreatNum
import Derived.Test.YtcfidimnbamnkaaGreatKitX
import Derived.StillTactics
import Derived.WalkMore
import Derived.ScopeJumps
import Derived.Test.YtcfidimnbamnkaaGreatSB
import Derived.Test.YtcfidimnbamnkaaGreatKitY
namespace Go.Proofs.YtcfidimnbamnkaaGreat
open Go.RowKit

theorem tmod_gcd {p q : Int} (hp : 0 ≤ p) (hq : 0 < q) : Int.gcd q (p.tmod q) = Int.gcd p q ∧ 0 ≤ p.tmod q ∧ p.tmod q < q := by
 rw [Int.tmod_eq_emod_of_nonneg hp]
 refine ⟨?_, Int.emod_nonneg _ (by omega), Int.emod_lt_of_pos _ hq⟩
 obtain ⟨P, rfl⟩ := Int.eq_ofNat_of_zero_le hp
 obtain ⟨Q, rfl⟩ := Int.eq_ofNat_of_zero_le (Int.le_of_lt hq)
 rw [Int.gcd_comm, ← Int.natCast_emod]
 show Nat.gcd (P % Q) Q = Nat.gcd P Q
 rw [← Nat.gcd_rec, Nat.gcd_comm]
theorem gcd_nought {p : Int} (hp : 0 ≤ p) : ((Int.gcd p 0 : Nat) : Int) = p := by
 rw [Int.gcd_zero]; omega
theorem below_on {w w1 w2 : World} (h : Below w.heap.size w w1) (k : Below w1.heap.size w1 w2) : Below w.heap.size w w2 := under h k
def intOf' : Value → Int | .int _ q => q | _ => 0
set_option maxRecDepth 100000 in
theorem divisor_any (x y : Int) (hx : 0 ≤ x) (hx1 : x ≤ 9223372036854775807) (hy : 0 ≤ y) (hy1 : y ≤ 9223372036854775807) (w : World) :
  Calls Tryz.prog 197 #[.int .i64 x, .int .i64 y] w (Ret w (.int .i64 (Int.gcd x y))) := by
 go_enter Tryz.func197, Tryz.ntmps197
 go_wp2
 refine wp_scope_jumps 0 (fun a' w' => Below w.heap.size w w' ∧ ∃ (p q : Int) (u5 u6 u7 u8 u9 u10 : Value), a' = { tmps := #[.int .i64 p, .int .i64 q, undef, undef, .int .i64 0, u5, u6, u7, u8, u9, u10, undef], defers := [] } ∧ Int.gcd p q = Int.gcd x y ∧ 0 ≤ p ∧ p ≤ 9223372036854775807 ∧ 0 ≤ q ∧ q ≤ 9223372036854775807) (fun a' _ => (intOf' (a'.tmps.getD 1 undef)).toNat) rfl ?_ ?_
 ·go_wp2
  go_step3
  by_cases g : 0 < y
  ·have g0 : ¬ y = 0 := by omega
   obtain ⟨e1, e2, e3⟩ := tmod_gcd hx g
   go_wp2_with fail
   refine region_keeps (w0 := w) (L := []) (by kernel_rfl) (by first | exact hHeld | (refine ⟨by go_grown, ?_⟩; simp [Cells, go_sem]; done)) (fun hHeld0 => ?_)
   refine tv 0 7 rfl rfl ?_
   try go_frame
   refine tv 1 8 rfl rfl ?_
   try go_frame
   refine tv 2 9 rfl rfl ?_
   try go_frame
   refine tv 3 10 rfl rfl ?_
   try go_frame
   refine tv 4 0 rfl rfl ?_
   try go_frame
   refine tv 5 1 rfl rfl ?_
   try go_frame
   refine wpAnyH_done (by kernel_rfl) ?_ _
   have hHeld := hHeld0
   all_goals
    go_wp2
    go_step3
    exact ⟨rfl, hHeld.1, _, _, _, _, _, _, _, _, rfl, e1, hy, hy1, e2, by omega⟩
  ·have g0 : y = 0 := by omega
   subst g0
   go_wp2
   simp only [Exit.jump]
   go_ret
   exact ⟨(congrArg (fun z => Ending.returned (.int .i64 z)) (show x = ((x.natAbs : Nat) : Int) by omega)), Below.refl _ _⟩
 ·rintro a' w' ⟨hb, p, q, u5, u6, u7, u8, u9, u10, rfl, hg, hp, hp1, hq, hq1⟩
  by_cases g : 0 < q
  ·have g0 : ¬ q = 0 := by omega
   obtain ⟨e1, e2, e3⟩ := tmod_gcd hp g
   go_wp2_with fail
   refine region_keeps (w0 := w') (L := []) (by kernel_rfl) (by first | exact hHeld | (refine ⟨by go_grown, ?_⟩; simp [Cells, go_sem]; done)) (fun hHeld0 => ?_)
   refine tv 0 7 rfl rfl ?_
   try go_frame
   refine tv 1 8 rfl rfl ?_
   try go_frame
   refine tv 2 9 rfl rfl ?_
   try go_frame
   refine tv 3 10 rfl rfl ?_
   try go_frame
   refine tv 4 0 rfl rfl ?_
   try go_frame
   refine tv 5 1 rfl rfl ?_
   try go_frame
   refine wpAnyH_done (by kernel_rfl) ?_ _
   have hHeld := hHeld0
   all_goals
    go_wp2
    go_step3
    exact ⟨rfl, ⟨below_on hb hHeld.1, _, _, _, _, _, _, _, _, rfl, by rw [e1, hg], hq, hq1, e2, by omega⟩, by simp [intOf']; omega⟩
  ·have g0 : q = 0 := by omega
   subst g0
   go_wp2
   simp only [Exit.jump]
   go_ret
   rw [← hg]
   exact ⟨(congrArg (fun z => Ending.returned (.int .i64 z)) (gcd_nought hp).symm), hb⟩
def slopeB (n d : Int) : Bool := decide (-4611688217450643456 ≤ n) && decide (n ≤ 4611688217450643456) && decide (1 ≤ d) && decide (d ≤ 281474976710656)
theorem slopeB_iff (n d : Int) : slopeB n d = true ↔ -4611688217450643456 ≤ n ∧ n ≤ 4611688217450643456 ∧ 1 ≤ d ∧ d ≤ 281474976710656 := by
 unfold slopeB; simp only [Bool.and_eq_true, decide_eq_true_eq]; omega
def gcdI (n d : Int) : Int := (Int.gcd n d : Nat)
def lowN (n d : Int) : Int := n / gcdI n d
def lowD (n d : Int) : Int := d / gcdI n d
abbrev slV (n d : Int) : Value := .agg #[.int .i64 n, .int .i64 d]
theorem gcdI_pos {n d : Int} (h : 1 ≤ d) : 1 ≤ gcdI n d := by
 unfold gcdI
 have : 0 < Int.gcd n d := Int.gcd_pos_of_ne_zero_right n (by omega)
 omega
theorem low_mul (n d : Int) : lowN n d * gcdI n d = n ∧ lowD n d * gcdI n d = d := by
 unfold lowN lowD gcdI
 exact ⟨Int.ediv_mul_cancel (Int.gcd_dvd_left ..), Int.ediv_mul_cancel (Int.gcd_dvd_right ..)⟩
theorem tdiv_of_mul {a g q : Int} (hg : 1 ≤ g) (h : q * g = a) : a.tdiv g = q := by
 rw [← h, Int.mul_tdiv_cancel _ (by omega)]
theorem abs_le_mul {q g a : Int} (hg : 1 ≤ g) (h : q * g = a) (hi : Int) (hh : -hi ≤ a ∧ a ≤ hi) : -hi ≤ q ∧ q ≤ hi := by
 have e : (a / g) = q := by rw [← h, Int.mul_ediv_cancel _ (by omega)]
 constructor
 ·by_cases h0 : 0 ≤ q
  ·omega
  ·have : q * g ≤ q * 1 := Int.mul_le_mul_of_nonpos_left (by omega) hg
   omega
 ·by_cases h0 : 0 ≤ q
  ·have : q * 1 ≤ q * g := Int.mul_le_mul_of_nonneg_left hg h0
   omega
  ·omega
theorem low_bounds {n d : Int} (h : slopeB n d = true) : slopeB (lowN n d) (lowD n d) = true := by
 rw [slopeB_iff] at *
 obtain ⟨h1, h2, h3, h4⟩ := h
 obtain ⟨e1, e2⟩ := low_mul n d
 have g1 := gcdI_pos (n := n) h3
 have b1 := abs_le_mul g1 e1 4611688217450643456 ⟨h1, h2⟩
 have b2 := abs_le_mul g1 e2 281474976710656 ⟨by omega, h4⟩
 have b3 : 1 ≤ lowD n d := by
  by_cases h0 : 1 ≤ lowD n d
  ·exact h0
  ·have : lowD n d * gcdI n d ≤ 0 := Int.mul_nonpos_of_nonpos_of_nonneg (by omega) (by omega)
   omega
 omega
attribute [irreducible] slopeB gcdI lowN lowD
end Go.Proofs.YtcfidimnbamnkaaGreat

/-
 Layer 5: slopes: which may be, their lowest terms; times, and values that may be told. Conditions: those written at each fact.
-/
namespace Go.Proofs.YtcfidimnbamnkaaGreat
open Go.RowKit

def timeB (t : Int) : Bool := decide (0 ≤ t) && decide (t ≤ 281474976710656)
def backB (v : Int) : Bool := decide (-2305844108725321728 ≤ v) && decide (v ≤ 2305844108725321728)
theorem timeB_iff (t : Int) : timeB t = true ↔ 0 ≤ t ∧ t ≤ 281474976710656 := by unfold timeB; simp
theorem backB_iff (v : Int) : backB v = true ↔ -2305844108725321728 ≤ v ∧ v ≤ 2305844108725321728 := by unfold backB; simp
theorem isTime_any (t : Int) (w : World) : Calls Tryz.prog 220 #[.int .i64 t] w (Ret w (.bool (timeB t))) := by
 unfold timeB
 cases g : decide (0 ≤ t)
 ·go_enter Tryz.func220, Tryz.ntmps220
  go_wp2
  go_ret
  exact ⟨rfl, by go_grown⟩
 ·go_enter Tryz.func220, Tryz.ntmps220
  go_wp2
  go_ret
  exact ⟨rfl, by go_grown⟩
theorem isBack_any (v : Int) (w : World) : Calls Tryz.prog 169 #[.int .i64 v] w (Ret w (.bool (backB v))) := by
 unfold backB
 cases g : decide (-2305844108725321728 ≤ v)
 ·go_enter Tryz.func169, Tryz.ntmps169
  go_wp2
  go_ret
  exact ⟨rfl, by go_grown⟩
 ·go_enter Tryz.func169, Tryz.ntmps169
  go_wp2
  go_ret
  exact ⟨rfl, by go_grown⟩
set_option maxRecDepth 100000 in
set_option maxHeartbeats 2000000 in
theorem lowest_any (n d : Int) (h : slopeB n d = true) (w : World) : Calls Tryz.prog 168 #[slV n d] w (Ret w (slV (lowN n d) (lowD n d))) := by
 obtain ⟨h1, h2, h3, h4⟩ := (slopeB_iff n d).1 h
 have hb := (slopeB_iff _ _).1 (low_bounds h)
 obtain ⟨e1, e2⟩ := low_mul n d
 have gp := gcdI_pos (n := n) h3
 have q1 := tdiv_of_mul gp e1
 have q2 := tdiv_of_mul gp e2
 have eg : ∀ x : Int, x = ((n.natAbs : Nat) : Int) → ((Int.gcd d x : Nat) : Int) = gcdI n d := by
  intro x hx
  unfold gcdI
  rw [hx, Int.gcd_comm]
  rfl
 have DV : ∀ x, x = ((n.natAbs : Nat) : Int) → ∀ W, Calls Tryz.prog 197 #[.int .i64 d, .int .i64 x] W (Ret W (.int .i64 (gcdI n d))) := by
  intro x hx W
  rw [← eg x hx]
  exact divisor_any d x (by omega) (by omega) (by omega) (by omega) W
 generalize gcdI n d = g at *
 generalize lowN n d = a at *
 generalize lowD n d = b at *
 have z1 : IntKind.i64.wrap (n.tdiv g) = a := by rw [q1, IntKind.wrap_i64]; omega
 have z2 : IntKind.i64.wrap (d.tdiv g) = b := by rw [q2, IntKind.wrap_i64]; omega
 have g0 : ¬ g = 0 := by omega
 clear q1 q2 eg h e1 e2 hb
 rcases Int.lt_trichotomy n (-n) with c | c | c
 ·replace DV := Lib.hid (DV (-n) (by omega))
  go_enter Tryz.func168, Tryz.ntmps168
  go_wp2_with fail
  refine (DV.out _).mono ?_
  rintro e w1 ⟨rfl, hb⟩
  have hHeld : Keeps w [(w.heap.size, 0, .int .i64 n), (w.heap.size, 1, .int .i64 d), (w.heap.size + 1, 0, .int .i64 0), (w.heap.size + 1, 1, .int .i64 0)] _ := Keeps.next (by refine ⟨by go_grown, ?_⟩; simp [Cells, go_sem]) hb
  clear hb
  obtain ⟨⟨kz0,kc0,kf0⟩,⟨kz1,kc1,kf1⟩,⟨kz2,kc2,kf2⟩,⟨kz3,kc3,kf3⟩,_⟩ := hHeld.2
  go_wp2_with fail
  refine region_keepsB (w0 := w) (L := [(w.heap.size, 0, .int .i64 n), (w.heap.size, 1, .int .i64 d)]) (M := [(w.heap.size + 1, 0, .int .i64 0), (w.heap.size + 1, 1, .int .i64 0)]) (by kernel_rfl) ⟨hHeld.1, ⟨kz0, kc0, kf0⟩, ⟨kz1, kc1, kf1⟩, trivial⟩ ⟨hHeld.1, ⟨kz2, kc2, kf2⟩, ⟨kz3, kc3, kf3⟩, trivial⟩ (fun hHeld0 hT0 => ?_)
  refine tv 0 13 rfl rfl ?_
  try go_frame
  refine tk 1 14 rfl rfl ?_ ?_ ?_
  rotate_left
  ·intro wq hSw; obtain ⟨⟨qz0, qc0, qf0⟩, ⟨qz1, qc1, qf1⟩, _⟩ := hSw.2; go_simp; (try with_reducible rfl)
  try go_frame
  refine tv 2 15 rfl rfl ?_
  try go_frame
  refine tv 3 16 rfl rfl ?_
  try go_frame
  refine tv 4 17 rfl rfl ?_
  try go_frame
  refine tk 5 18 rfl rfl ?_ ?_ ?_
  rotate_left
  ·intro wq hSw; obtain ⟨⟨qz0, qc0, qf0⟩, ⟨qz1, qc1, qf1⟩, _⟩ := hSw.2; go_simp; (try with_reducible rfl)
  try go_frame
  refine tv 6 19 rfl rfl ?_
  try go_frame
  refine tv 7 20 rfl rfl ?_
  try go_frame
  refine tv 8 21 rfl rfl ?_
  try go_frame
  refine ty [9] ?_
  refine AllReadyH.cons rfl (fun K hK => ?_) AllReadyH.nil
  obtain ⟨⟨t0z0, t0c0, t0f0⟩, ⟨t0z1, t0c1, t0f1⟩, _⟩ := hT0.2; (try simp at t0z0); (try simp at t0c0); (try simp at t0f0); (try simp at t0z1); (try simp at t0c1); (try simp at t0f1)
  go_simp
  refine hK.out _ _ (by first | exact hHeld0.alloc _ | (repeat (first | (with_reducible exact hHeld0) | (with_reducible exact (Keeps.undrewR hHeld0)) | (refine Keeps.set ?_ (by simp <;> omega) (by simp <;> omega) _) | (with_reducible refine Keeps.drew ?_)))) (fun hHeld1 => ?_)
  clear hK K; try clear hb
  try go_frame
  refine wpAnyH_done (by kernel_rfl) ?_ _
  have hHeld := hHeld1
  obtain ⟨⟨kz0, kc0, kf0⟩, ⟨kz1, kc1, kf1⟩, _⟩ := hHeld.2
  all_goals
   obtain ⟨d0, d1⟩ := set2 (W := w1) (B := w.heap.size + 1) (u0 := .int .i64 a) (u1 := .int .i64 b) t0c0 t0c1
   rw [z1, z2] at *
   clear kz0 kc0 kf0 kz1 kc1 kf1
   go_wp2_with fail
   refine bodyPost_ret (v := slV a b) (by simp [results, Tryz.results168, go_sem, d0, d1]) rfl ?_
   exact ⟨rfl, hHeld.1⟩
 ·obtain rfl : n = 0 := by omega
  replace DV := Lib.hid (DV 0 (by omega))
  clear h1 h2 c
  go_enter Tryz.func168, Tryz.ntmps168
  go_wp2_with fail
  refine (DV.out _).mono ?_
  rintro e w1 ⟨rfl, hb⟩
  have hHeld : Keeps w [(w.heap.size, 0, .int .i64 0), (w.heap.size, 1, .int .i64 d), (w.heap.size + 1, 0, .int .i64 0), (w.heap.size + 1, 1, .int .i64 0)] _ := Keeps.next (by refine ⟨by go_grown, ?_⟩; simp [Cells, go_sem]) hb
  clear hb
  obtain ⟨⟨kz0,kc0,kf0⟩,⟨kz1,kc1,kf1⟩,⟨kz2,kc2,kf2⟩,⟨kz3,kc3,kf3⟩,_⟩ := hHeld.2
  go_wp2_with fail
  refine region_keepsB (w0 := w) (L := [(w.heap.size, 0, .int .i64 0), (w.heap.size, 1, .int .i64 d)]) (M := [(w.heap.size + 1, 0, .int .i64 0), (w.heap.size + 1, 1, .int .i64 0)]) (by kernel_rfl) ⟨hHeld.1, ⟨kz0, kc0, kf0⟩, ⟨kz1, kc1, kf1⟩, trivial⟩ ⟨hHeld.1, ⟨kz2, kc2, kf2⟩, ⟨kz3, kc3, kf3⟩, trivial⟩ (fun hHeld0 hT0 => ?_)
  refine tv 0 13 rfl rfl ?_
  try go_frame
  refine tk 1 14 rfl rfl ?_ ?_ ?_
  rotate_left
  ·intro wq hSw; obtain ⟨⟨qz0, qc0, qf0⟩, ⟨qz1, qc1, qf1⟩, _⟩ := hSw.2; go_simp; (try with_reducible rfl)
  try go_frame
  refine tv 2 15 rfl rfl ?_
  try go_frame
  refine tv 3 16 rfl rfl ?_
  try go_frame
  refine tv 4 17 rfl rfl ?_
  try go_frame
  refine tk 5 18 rfl rfl ?_ ?_ ?_
  rotate_left
  ·intro wq hSw; obtain ⟨⟨qz0, qc0, qf0⟩, ⟨qz1, qc1, qf1⟩, _⟩ := hSw.2; go_simp; (try with_reducible rfl)
  try go_frame
  refine tv 6 19 rfl rfl ?_
  try go_frame
  refine tv 7 20 rfl rfl ?_
  try go_frame
  refine tv 8 21 rfl rfl ?_
  try go_frame
  refine ty [9] ?_
  refine AllReadyH.cons rfl (fun K hK => ?_) AllReadyH.nil
  obtain ⟨⟨t0z0, t0c0, t0f0⟩, ⟨t0z1, t0c1, t0f1⟩, _⟩ := hT0.2; (try simp at t0z0); (try simp at t0c0); (try simp at t0f0); (try simp at t0z1); (try simp at t0c1); (try simp at t0f1)
  go_simp
  refine hK.out _ _ (by first | exact hHeld0.alloc _ | (repeat (first | (with_reducible exact hHeld0) | (with_reducible exact (Keeps.undrewR hHeld0)) | (refine Keeps.set ?_ (by simp <;> omega) (by simp <;> omega) _) | (with_reducible refine Keeps.drew ?_)))) (fun hHeld1 => ?_)
  clear hK K; try clear hb
  try go_frame
  refine wpAnyH_done (by kernel_rfl) ?_ _
  have hHeld := hHeld1
  obtain ⟨⟨kz0, kc0, kf0⟩, ⟨kz1, kc1, kf1⟩, _⟩ := hHeld.2
  all_goals
   obtain ⟨d0, d1⟩ := set2 (W := w1) (B := w.heap.size + 1) (u0 := .int .i64 a) (u1 := .int .i64 b) t0c0 t0c1
   rw [Int.zero_tdiv] at z1
   rw [z1, z2] at *
   clear kz0 kc0 kf0 kz1 kc1 kf1
   go_wp2_with fail
   refine bodyPost_ret (v := slV a b) (by simp [results, Tryz.results168, go_sem, d0, d1]) rfl ?_
   exact ⟨rfl, hHeld.1⟩
 ·replace DV := Lib.hid (DV n (by omega))
  have c0 : ¬ n < -n := by omega
  go_enter Tryz.func168, Tryz.ntmps168
  go_wp2_with fail
  refine (DV.out _).mono ?_
  rintro e w1 ⟨rfl, hb⟩
  have hHeld : Keeps w [(w.heap.size, 0, .int .i64 n), (w.heap.size, 1, .int .i64 d), (w.heap.size + 1, 0, .int .i64 0), (w.heap.size + 1, 1, .int .i64 0)] _ := Keeps.next (by refine ⟨by go_grown, ?_⟩; simp [Cells, go_sem]) hb
  clear hb
  obtain ⟨⟨kz0,kc0,kf0⟩,⟨kz1,kc1,kf1⟩,⟨kz2,kc2,kf2⟩,⟨kz3,kc3,kf3⟩,_⟩ := hHeld.2
  go_wp2_with fail
  refine region_keepsB (w0 := w) (L := [(w.heap.size, 0, .int .i64 n), (w.heap.size, 1, .int .i64 d)]) (M := [(w.heap.size + 1, 0, .int .i64 0), (w.heap.size + 1, 1, .int .i64 0)]) (by kernel_rfl) ⟨hHeld.1, ⟨kz0, kc0, kf0⟩, ⟨kz1, kc1, kf1⟩, trivial⟩ ⟨hHeld.1, ⟨kz2, kc2, kf2⟩, ⟨kz3, kc3, kf3⟩, trivial⟩ (fun hHeld0 hT0 => ?_)
  refine tv 0 13 rfl rfl ?_
  try go_frame
  refine tk 1 14 rfl rfl ?_ ?_ ?_
  rotate_left
  ·intro wq hSw; obtain ⟨⟨qz0, qc0, qf0⟩, ⟨qz1, qc1, qf1⟩, _⟩ := hSw.2; go_simp; (try with_reducible rfl)
  try go_frame
  refine tv 2 15 rfl rfl ?_
  try go_frame
  refine tv 3 16 rfl rfl ?_
  try go_frame
  refine tv 4 17 rfl rfl ?_
  try go_frame
  refine tk 5 18 rfl rfl ?_ ?_ ?_
  rotate_left
  ·intro wq hSw; obtain ⟨⟨qz0, qc0, qf0⟩, ⟨qz1, qc1, qf1⟩, _⟩ := hSw.2; go_simp; (try with_reducible rfl)
  try go_frame
  refine tv 6 19 rfl rfl ?_
  try go_frame
  refine tv 7 20 rfl rfl ?_
  try go_frame
  refine tv 8 21 rfl rfl ?_
  try go_frame
  refine ty [9] ?_
  refine AllReadyH.cons rfl (fun K hK => ?_) AllReadyH.nil
  obtain ⟨⟨t0z0, t0c0, t0f0⟩, ⟨t0z1, t0c1, t0f1⟩, _⟩ := hT0.2; (try simp at t0z0); (try simp at t0c0); (try simp at t0f0); (try simp at t0z1); (try simp at t0c1); (try simp at t0f1)
  go_simp
  refine hK.out _ _ (by first | exact hHeld0.alloc _ | (repeat (first | (with_reducible exact hHeld0) | (with_reducible exact (Keeps.undrewR hHeld0)) | (refine Keeps.set ?_ (by simp <;> omega) (by simp <;> omega) _) | (with_reducible refine Keeps.drew ?_)))) (fun hHeld1 => ?_)
  clear hK K; try clear hb
  try go_frame
  refine wpAnyH_done (by kernel_rfl) ?_ _
  have hHeld := hHeld1
  obtain ⟨⟨kz0, kc0, kf0⟩, ⟨kz1, kc1, kf1⟩, _⟩ := hHeld.2
  all_goals
   obtain ⟨d0, d1⟩ := set2 (W := w1) (B := w.heap.size + 1) (u0 := .int .i64 a) (u1 := .int .i64 b) t0c0 t0c1
   rw [z1, z2] at *
   clear kz0 kc0 kf0 kz1 kc1 kf1
   go_wp2_with fail
   refine bodyPost_ret (v := slV a b) (by simp [results, Tryz.results168, go_sem, d0, d1]) rfl ?_
   exact ⟨rfl, hHeld.1⟩
def badL (l : List (Int × Int)) : Bool := l.any fun s => !slopeB s.1 s.2
theorem badL_next {s : Int × Int} {l : List (Int × Int)} {k : Nat} (h : l[k]? = some s) (h1 : badL (l.take k) = false) (h2 : slopeB s.1 s.2 = true) : badL (l.take (k + 1)) = false := by
 obtain ⟨a1, e1⟩ := List.getElem?_eq_some_iff.1 h
 unfold badL at *
 rw [List.take_succ_eq_append_getElem a1, e1, List.any_append, h1]
 simpa using h2
theorem badL_here {s : Int × Int} {l : List (Int × Int)} {k : Nat} (h : l[k]? = some s) (h2 : slopeB s.1 s.2 = false) : badL l = true := by
 obtain ⟨a1, e1⟩ := List.getElem?_eq_some_iff.1 h
 unfold badL
 rw [List.any_eq_true]
 exact ⟨s, e1 ▸ List.getElem_mem a1, by simpa using h2⟩
set_option maxRecDepth 100000 in
set_option maxHeartbeats 2000000 in
theorem checkSlopes_any (l : List (Int × Int)) (hl : l.length ≤ 10000000) (v : Value) (w : World) (h : ReadsS w v l) :
  Calls Tryz.prog 167 #[v] w (Ret w (.int .i64 (if badL l then 151 else 0))) := by
 obtain ⟨A, c, rfl, hk⟩ := h
 obtain ⟨R, hR⟩ : ∃ R : Value, R = .int .i64 (if badL l then 151 else 0) := ⟨_, rfl⟩
 rw [← hR]
 have HK := Lib.hid hk
 replace hR := Lib.hid hR
 clear hk
 go_enter Tryz.func167, Tryz.ntmps167
 go_wp2_with fail
 go_loopw [7] (fun i wr => ∃ k : Nat, i = .int .i64 k ∧ k ≤ l.length ∧ Hid (badL (l.take k) = false) ∧ Keeps w [] wr) (fun i _ => l.length - (intOf i).toNat)
 case atStart => exact ⟨0, rfl, by omega, Lib.hid (by simp [badL]), ⟨by go_grown, trivial⟩⟩
 case round =>
  obtain ⟨k, rfl, hkl, hT, hHeld⟩ := hrel
  by_cases gk : k < l.length
  ·obtain ⟨⟨x, y⟩, hx⟩ : ∃ s, l[k]? = some s := ⟨_, List.getElem?_eq_getElem gk⟩
   obtain ⟨bb, off, rfl, hbw, hc1, hc2⟩ := HK.out k _ hx
   have c1 := (hHeld.1.cell (p := ⟨bb, off + k * 2, none⟩) hbw).trans hc1
   have c2 := (hHeld.1.cell (p := ⟨bb, off + k * 2 + 1, none⟩) hbw).trans hc2
   have i1 : (k : Int) < (l.length : Int) := by omega
   have i0 : (0 : Int) ≤ (k : Int) := by omega
   have HX := Lib.hid hx
   clear hc1 hc2 hx
   simp only at c1 c2
   have HB := Lib.hid (slopeB_iff x y)
   obtain ⟨M, hM⟩ : ∃ M : Int, M = 4611688217450643456 := ⟨_, rfl⟩
   by_cases gs : slopeB x y = true
   ·have BN := Lib.hid (badL_next HX.out hT.out gs)
    obtain ⟨s1, s2, s3, s4⟩ := HB.out.1 gs
    have t1 : decide (x < -4611688217450643456) = false := by simp; omega
    have t2 : decide (4611688217450643456 < x) = false := by simp; omega
    have t3 : decide (y < 1) = false := by simp; omega
    have t4 : decide (281474976710656 < y) = false := by simp; omega
    clear s1 s2 s3 s4 gs hT hM
    go_wp2_with fail
    go_roundw
    case rel => exact ⟨k + 1, by simp, by omega, BN, hHeld.alloc _⟩
    case measure => simp [intOf]; omega
   ·have BH := Lib.hid (badL_here HX.out (by simpa using gs))
    have hor : ¬ -4611688217450643456 ≤ x ∨ -4611688217450643456 ≤ x ∧ ¬ x ≤ 4611688217450643456 ∨ -4611688217450643456 ≤ x ∧ x ≤ 4611688217450643456 ∧ ¬ 1 ≤ y ∨ -4611688217450643456 ≤ x ∧ x ≤ 4611688217450643456 ∧ 1 ≤ y ∧ ¬ y ≤ 281474976710656 := by
     have := mt HB.out.2 gs
     omega
    clear gs hT hM
    rcases hor with s1 | ⟨s1, s2⟩ | ⟨s1, s2, s3⟩ | ⟨s1, s2, s3, s4⟩
    ·have t1 : decide (x < -4611688217450643456) = true := by simp; omega
     clear s1
     go_wp2_with fail
     go_ret
     exact ⟨by rw [hR.out, BH.out]; rfl, (hHeld.alloc _).1⟩
    ·have t1 : decide (x < -4611688217450643456) = false := by simp; omega
     have t2 : decide (4611688217450643456 < x) = true := by simp; omega
     clear s1 s2
     go_wp2_with fail
     go_ret
     exact ⟨by rw [hR.out, BH.out]; rfl, (hHeld.alloc _).1⟩
    ·have t1 : decide (x < -4611688217450643456) = false := by simp; omega
     have t2 : decide (4611688217450643456 < x) = false := by simp; omega
     have t3 : decide (y < 1) = true := by simp; omega
     clear s1 s2 s3
     go_wp2_with fail
     go_ret
     exact ⟨by rw [hR.out, BH.out]; rfl, (hHeld.alloc _).1⟩
    ·have t1 : decide (x < -4611688217450643456) = false := by simp; omega
     have t2 : decide (4611688217450643456 < x) = false := by simp; omega
     have t3 : decide (y < 1) = false := by simp; omega
     have t4 : decide (281474976710656 < y) = true := by simp; omega
     clear s1 s2 s3 s4
     go_wp2_with fail
     go_ret
     exact ⟨by rw [hR.out, BH.out]; rfl, (hHeld.alloc _).1⟩
  ·have BT : badL l = false := by have := hT.out; rwa [List.take_of_length_le (by omega)] at this
   have i1 : ¬ (k : Int) < (l.length : Int) := by omega
   go_wp2_with fail
   go_ret
   exact ⟨by rw [hR.out, BT]; rfl, hHeld.1⟩
end Go.Proofs.YtcfidimnbamnkaaGreat
