/-
 The document's own answers for layer 5: which numbers, times and slopes may be, slopes in lowest terms, which is less, the nearest. Conditions: the numbers are of 64 bits.
-/
import Derived.Test.YtcfidimnbamnkaaGreatKitV
import Derived.Test.YtcfidimnbamnkaaGreatKitW
import Derived.Maps.RangeWalk
import Derived.Test.YtcfidimnbamnkaaGreatLC
import Derived.Test.YtcfidimnbamnkaaGreatRB
namespace Go.Proofs.YtcfidimnbamnkaaGreat
open Go.RowKit

theorem refBack_any (v : Int) (w : World) : Calls Tryz.prog 64 #[.int .i64 v] w (Ret w (.bool (backB v))) := by
 unfold backB
 cases g : decide (-2305844108725321728 ≤ v)
 ·go_enter Tryz.func64, Tryz.ntmps64
  go_wp2
  go_ret
  exact ⟨rfl, by go_grown⟩
 ·go_enter Tryz.func64, Tryz.ntmps64
  go_wp2
  go_ret
  exact ⟨rfl, by go_grown⟩
set_option maxRecDepth 100000 in
theorem refSlope_any (n d : Int) (w : World) : Calls Tryz.prog 66 #[slV n d] w (Ret w (.bool (slopeB n d))) := by
 have e : slopeB n d = (((decide (1 ≤ d) && decide (d ≤ 281474976710656)) && decide (-4611688217450643456 ≤ n)) && decide (n ≤ 4611688217450643456)) := by
  rw [Bool.eq_iff_iff, slopeB_iff]
  simp only [Bool.and_eq_true, decide_eq_true_eq]
  omega
 rw [e]
 clear e
 cases g1 : decide (1 ≤ d)
 ·go_enter Tryz.func66, Tryz.ntmps66
  go_wp2
  go_ret
  exact ⟨rfl, by go_grown⟩
 ·cases g2 : decide (d ≤ 281474976710656)
  ·go_enter Tryz.func66, Tryz.ntmps66
   go_wp2
   go_ret
   exact ⟨rfl, by go_grown⟩
  ·cases g3 : decide (-4611688217450643456 ≤ n)
   ·go_enter Tryz.func66, Tryz.ntmps66
    go_wp2
    go_ret
    exact ⟨rfl, by go_grown⟩
   ·go_enter Tryz.func66, Tryz.ntmps66
    go_wp2
    go_ret
    exact ⟨rfl, by go_grown⟩
theorem tmod_gcd2 {p q : Int} (hp : 0 ≤ p) (hq : 0 < q) : Int.gcd (p.tmod q) q = Int.gcd p q ∧ 0 ≤ p.tmod q ∧ p.tmod q < q := by
 obtain ⟨h1, h2, h3⟩ := tmod_gcd hp hq
 exact ⟨by rw [Int.gcd_comm]; exact h1, h2, h3⟩
set_option maxRecDepth 100000 in
set_option maxHeartbeats 2000000 in
theorem common_walk (x n y : Int) (hx : n < 0 ∧ x = -n ∨ 0 ≤ n ∧ x = n) (h0 : 0 ≤ x) (hx1 : x ≤ 9223372036854775807) (hy : 1 ≤ y) (hy1 : y ≤ 281474976710656) (w : World) :
  Calls Tryz.prog 121 #[.int .i64 n, .int .i64 y] w (Ret w (.int .i64 (Int.gcd x y))) := by
 obtain ⟨G, hG⟩ : ∃ G : Int, G = ((Int.gcd x y : Nat) : Int) := ⟨_, rfl⟩
 rw [← hG]
 replace hG := Lib.hid hG
 rcases hx with ⟨hn, rfl⟩ | ⟨hn, rfl⟩
 ·have t0 : decide (n < 0) = true := by simpa using hn
  go_enter Tryz.func121, Tryz.ntmps121
  go_wp2_with fail
  go_loop [0, 1] (fun s0 s1 => ∃ p q : Int, s0 = .int .i64 p ∧ s1 = .int .i64 q ∧ 0 ≤ p ∧ p ≤ 9223372036854775807 ∧ 0 ≤ q ∧ q ≤ 281474976710656 ∧ Hid (((Int.gcd p q : Nat) : Int) = G)) (fun s0 s1 => (intOf s0).toNat + (intOf s1).toNat)
  case atStart => exact ⟨_, _, rfl, rfl, by omega, by omega, by omega, hy1, Lib.hid hG.out.symm⟩
  case round =>
   obtain ⟨p, q, rfl, rfl, p0, p1, q0, q1, HD⟩ := hrel
   by_cases c1 : 0 < p
   ·have c1b : ¬ p = 0 := by omega
    by_cases c2 : 0 < q
    ·have c2b : ¬ q = 0 := by omega
     by_cases c3 : q < p
     ·obtain ⟨e1, e2, e3⟩ := tmod_gcd2 p0 c2; rw [Int.tmod_eq_emod_of_nonneg p0] at e1 e2 e3
      go_wp2_with fail
      go_round
      case rel => exact ⟨_, _, rfl, rfl, e2, by omega, q0, q1, Lib.hid (by rw [e1]; exact HD.out)⟩
      case measure => simp [intOf]; omega
     ·obtain ⟨e1, e2, e3⟩ := tmod_gcd q0 c1; rw [Int.tmod_eq_emod_of_nonneg q0] at e1 e2 e3
      go_wp2_with fail
      go_round
      case rel => exact ⟨_, _, rfl, rfl, p0, p1, e2, by omega, Lib.hid (by rw [e1, Int.gcd_comm]; exact HD.out)⟩
      case measure => simp [intOf]; omega
    ·have c2b : q = 0 := by omega
     subst c2b
     have := HD.out
     rw [gcd_nought p0] at this
     have HG := Lib.hid this
     clear this HD
     go_wp2_with fail
     go_ret
     exact ⟨by rw [← HG.out]; first | rfl | simp, Below.refl _ _⟩
   ·have c1b : p = 0 := by omega
    subst c1b
    have := HD.out
    rw [Int.gcd_comm, gcd_nought q0] at this
    have HG := Lib.hid this
    clear this HD
    go_wp2_with fail
    go_ret
    exact ⟨by rw [← HG.out]; first | rfl | simp, Below.refl _ _⟩
 ·have t0 : decide (x < 0) = false := by simp; omega
  go_enter Tryz.func121, Tryz.ntmps121
  go_wp2_with fail
  go_loop [0, 1] (fun s0 s1 => ∃ p q : Int, s0 = .int .i64 p ∧ s1 = .int .i64 q ∧ 0 ≤ p ∧ p ≤ 9223372036854775807 ∧ 0 ≤ q ∧ q ≤ 281474976710656 ∧ Hid (((Int.gcd p q : Nat) : Int) = G)) (fun s0 s1 => (intOf s0).toNat + (intOf s1).toNat)
  case atStart => exact ⟨_, _, rfl, rfl, by omega, by omega, by omega, hy1, Lib.hid hG.out.symm⟩
  case round =>
   obtain ⟨p, q, rfl, rfl, p0, p1, q0, q1, HD⟩ := hrel
   by_cases c1 : 0 < p
   ·have c1b : ¬ p = 0 := by omega
    by_cases c2 : 0 < q
    ·have c2b : ¬ q = 0 := by omega
     by_cases c3 : q < p
     ·obtain ⟨e1, e2, e3⟩ := tmod_gcd2 p0 c2; rw [Int.tmod_eq_emod_of_nonneg p0] at e1 e2 e3
      go_wp2_with fail
      go_round
      case rel => exact ⟨_, _, rfl, rfl, e2, by omega, q0, q1, Lib.hid (by rw [e1]; exact HD.out)⟩
      case measure => simp [intOf]; omega
     ·obtain ⟨e1, e2, e3⟩ := tmod_gcd q0 c1; rw [Int.tmod_eq_emod_of_nonneg q0] at e1 e2 e3
      go_wp2_with fail
      go_round
      case rel => exact ⟨_, _, rfl, rfl, p0, p1, e2, by omega, Lib.hid (by rw [e1, Int.gcd_comm]; exact HD.out)⟩
      case measure => simp [intOf]; omega
    ·have c2b : q = 0 := by omega
     subst c2b
     have := HD.out
     rw [gcd_nought p0] at this
     have HG := Lib.hid this
     clear this HD
     go_wp2_with fail
     go_ret
     exact ⟨by rw [← HG.out]; first | rfl | simp, Below.refl _ _⟩
   ·have c1b : p = 0 := by omega
    subst c1b
    have := HD.out
    rw [Int.gcd_comm, gcd_nought q0] at this
    have HG := Lib.hid this
    clear this HD
    go_wp2_with fail
    go_ret
    exact ⟨by rw [← HG.out]; first | rfl | simp, Below.refl _ _⟩
theorem common_any (n d : Int) (h : slopeB n d = true) (w : World) : Calls Tryz.prog 121 #[.int .i64 n, .int .i64 d] w (Ret w (.int .i64 (gcdI n d))) := by
 obtain ⟨h1, h2, h3, h4⟩ := (slopeB_iff n d).1 h
 unfold gcdI
 by_cases g : n < 0
 ·have := common_walk (-n) n d (Or.inl ⟨g, rfl⟩) (by omega) (by omega) h3 h4 w
  rwa [Int.neg_gcd] at this
 ·exact common_walk n n d (Or.inr ⟨by omega, rfl⟩) (by omega) (by omega) h3 h4 w
set_option maxRecDepth 100000 in
set_option maxHeartbeats 2000000 in
theorem refLowest_any (n d : Int) (h : slopeB n d = true) (w : World) : Calls Tryz.prog 67 #[slV n d] w (Ret w (slV (lowN n d) (lowD n d))) := by
 obtain ⟨h1, h2, h3, h4⟩ := (slopeB_iff n d).1 h
 have hb := (slopeB_iff _ _).1 (low_bounds h)
 obtain ⟨e1, e2⟩ := low_mul n d
 have gp := gcdI_pos (n := n) h3
 have q1 := tdiv_of_mul gp e1
 have q2 := tdiv_of_mul gp e2
 have CO := fun W => common_any n d h W
 generalize gcdI n d = g at *
 generalize lowN n d = a at *
 generalize lowD n d = b at *
 have z1 : IntKind.i64.wrap (n.tdiv g) = a := by rw [q1, IntKind.wrap_i64]; omega
 have z2 : IntKind.i64.wrap (d.tdiv g) = b := by rw [q2, IntKind.wrap_i64]; omega
 have g0 : ¬ g = 0 := by omega
 replace CO := Lib.hid CO
 clear q1 q2 h e1 e2 hb h1 h2 h3 h4 gp
 replace z1 := Lib.hid z1
 replace z2 := Lib.hid z2
 go_enter Tryz.func67, Tryz.ntmps67
 go_wp2_with fail
 refine (CO.out _).mono ?_
 rintro e w1 ⟨rfl, hb⟩
 have hHeld : Keeps w [(w.heap.size, 0, .int .i64 n), (w.heap.size, 1, .int .i64 d), (w.heap.size + 1, 0, .int .i64 0), (w.heap.size + 1, 1, .int .i64 0)] _ := Keeps.next (by refine ⟨by go_grown, ?_⟩; simp [Cells, go_sem]) hb
 clear hb
 obtain ⟨⟨kz0,kc0,kf0⟩,⟨kz1,kc1,kf1⟩,⟨kz2,kc2,kf2⟩,⟨kz3,kc3,kf3⟩,_⟩ := hHeld.2
 go_wp2_with fail
 refine region_keepsB (w0 := w) (L := [(w.heap.size, 0, .int .i64 n), (w.heap.size, 1, .int .i64 d)]) (M := [(w.heap.size + 1, 0, .int .i64 0), (w.heap.size + 1, 1, .int .i64 0)]) (by kernel_rfl) ⟨hHeld.1, ⟨kz0, kc0, kf0⟩, ⟨kz1, kc1, kf1⟩, trivial⟩ ⟨hHeld.1, ⟨kz2, kc2, kf2⟩, ⟨kz3, kc3, kf3⟩, trivial⟩ (fun hHeld0 hT0 => ?_)
 refine tv 0 9 rfl rfl ?_
 try go_frame
 refine tk 1 10 rfl rfl ?_ ?_ ?_
 rotate_left
 ·intro wq hSw; obtain ⟨⟨qz0, qc0, qf0⟩, ⟨qz1, qc1, qf1⟩, _⟩ := hSw.2; go_simp; (try with_reducible rfl)
 try go_frame
 refine tv 2 11 rfl rfl ?_
 try go_frame
 refine tv 3 12 rfl rfl ?_
 try go_frame
 refine tv 4 13 rfl rfl ?_
 try go_frame
 refine tk 5 14 rfl rfl ?_ ?_ ?_
 rotate_left
 ·intro wq hSw; obtain ⟨⟨qz0, qc0, qf0⟩, ⟨qz1, qc1, qf1⟩, _⟩ := hSw.2; go_simp; (try with_reducible rfl)
 try go_frame
 refine tv 6 15 rfl rfl ?_
 try go_frame
 refine tv 7 16 rfl rfl ?_
 try go_frame
 refine tv 8 17 rfl rfl ?_
 try go_frame
 refine tw 9 rfl fun K hK => ?_
 obtain ⟨⟨t0z0, t0c0, t0f0⟩, ⟨t0z1, t0c1, t0f1⟩, _⟩ := hT0.2; (try simp at t0z0); (try simp at t0c0); (try simp at t0f0); (try simp at t0z1); (try simp at t0c1); (try simp at t0f1)
 go_simp
 refine hK.out _ _ (by first | exact hHeld0.alloc _ | (repeat (first | (with_reducible exact hHeld0) | (with_reducible exact (Keeps.undrewR hHeld0)) | (refine Keeps.set ?_ (by simp <;> omega) (by simp <;> omega) _) | (with_reducible refine Keeps.drew ?_)))) (fun hHeld1 => ?_)
 clear hK K; try clear hb
 try go_frame
 refine wpAnyH_done (by kernel_rfl) ?_ _
 have hHeld := hHeld1
 obtain ⟨⟨kz0, kc0, kf0⟩, ⟨kz1, kc1, kf1⟩, _⟩ := hHeld.2
 all_goals
  obtain ⟨d0, d1⟩ := set2 (W := w1) (B := w.heap.size + 1) (u0 := .int .i64 a) (u1 := .int .i64 b) t0c0 t0c1
  rw [z1.out, z2.out] at *
  clear kz0 kc0 kf0 kz1 kc1 kf1
  go_wp2_with fail
  refine bodyPost_ret (v := slV a b) (by simp [results, Tryz.results67, go_sem, d0, d1]) rfl ?_
  exact ⟨rfl, hHeld.1⟩
theorem i64_len (z : Int) (h : I64 z) : (sizeL z.natAbs).length ≤ 64 := sizeL_length 64 _ (by unfold I64 at h; omega)
end Go.Proofs.YtcfidimnbamnkaaGreat
