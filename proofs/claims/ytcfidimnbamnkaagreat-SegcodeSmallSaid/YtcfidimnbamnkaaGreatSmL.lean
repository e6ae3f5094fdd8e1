/-
 SegcodeSmall: a segment has few bytes: of any segment. Conditions: those written at each fact.
-/
import Derived.Test.YtcfidimnbamnkaaGreatWkA
import Derived.Test.YtcfidimnbamnkaaGreatOwA
namespace Go.Proofs.YtcfidimnbamnkaaGreat.P12
open Go.RowKit Go.Shelf Go.Proofs.YtcfidimnbamnkaaGreat.P2 Go.Proofs.YtcfidimnbamnkaaGreat.P7 Go.Proofs.YtcfidimnbamnkaaGreat.P11

theorem u_le (k : Nat) {z : Int} (h : z.toNat < 128 ^ (k + 1)) : (uBytes z).length ≤ k + 1 := (digs_len k z.toNat h).2
theorem s_le (k : Nat) {z : Int} (h : Lib.zigzag z < 128 ^ (k + 1)) : (sBytes z).length ≤ k + 1 := (digs_len k _ h).2
theorem encR_small : ∀ (l : List Rn) (a : Int), Goes a l → (encR a l).length ≤ 16 * l.length
 | [], _, _ => by simp [encR]
 | r :: l, a, h => by
  obtain ⟨hr, ha, haf, h1, hg⟩ := h
  have ih := encR_small l (lastN r) hg
  have b1 := u_le 6 (z := r.f - a) (by have := hr.2.2.2.2.2.2; have := hr.2.2.2.2.2.1; omega)
  have b2 := u_le 1 (z := r.c) (by have := hr.1; have := hr.2.1; omega)
  have b3 := u_le 6 (z := r.s) (by have := hr.2.2.2.1; have := hr.2.2.2.2.1; omega)
  rw [encR]
  split
  ·simp only [List.length_append, List.length_nil, List.length_cons]; omega
  ·simp only [List.length_append, List.length_cons]; omega
theorem flat_small : ∀ (l : List Int), (∀ z ∈ l, sOk z) → (l.flatMap sBytes).length ≤ 10 * l.length
 | [], _ => by simp
 | z :: l, h => by
  have ih := flat_small l (fun x hx => h x (List.mem_cons_of_mem _ hx))
  have b := (sBytes_len (h z (List.mem_cons_self ..))).2
  simp only [List.flatMap_cons, List.length_append, List.length_cons]
  omega
theorem seg_small {s : Sg} (h : segB s = true) : 0 < (segBytes s).length ∧ ((segBytes s).length : Int) ≤ 9 + 16 * (s.R.length : Int) + 10 * (s.V.length : Int) + (if s.k = 4 then 0 else 33) := by
 obtain ⟨h1, h2, h3, h4, h5⟩ := (segB_iff s).1 h
 obtain ⟨_, _, _, f4⟩ := P7.okB_facts h1
 have eR := encR_small s.R 0 (goes_ok h1)
 have eE := u_le 5 (z := s.e) (by omega)
 have eL := u_le 1 (z := (s.R.length : Int)) (by omega)
 have p1 : 1 ≤ (uBytes s.k).length ∧ (uBytes s.k).length ≤ 1 := by
  have hk : 0 ≤ s.k ∧ s.k ≤ 4 := by
   rcases segB_kind h with ⟨g, _⟩ | ⟨g, _⟩ <;> omega
  exact digs_len 0 s.k.toNat (by omega)
 have er : ((restBytes s).length : Int) ≤ 10 * (s.V.length : Int) + (if s.k = 4 then 0 else 33) := by
  unfold restBytes
  rcases segB_kind h with ⟨g, _, hv⟩ | ⟨g, g4, hl, _⟩
  ·have hd := flat_small (diffs 0 s.V) (diffs_ok s.V 0 (by unfold Near61; omega) (fun v hv' => by
    have := h5 v (by rw [hv]; exact hv')
    simp only [backB, Bool.and_eq_true, decide_eq_true_eq] at this
    exact this))
   rw [diffs_len] at hd
   rw [g, if_neg (by decide), if_neg (by decide), if_neg (by decide), if_pos rfl]
   omega
  ·obtain ⟨_, hb, _⟩ := (lineOk_iff s).1 hl
   obtain ⟨b1, _, b2, b3, b4⟩ := (lineB_iff _ _ _ _).1 hb
   simp only [slopeB, backB, Bool.and_eq_true, decide_eq_true_eq] at b1 b2
   have q1 := s_le 8 (z := s.a) (by unfold Lib.zigzag; split <;> omega)
   have q2 := s_le 9 (z := s.n) (by unfold Lib.zigzag; split <;> omega)
   have q3 := u_le 6 (z := s.d) (by omega)
   have q4 := u_le 6 (z := s.r) (by omega)
   rw [if_neg g4]
   rcases g with g | g | g <;> rw [g] <;> simp only [List.length_append, show (1 : Int) = 2 ↔ False by decide, show (2 : Int) = 1 ↔ False by decide, show (3 : Int) = 1 ↔ False by decide, show (3 : Int) = 2 ↔ False by decide, if_true, if_false] <;> omega
 have e0 : (segBytes s).length = (uBytes s.k).length + ((uBytes s.e).length + (uBytes s.R.length).length) + (encR 0 s.R).length + (restBytes s).length := by
  unfold segBytes; simp only [List.length_append]
 rw [e0]
 generalize (if s.k = 4 then (0 : Int) else 33) = q at *
 omega
set_option maxRecDepth 100000 in
set_option maxHeartbeats 8000000 in
theorem small_any (s : Sg) (hR : s.R.length ≤ 9223372036854775807) (hV : s.V.length ≤ 9223372036854775807) (v u : Value) (w : World) (h : ReadsR w v s.R) (hu : Reads .i64 w u s.V) :
  Calls Tryz.prog 13 #[sgV s.k v s.a s.r s.n s.d u s.e] w (Ret w (.bool true)) := by
 have WK := Lib.hid (fun W => wakes12_any W)
 have OW := Lib.hid (fun W (hb : Below w.heap.size w W) => own12_any s hR hV v u W (h.below hb) (hu.below hb))
 have c1 : (cutS s).R.length ≤ 257 := by simp [cutS]; omega
 have c2 : (cutS s).V.length ≤ 257 := by simp [cutS]; omega
 have SZ := Lib.hid (fun v u W hv hu => size_any (cutS s) (by omega) (by omega) v u W hv hu)
 have EN := Lib.hid (fun v u W hv hu => encode_any (cutS s) (by omega) (by omega) v u W hv hu)
 have CK := Lib.hid (fun v u W hv hu => P11.check_any (cutS s) (by omega) (by omega) v u W hv hu)
 have SM := Lib.hid (fun hs => seg_small (s := cutS s) hs)
 have hlb : laidB (cutS s) = if segB (cutS s) then segBytes (cutS s) else [] := rfl
 have hle : layE (cutS s) = if segB (cutS s) then 0 else 210 := rfl
 unfold Own12 at OW
 unfold SizeS at SZ
 unfold EncS at EN
 generalize cutS s = t at *
 obtain ⟨k, R, a, r, n, d, V, e⟩ := t
 obtain ⟨k0, R0, a0, r0, n0, d0, V0, e0⟩ := s
 obtain ⟨Av, cv, rfl, _, _⟩ := id h
 obtain ⟨Au, cu, rfl, _, _⟩ := id hu
 simp only at *
 clear h hu hR hV
 generalize hLB : laidB ⟨k, R, a, r, n, d, V, e⟩ = LB at *
 generalize hLE : layE ⟨k, R, a, r, n, d, V, e⟩ = LE at *
 generalize hsb : segB ⟨k, R, a, r, n, d, V, e⟩ = sb at *
 generalize hSB : segBytes ⟨k, R, a, r, n, d, V, e⟩ = SB at *
 clear hLB hLE hsb hSB
 replace hlb := Lib.hid hlb
 replace hle := Lib.hid hle
 go_enter Tryz.func13, Tryz.ntmps13
 go_wp2_with fail
 refine (WK.out _).mono ?_
 rintro e1 w1 ⟨rfl, hb1⟩
 have K1 := (new_seg (Below.refl _ w) 27 k0 (.slice Av R0.length cv) a0 r0 n0 d0 (.slice Au V0.length cu) e0).next hb1
 clear hb1
 obtain ⟨⟨kz0,kc0,kf0⟩,⟨kz1,kc1,kf1⟩,⟨kz2,kc2,kf2⟩,⟨kz3,kc3,kf3⟩,⟨kz4,kc4,kf4⟩,⟨kz5,kc5,kf5⟩,⟨kz6,kc6,kf6⟩,⟨kz7,kc7,kf7⟩,_⟩ := id K1.2
 go_wp2_with fail
 refine (OW.out _ K1.1).mono ?_
 rintro e1 w2 ⟨A, n1, c, A', n2, c', rfl, hb2, hO, hV⟩
 have rR := readR_own hO
 have rV := reads_own (k := .i64) hV
 have K2 := new_seg (under K1.1 hb2) 27 k (.slice A n1 c) a r n d (.slice A' n2 c') e
 replace rR := rR.below (below_alloc w2 (sgO 27 k (.slice A n1 c) a r n d (.slice A' n2 c') e))
 replace rV := rV.below (below_alloc w2 (sgO 27 k (.slice A n1 c) a r n d (.slice A' n2 c') e))
 clear K1 hb2 hO hV OW WK kz0 kc0 kf0 kz1 kc1 kf1 kz2 kc2 kf2 kz3 kc3 kf3 kz4 kc4 kf4 kz5 kc5 kf5 kz6 kc6 kf6 kz7 kc7 kf7
 go_upto_region 4 with (fail)
 generalize w2.alloc (sgO 27 k (.slice A n1 c) a r n d (.slice A' n2 c') e) = w3 at *
 generalize w2.heap.size = b2 at *
 obtain ⟨⟨kz0,kc0,kf0⟩,⟨kz1,kc1,kf1⟩,⟨kz2,kc2,kf2⟩,⟨kz3,kc3,kf3⟩,⟨kz4,kc4,kf4⟩,⟨kz5,kc5,kf5⟩,⟨kz6,kc6,kf6⟩,⟨kz7,kc7,kf7⟩,_⟩ := id K2.2
 have S1 := SZ.out _ _ w3 rR rV
 go_wp2_with fail
 refine S1.mono ?_
 rintro e1 w4 ⟨rfl, hb4⟩
 replace K2 := K2.next hb4
 replace rR := rR.below hb4
 replace rV := rV.below hb4
 clear kz0 kc0 kf0 kz1 kc1 kf1 kz2 kc2 kf2 kz3 kc3 kf3 kz4 kc4 kf4 kz5 kc5 kf5 kz6 kc6 kf6 kz7 kc7 kf7 hb4 S1 SZ
 obtain ⟨⟨kz0,kc0,kf0⟩,⟨kz1,kc1,kf1⟩,⟨kz2,kc2,kf2⟩,⟨kz3,kc3,kf3⟩,⟨kz4,kc4,kf4⟩,⟨kz5,kc5,kf5⟩,⟨kz6,kc6,kf6⟩,⟨kz7,kc7,kf7⟩,_⟩ := id K2.2
 have E1 := EN.out _ _ w4 rR rV
 go_wp2_with fail
 refine E1.mono ?_
 rintro e1 w5 ⟨bv, rfl, hb5, ho5⟩
 obtain ⟨Ab, cb, rfl, _, _⟩ := reads_own (k := .u8) ho5
 replace K2 := K2.next hb5
 replace rR := rR.below hb5
 replace rV := rV.below hb5
 clear kz0 kc0 kf0 kz1 kc1 kf1 kz2 kc2 kf2 kz3 kc3 kf3 kz4 kc4 kf4 kz5 kc5 kf5 kz6 kc6 kf6 kz7 kc7 kf7 hb5 E1 EN ho5
 obtain ⟨⟨kz0,kc0,kf0⟩,⟨kz1,kc1,kf1⟩,⟨kz2,kc2,kf2⟩,⟨kz3,kc3,kf3⟩,⟨kz4,kc4,kf4⟩,⟨kz5,kc5,kf5⟩,⟨kz6,kc6,kf6⟩,⟨kz7,kc7,kf7⟩,_⟩ := id K2.2
 replace hlb := hlb.out
 replace hle := hle.out
 cases sb
 ·simp only [Bool.false_eq_true, if_false] at hlb hle CK
  subst hle
  subst hlb
  have C1 := CK.out _ _ w5 rR rV
  go_wp2_with fail
  refine C1.mono ?_
  rintro e1 w6 ⟨rfl, hb6⟩
  go_wp2_with fail
  go_returns
  exact ⟨rfl, (K2.next hb6).1⟩
 ·simp only [if_true] at hlb hle
  subst hle
  subst hlb
  obtain ⟨q1, q2⟩ := SM.out rfl
  obtain ⟨_, _, e1, _⟩ := id rR
  cases e1
  obtain ⟨_, _, e1, _⟩ := id rV
  cases e1
  by_cases g4 : k = 4
  ·subst g4
   simp only [if_true] at q2
   have x1 : wrap64 (16 * (R.length : Int)) = 16 * (R.length : Int) := i64_keeps (by omega) (by omega)
   have x2 : wrap64 (10 * (V.length : Int)) = 10 * (V.length : Int) := i64_keeps (by omega) (by omega)
   have x3 : wrap64 (9 + 16 * (R.length : Int)) = 9 + 16 * (R.length : Int) := i64_keeps (by omega) (by omega)
   have x4 : wrap64 (9 + 16 * (R.length : Int) + 10 * (V.length : Int)) = 9 + 16 * (R.length : Int) + 10 * (V.length : Int) := i64_keeps (by omega) (by omega)
   have x5 : (0 : Int) < (LB.length : Int) := by omega
   have x6 : (LB.length : Int) ≤ 9 + 16 * (R.length : Int) + 10 * (V.length : Int) := by omega
   clear q1 q2
   go_wp2_with fail
   go_returns
   exact ⟨rfl, K2.1⟩
  ·rw [if_neg g4] at q2
   have t4 : (k == 4) = false := by simpa using g4
   have x1 : wrap64 (16 * (R.length : Int)) = 16 * (R.length : Int) := i64_keeps (by omega) (by omega)
   have x2 : wrap64 (10 * (V.length : Int)) = 10 * (V.length : Int) := i64_keeps (by omega) (by omega)
   have x3 : wrap64 (9 + 16 * (R.length : Int)) = 9 + 16 * (R.length : Int) := i64_keeps (by omega) (by omega)
   have x4 : wrap64 (9 + 16 * (R.length : Int) + 10 * (V.length : Int)) = 9 + 16 * (R.length : Int) + 10 * (V.length : Int) := i64_keeps (by omega) (by omega)
   have x5 : wrap64 (9 + 16 * (R.length : Int) + 10 * (V.length : Int) + 33) = 9 + 16 * (R.length : Int) + 10 * (V.length : Int) + 33 := i64_keeps (by omega) (by omega)
   have x6 : (0 : Int) < (LB.length : Int) := by omega
   have x7 : (LB.length : Int) ≤ 9 + 16 * (R.length : Int) + 10 * (V.length : Int) + 33 := q2
   clear q1 q2
   go_wp2_with fail
   go_returns
   exact ⟨rfl, K2.1⟩
end Go.Proofs.YtcfidimnbamnkaaGreat.P12
