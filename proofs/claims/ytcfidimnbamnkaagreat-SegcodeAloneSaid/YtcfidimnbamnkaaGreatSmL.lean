/-
 SegcodeSmall: a segment has few bytes: of any segment. Conditions: those written at each fact.
-/
import Derived.Test.YtcfidimnbamnkaaGreatWkA
import Derived.Test.YtcfidimnbamnkaaGreatOwA
namespace Go.Proofs.YtcfidimnbamnkaaGreat.P12
open Go.RowKit Go.Shelf Go.Proofs.YtcfidimnbamnkaaGreat.P2 Go.Proofs.YtcfidimnbamnkaaGreat.P7 Go.Proofs.YtcfidimnbamnkaaGreat.P11

theorem u_le (k : Nat) {z : Int} (h : z.toNat < 128 ^ (k + 1)) : (uBytes z).length ≤ k + 1 := (digs_len k z.toNat h).2
theorem s_le (k : Nat) {z : Int} (h : Lib.zigzag z < 128 ^ (k + 1)) : (sBytes z).length ≤ k + 1 := (digs_len k _ h).2
theorem encR_small : ∀ (l : List Rn) (a : Int), Goes a l → (encR a l).length ≤ 16 * l.length
 | [], _, _ => by simp [encR]
 | r :: l, a, h => by
  obtain ⟨hr, ha, haf, h1, hg⟩ := h
  have ih := encR_small l (lastN r) hg
  have b1 := u_le 6 (z := r.f - a) (by have := hr.2.2.2.2.2.2; have := hr.2.2.2.2.2.1; omega)
  have b2 := u_le 1 (z := r.c) (by have := hr.1; have := hr.2.1; omega)
  have b3 := u_le 6 (z := r.s) (by have := hr.2.2.2.1; have := hr.2.2.2.2.1; omega)
  rw [encR]
  split
  ·simp only [List.length_append, List.length_nil, List.length_cons]; omega
  ·simp only [List.length_append, List.length_cons]; omega
theorem flat_small : ∀ (l : List Int), (∀ z ∈ l, sOk z) → (l.flatMap sBytes).length ≤ 10 * l.length
 | [], _ => by simp
 | z :: l, h => by
  have ih := flat_small l (fun x hx => h x (List.mem_cons_of_mem _ hx))
  have b := (sBytes_len (h z (List.mem_cons_self ..))).2
  simp only [List.flatMap_cons, List.length_append, List.length_cons]
  omega
theorem seg_small {s : Sg} (h : segB s = true) : 0 < (segBytes s).length ∧ ((segBytes s).length : Int) ≤ 9 + 16 * (s.R.length : Int) + 10 * (s.V.length : Int) + (if s.k = 4 then 0 else 33) := by
 obtain ⟨h1, h2, h3, h4, h5⟩ := (segB_iff s).1 h
 obtain ⟨_, _, _, f4⟩ := P7.okB_facts h1
 have eR := encR_small s.R 0 (goes_ok h1)
 have eE := u_le 5 (z := s.e) (by omega)
 have eL := u_le 1 (z := (s.R.length : Int)) (by omega)
 have p1 : 1 ≤ (uBytes s.k).length ∧ (uBytes s.k).length ≤ 1 := by
  have hk : 0 ≤ s.k ∧ s.k ≤ 4 := by
   rcases segB_kind h with ⟨g, _⟩ | ⟨g, _⟩ <;> omega
  exact digs_len 0 s.k.toNat (by omega)
 have er : ((restBytes s).length : Int) ≤ 10 * (s.V.length : Int) + (if s.k = 4 then 0 else 33) := by
  unfold restBytes
  rcases segB_kind h with ⟨g, _, hv⟩ | ⟨g, g4, hl, _⟩
  ·have hd := flat_small (diffs 0 s.V) (diffs_ok s.V 0 (by unfold Near61; omega) (fun v hv' => by
    have := h5 v (by rw [hv]; exact hv')
    simp only [backB, Bool.and_eq_true, decide_eq_true_eq] at this
    exact this))
   rw [diffs_len] at hd
   rw [g, if_neg (by decide), if_neg (by decide), if_neg (by decide), if_pos rfl]
   omega
  ·obtain ⟨_, hb, _⟩ := (lineOk_iff s).1 hl
   obtain ⟨b1, _, b2, b3, b4⟩ := (lineB_iff _ _ _ _).1 hb
   simp only [slopeB, backB, Bool.and_eq_true, decide_eq_true_eq] at b1 b2
   have q1 := s_le 8 (z := s.a) (by unfold Lib.zigzag; split <;> omega)
   have q2 := s_le 9 (z := s.n) (by unfold Lib.zigzag; split <;> omega)
   have q3 := u_le 6 (z := s.d) (by omega)
   have q4 := u_le 6 (z := s.r) (by omega)
   rw [if_neg g4]
   rcases g with g | g | g <;> rw [g] <;> simp only [List.length_append, show (1 : Int) = 2 ↔ False by decide, show (2 : Int) = 1 ↔ False by decide, show (3 : Int) = 1 ↔ False by decide, show (3 : Int) = 2 ↔ False by decide, if_true, if_false] <;> omega
 have e0 : (segBytes s).length = (uBytes s.k).length + ((uBytes s.e).length + (uBytes s.R.length).length) + (encR 0 s.R).length + (restBytes s).length := by
  unfold segBytes; simp only [List.length_append]
 rw [e0]
 generalize (if s.k = 4 then (0 : Int) else 33) = q at *
 omega
end Go.Proofs.YtcfidimnbamnkaaGreat.P12
