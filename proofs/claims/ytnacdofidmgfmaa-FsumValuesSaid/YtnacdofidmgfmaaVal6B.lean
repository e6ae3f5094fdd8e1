/-
  The law FsumValues. Conditions: none.
-/
import Derived.Test.YtnacdofidmgfmaaVal6
import Derived.Test.YtnacdofidmgfmaaLowest
namespace Go.Proofs.Ytnacdofidmgfmaa
open Go.RowKit

theorem tmod_abs (x : Int) (m : Int) (hm : 1 ≤ m) : -m < x.tmod m ∧ x.tmod m < m := by
  by_cases h : 0 ≤ x
  · have h1 := Int.tmod_nonneg m h
    have h2 := Int.tmod_lt_of_pos x (show 0 < m by omega)
    omega
  · have e : (-x).tmod m = -(x.tmod m) := Int.neg_tmod ..
    have h1 := Int.tmod_nonneg m (show 0 ≤ -x by omega)
    have h2 := Int.tmod_lt_of_pos (-x) (show 0 < m by omega)
    omega
theorem line_said (a r n d f s : Int) (k : Nat) (hl : lineB a r n d = true) (hw : walkB f s k = true) (w : World) :
    Calls Try.prog 16 #[lnV a r n d, .int .i64 f, .int .i64 s, .int .i64 k] w (Ret w (.tuple #[wideV (rhi (floorS k (n * s) (exV a r n d f) d)) (rlo (floorS k (n * s) (exV a r n d f) d)), .int .i64 0])) := by
  have L := line6_any a r n d f s k w
  have e1 : lwE a r n d f s k = 0 := by unfold lwE; rw [if_pos hl, if_pos hw]
  have e2 : lwQ a r n d f s k = floorS k (n * s) (exV a r n d f) d := by unfold lwQ; rw [if_pos e1, Int.toNat_natCast]
  rw [e1, e2] at L
  exact L
theorem values6_any (a sN sD xf xs xk : Int) (w : World) : Calls Try.prog 10 #[.int .i64 a, slV sN sD, .agg #[.int .i64 xf, .int .i64 xs, .int .i64 xk]] w (Ret w (.bool true)) := by
  have ta := tmod_abs a 2305844108725321728 (by omega)
  have tn := tmod_abs sN 4611688217450643456 (by omega)
  have td0 : 1 ≤ max sD 0 % 281474976710656 + 1 := by omega
  have td1 : max sD 0 % 281474976710656 + 1 ≤ 281474976710656 := by omega
  have hD : IntKind.i64.wrap (max sD 0 % 281474976710656 + 1) = max sD 0 % 281474976710656 + 1 := by rw [IntKind.wrap_i64]; omega
  obtain ⟨al, hal⟩ : ∃ z, a.tmod 2305844108725321728 = z := ⟨_, rfl⟩
  obtain ⟨N0, hN0⟩ : ∃ z, sN.tmod 4611688217450643456 = z := ⟨_, rfl⟩
  obtain ⟨D0, hD0⟩ : ∃ z, max sD 0 % 281474976710656 + 1 = z := ⟨_, rfl⟩
  rw [hD0] at td0 td1
  replace hD : IntKind.i64.wrap (max sD 0 % 281474976710656 + 1) = D0 := by rw [hD, hD0]
  rw [hal] at ta
  rw [hN0] at tn
  have hs : slopeB N0 D0 = true := (slopeB_iff _ _).2 ⟨by omega, by omega, td0, td1⟩
  have hb : backB al = true := (backB_iff _).2 ⟨by omega, by omega⟩
  have OF := fun W => lof_any al N0 D0 al 0 (lowN N0 D0) (lowD N0 D0) 0 (Or.inr ⟨hs, Or.inr ⟨hb, rfl, rfl, rfl, rfl, rfl⟩⟩) W
  have lb := low_bounds hs
  have la := low_again hs
  have lbb := (slopeB_iff _ _).1 lb
  generalize lowN N0 D0 = ln at *
  generalize lowD N0 D0 = ld at *
  have d0 : ¬ ld = 0 := by omega
  have x0 : 0 ≤ max xf 0 := by omega
  have r0 := Int.emod_nonneg (max xf 0) d0
  have r1 := Int.emod_lt_of_pos (max xf 0) (show 0 < ld by omega)
  have hR2 : (max xf 0).tmod ld = max xf 0 % ld := Int.tmod_eq_emod_of_nonneg x0
  generalize max xf 0 % ld = lR at *
  have hl : lineB al lR ln ld = true := (lineB_iff _ _ _ _).2 ⟨lb, la, hb, r0, r1⟩
  have k0 : 0 ≤ max xk 0 % 257 := by omega
  obtain ⟨K, hK⟩ := Int.eq_ofNat_of_zero_le k0
  have k1 : K ≤ 256 := by omega
  obtain ⟨F, hF⟩ : ∃ F, max xf 0 % 140737488355328 = F := ⟨_, rfl⟩
  obtain ⟨S, hS⟩ : ∃ S, max xs 0 % 549755813888 = S := ⟨_, rfl⟩
  have f0 : 0 ≤ F ∧ F < 140737488355328 := by omega
  have s0 : 0 ≤ S ∧ S < 549755813888 := by omega
  have tF : timeB F = true := (timeB_iff _).2 (by omega)
  have tS : timeB S = true := (timeB_iff _).2 (by omega)
  have at' : ∀ k : Int, 0 ≤ k → k ≤ 256 → 0 ≤ k * S ∧ k * S ≤ 140737488355328 := fun k h1 h2 => by
    have m0 := Int.mul_nonneg h1 s0.1
    have m1 : k * S ≤ 256 * 549755813888 := Int.mul_le_mul h2 (by omega) s0.1 (by omega)
    omega
  obtain ⟨t1, t2, _, _, _, _, _, _, dd0, dd1⟩ := line_terms hl tF tS
  have hw : walkB F S K = true := (walkB_iff _ _ _).2 ⟨⟨by omega, by omega⟩, tF, tS, by
    by_cases g : (K : Int) ≤ 0
    · exact Or.inl g
    · have := at' ((K : Int) - 1) (by omega) (by omega)
      exact Or.inr ((timeB_iff _).2 (by omega))⟩
  have ex : ∀ k : Nat, ln * S * k + exV al lR ln ld F = exV al lR ln ld (F + k * S) := fun k => by
    unfold exV
    rw [Int.mul_add, show ln * S * (k : Int) = ln * ((k : Int) * S) by rw [Int.mul_assoc, Int.mul_comm S]]
    omega
  have ft : ∀ k : Nat, k ≤ 256 → Fits (floorS k (ln * S) (exV al lR ln ld F) ld) := fun k hk => (room hk t1 t2 dd0).all
  refine values6_walk a sN sD xf xs xk al N0 D0 lR ln ld F S K w hal hN0 hD hR2 d0 hK hF hS OF (fun k => floorS k (ln * S) (exV al lR ln ld F) ld) (fun W => line_said _ _ _ _ _ _ K hl hw W)
    (fun k => exV al lR ln ld (F + k * S) / ld) (fun k => tlQ al lR ln ld (F + k * S)) (fun k => tlE al lR ln ld (F + k * S)) rfl ?_ (fun k _ W => at_any _ _ _ _ _ W) ?_ ?_ ?_
  · intro k hk W
    have b := at' k (by omega) (by omega)
    have tk : timeB (F + k * S) = true := (timeB_iff _).2 (by omega)
    have L := line_said al lR ln ld (F + k * S) 0 1 hl ((walkB_iff _ _ _).2 ⟨⟨by omega, by omega⟩, tk, (timeB_iff _).2 (by omega), Or.inr (by simpa using tk)⟩) W
    simp only [floorS] at L
    rw [show (0 : Int) + (ln * 0 * ((0 : Nat) : Int) + exV al lR ln ld (F + k * S)) / ld = exV al lR ln ld (F + k * S) / ld by simp] at L
    exact L
  · intro k hk hc
    rcases at_told al lR ln ld (F + k * S) with ⟨_, _, h⟩ | ⟨_, _, _, h⟩ | ⟨_, _, _, _, h⟩ | ⟨_, _, h3, h4, _⟩
    · rw [h] at hc; cases hc
    · rw [h] at hc; cases hc
    · rw [h] at hc; cases hc
    · have := (backB_iff _).1 h3
      exact ⟨h4, by unfold I64; omega⟩
  · intro k hk W
    have b := at' k (by omega) (by omega)
    have tk : timeB (F + k * S) = true := (timeB_iff _).2 (by omega)
    have fx : Fits (exV al lR ln ld (F + k * S) / ld) := div_fits (ex_fits hl tk).2.2.1 (by omega)
    have e : floorS (k + 1) (ln * S) (exV al lR ln ld F) ld = floorS k (ln * S) (exV al lR ln ld F) ld + exV al lR ln ld (F + k * S) / ld * 1 := by
      simp only [floorS, Int.mul_one]
      rw [ex k]
    have f1 := ft (k + 1) (by omega)
    show Calls Try.prog 20 #[_, _, _] W (Ret W (wideV (rhi (floorS (k + 1) (ln * S) (exV al lR ln ld F) ld)) (rlo (floorS (k + 1) (ln * S) (exV al lR ln ld F) ld))))
    rw [e] at f1 ⊢
    exact plus6_any _ _ 1 (ft k (by omega)) fx (by unfold I64; omega) (by rw [Int.mul_one]; exact fx) f1 W
  · intro k hk
    have b := at' k (by omega) (by omega)
    omega
end Go.Proofs.Ytnacdofidmgfmaa
