/-
  Layer 3: the document's own answer: the float of a whole number. Conditions: those written at each fact.
-/
import Derived.Test.YtpldkccjhplipaaGrF
namespace Go.Proofs.Ytpldkccjhplipaa
open Go.RowKit Go.Shelf

theorem floatW_tail {v s : Int} (hv : v ≠ 0) (h : v.natAbs ≤ 2305843009213693952) (hs : Scale s) : ((floatW v s : Nat) : Int) = tailW (mant v.natAbs : Int) (surp v.natAbs) s (decide (v < 0)) := by
  have hx : v.natAbs ≠ 0 := by omega
  obtain ⟨e1, e2⟩ := FE_range hx h hs
  obtain ⟨m1, m2⟩ := mant_range hx h
  unfold floatW tailW
  unfold FE FS at e1 e2 ⊢
  unfold FM
  generalize mant v.natAbs = m at *
  generalize surp v.natAbs = S at *
  simp only [hv, if_false, decide_eq_true_eq]
  by_cases g : m = 9007199254740992
  · simp only [g, if_true] at e1 e2
    simp only [g, if_true]
    by_cases gv : v < 0
    · simp only [gv, if_true]; omega
    · simp only [gv, if_false]; omega
  · have gi : ¬ (m : Int) = 9007199254740992 := by omega
    simp only [g, if_false] at e1 e2
    simp only [gi, g, if_false]
    by_cases gv : v < 0
    · simp only [gv, if_true]; omega
    · simp only [gv, if_false]; omega
theorem two_len (n k : Nat) (h : n ≤ k) : (sizeL (2 ^ n)).length ≤ k + 1 := sizeL_length _ _ (Nat.pow_lt_pow_right (by decide) (by omega))
theorem keep_up {x : Nat} (g : 0 < surp x) : keep x = mant x * 2 ^ (surp x).natAbs := by
  unfold keep mant
  rw [if_neg (by omega), if_neg (by omega), show (surp x).natAbs = (surp x).toNat by omega]
theorem mant_up {x : Nat} (g : 0 < surp x) : mant x = cutN x (surp x).toNat := by
  unfold mant
  rw [if_neg (by omega)]
theorem keep_low {x : Nat} (g : surp x ≤ 0) : keep x = x := by
  unfold keep
  rw [if_pos g]
theorem mant_low {x : Nat} (g : surp x ≤ 0) : mant x = x * 2 ^ (surp x).natAbs := by
  unfold mant
  rw [if_pos g, show (surp x).natAbs = (-surp x).toNat by omega]
theorem surp_def (x : Nat) : (Lib.bitLen x : Int) - 53 = surp x := by unfold surp; rfl
theorem refFloat_any (v s : Int) (h : v.natAbs ≤ 2305843009213693952) (hs : Scale s) (w : World) :
    Calls Try.prog 22 #[.int .i64 v, .int .i64 s] w (Ret w (.tuple #[.int .u64 (floatW v s), .bool (decide (keep v.natAbs = v.natAbs))])) := by
  have IN : ∀ W, Calls Try.prog 42 #[.int .i64 v] W (RetZ W v) := fun W => intZ_any v (by omega) (by omega) W
  by_cases hv : v = 0
  · subst hv
    have := rfl_zero s w IN
    rw [float_zero, show decide (keep (0 : Int).natAbs = (0 : Int).natAbs) = true from decide_eq_true (keep_small (by decide))]
    exact this
  · have hx : v.natAbs ≠ 0 := by omega
    obtain ⟨r1, r2⟩ := surp_range hx h
    obtain ⟨m1, m2⟩ := mant_range hx h
    have hL := surp_def v.natAbs
    have hb := (bitLen_spec v.natAbs (by omega)).2 hx
    have lx : (sizeL v.natAbs).length ≤ 62 := by rw [len_bit _ (by omega)]; omega
    have lm : (sizeL (mant v.natAbs)).length ≤ 54 := sizeL_length _ _ (by omega)
    have lp := two_len (surp v.natAbs).natAbs 52 (by omega)
    have lq : (sizeL (mant v.natAbs * 2 ^ (surp v.natAbs).natAbs)).length ≤ 110 := by
      have a := Nat.mul_le_mul m2 (Nat.pow_le_pow_right (by decide : 0 < 2) (by omega : (surp v.natAbs).natAbs ≤ 52))
      exact sizeL_length _ _ (by omega)
    refine rfl_walk v s _ (Lib.bitLen v.natAbs) v.natAbs (mant v.natAbs) (2 ^ (surp v.natAbs).natAbs) (surp v.natAbs) _ _ (by omega) (by omega) hL hs.1 hs.2 m1 m2 rfl rfl (len_bit _ (by omega)) ?_ (floatW_tail hv h hs) IN ?_ ?_ ?_ ?_ ?_ ?_ w
    · intro g
      rw [keep_low g]
      exact decide_eq_true rfl
    · intro g u W p hp hu
      have hn := nearest_any (v.natAbs : Int) (surp v.natAbs).toNat (by omega) (by rw [Int.natAbs_natCast]; omega) u W hu
      have e : nearZ (v.natAbs : Int) (surp v.natAbs).toNat = (mant v.natAbs : Int) := by
        unfold nearZ
        rw [if_neg (by omega), Int.natAbs_natCast, mant_up g]
      rw [e] at hn
      have e2 : (((surp v.natAbs).toNat : Nat) : Int) = p := by omega
      rw [e2] at hn
      exact hn
    · intro W p hp h0
      have hn := pow_any (surp v.natAbs).natAbs (by omega) W
      have e2 : (((surp v.natAbs).natAbs : Nat) : Int) = p := by omega
      rw [e2] at hn
      exact hn
    · intro g u u' W hu hu'
      exact mulZ_any _ _ (by rw [Int.natAbs_natCast, Int.natAbs_natCast]; omega) u u' W hu hu'
    · intro g u u' W hu hu'
      have hn := same_any _ _ (by rw [← Int.natCast_mul, Int.natAbs_natCast]; omega) (by rw [Int.natAbs_natCast]; omega) u u' W hu hu'
      have e : decide ((mant v.natAbs : Int) * ((2 ^ (surp v.natAbs).natAbs : Nat) : Int) = (v.natAbs : Int)) = decide (keep v.natAbs = v.natAbs) := by
        rw [keep_up g, ← Int.natCast_mul]
        exact decide_eq_decide.2 Int.ofNat_inj
      rw [e] at hn
      exact hn
    · intro g u u' W hu hu'
      have hn := mulZ_any _ _ (by rw [Int.natAbs_natCast, Int.natAbs_natCast]; omega) u u' W hu hu'
      rw [← Int.natCast_mul, ← mant_low g] at hn
      exact hn
    · intro u W hu
      have hn := valueZ_any _ (by rw [Int.natAbs_natCast]; omega) u W hu
      have e1 : valueV (mant v.natAbs : Int) = (mant v.natAbs : Int) := by unfold valueV; rw [if_pos (by omega)]
      have e2 : valueB (mant v.natAbs : Int) = true := by unfold valueB; exact decide_eq_true (by omega)
      rw [e1, e2] at hn
      exact hn
end Go.Proofs.Ytpldkccjhplipaa
