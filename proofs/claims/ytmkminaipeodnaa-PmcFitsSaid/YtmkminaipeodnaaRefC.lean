/-
  The document's own answers, third part: a power of 2, a word of a row, a row without noughts at its end. Conditions: those written at each fact.
-/
import Derived.Test.YtmkminaipeodnaaRefB
namespace Go.Proofs.Ytmkminaipeodnaa
open Go.RowKit

theorem sizeL_pow (n : Nat) : sizeL (2 ^ n) = List.replicate n 0 ++ [1] := by
  induction n with
  | zero => rw [Nat.pow_zero, sizeL_pos (by decide), show 1 / 2 = 0 from rfl, sizeL_zero]; rfl
  | succ n ih =>
    have p : 0 < 2 ^ n := Nat.pow_pos (by decide)
    have e : 2 ^ (n + 1) = 2 * 2 ^ n := by rw [Nat.pow_succ, Nat.mul_comm]
    rw [e, sizeL_pos (by omega), show 2 * 2 ^ n / 2 = 2 ^ n from by omega, ih, List.replicate_succ, List.cons_append]
    congr 1
    omega

/-- What a function hands back that gives a number's row. -/
def Gave (w : World) (x : Nat) (e : Ending) (w' : World) : Prop := ∃ v, e = .returned v ∧ Below w.heap.size w w' ∧ Num w' v x
theorem num_of_own {w : World} {B : Nat} {v : Value} {x : Nat} (h : w.ownsRow B 3 1 v (sizeL x).length ((sizeL x).map (Value.int .i64))) : Num w v x := by
  have hc := fun (g : Nat) (hg : v.ownBlock = some g) => h.cells hg
  rcases h.2 with ⟨rfl, h0⟩ | ⟨g, cap, cur, rfl, _, hg, h1, _⟩
  · exact ⟨none, 0, by rw [h0], ⟨by omega, fun _ => rfl⟩, fun k hk => by omega⟩
  · refine ⟨some ⟨g, 0, none⟩, cap, rfl, ⟨h1, fun e => by cases e⟩, fun k hk => ⟨g, 0, rfl, (Array.getElem?_eq_some_iff.1 hg).1, ?_⟩⟩
    have e : (⟨g, 0, none⟩ : Addr).add k = ⟨g, 0 + k, none⟩ := by unfold Addr.add; split <;> simp_all
    rw [← e]
    exact hc g rfl k _ (by rw [List.getElem?_map, bit_at k x hk]; rfl)
theorem Made.gave {w w' : World} {x : Nat} {e : Ending} (h : Made w (sizeL x) e w') : Gave w x e w' := by
  obtain ⟨v, e1, e2, e3⟩ := h
  exact ⟨v, e1, e2, num_of_own e3⟩

set_option maxRecDepth 100000 in
set_option maxHeartbeats 1600000 in
theorem power_any (n : Nat) (hn : n ≤ 4000) (w : World) : Calls Try.prog 59 #[.int .i64 n] w (Made w (sizeL (2 ^ n))) := by
  rw [sizeL_pow]
  obtain ⟨i0, hi, hz0, hz1, hz2⟩ := info_parts infoInt
  go_enter Try.func59, Try.ntmps59
  go_wp2_with fail
  go_loopw [3, 4] (fun v i wr => ∃ (k : Nat), i = .int .i64 k ∧ k ≤ n ∧ wr.ownsRow w.heap.size 3 1 v (List.replicate k (0 : Int)).length ((List.replicate k (0 : Int)).map (Value.int .i64)) ∧ Below w.heap.size w wr)
    (fun _ i _ => n - (intOf i).toNat)
  case atStart => exact ⟨0, rfl, by omega, World.ownsRow_nil _ _ _ _, Below.refl _ _⟩
  case round =>
    obtain ⟨k, rfl, hk, hown, hnx⟩ := hrel
    have hle : (List.replicate k (0 : Int)).length ≤ 4000 := by simp; omega
    by_cases g : k < n
    · have E : Hid (List.replicate k (0 : Int) ++ [0] = List.replicate (k + 1) 0) := Lib.hid (List.replicate_succ').symm
      generalize List.replicate k (0 : Int) = K at *
      go_wp2_with (at_builtin; refine wpList_append_own _ rfl _ _ 43 rfl w.heap.size 3 i0 (.int .i64 0) 1 8 Try.underlying43 hi hz0 hz1 hz2 rfl (by decide) _ _ _ rfl (hown.alloc _) ⟨wr.heap.size, 0, none⟩ 1 1 [.int .i64 0] rfl rfl ?c1 ?c2 ?c3 ?c4 ?c5 ?_)
      case c1 =>
        intro j u hj
        match j, hj with
        | 0, hj => simp at hj; subst hj; simp [Addr.add]
      case c2 => intro u hu; simp at hu; subst hu; rfl
      case c3 => unfold maxLen; omega
      case c4 => omega
      case c5 => have := hnx.size; simp; omega
      intro v' w1 hown' hgrow _
      have R := row_more hnx.size hown hnx hown' hgrow
      rw [E.out] at R
      clear hown' hgrow hown hnx
      go_wp2_with fail
      go_roundw
      case rel => exact ⟨k + 1, by simp, by omega, R.1, R.2⟩
      case measure => simp [intOf]; omega
    · obtain rfl : k = n := by omega
      have hlk : ¬ k < k := by omega
      generalize List.replicate k (0 : Int) = K at *
      go_wp2_with (at_builtin; refine wpList_append_own _ rfl _ _ 43 rfl w.heap.size 3 i0 (.int .i64 0) 1 8 Try.underlying43 hi hz0 hz1 hz2 rfl (by decide) _ _ _ rfl (hown.alloc _) ⟨wr.heap.size, 0, none⟩ 1 1 [.int .i64 1] rfl rfl ?c1 ?c2 ?c3 ?c4 ?c5 ?_)
      case c1 =>
        intro j u hj
        match j, hj with
        | 0, hj => simp at hj; subst hj; simp [Addr.add]
      case c2 => intro u hu; simp at hu; subst hu; rfl
      case c3 => unfold maxLen; omega
      case c4 => omega
      case c5 => have := hnx.size; simp; omega
      intro v' w1 hown' hgrow _
      have R := row_more hnx.size hown hnx hown' hgrow
      clear hown' hgrow hown hnx
      go_wp2_with fail
      go_ret
      exact ⟨_, rfl, R.2, R.1⟩

theorem word_step (x m t : Nat) : (x / 2 ^ (m + 1) % 2 ^ t) * 2 + x / 2 ^ m % 2 = x / 2 ^ m % 2 ^ (t + 1) := by
  rw [pow_half, show 2 ^ (t + 1) = 2 * 2 ^ t from by rw [Nat.pow_succ, Nat.mul_comm], Nat.mod_mul]
  omega

set_option maxRecDepth 100000 in
set_option maxHeartbeats 1600000 in
theorem word_any (x f : Nat) (hf : f ≤ 64) (v : Value) (w : World) (h : Num w v x) (hx : (sizeL x).length ≤ 4000) :
    Calls Try.prog 61 #[v, .int .i64 f] w (Ret w (.int .u64 ((x / 2 ^ f % 18446744073709551616 : Nat) : Int))) := by
  obtain ⟨A, ca, rfl, hca, HA⟩ := h
  have LA := hx
  have EA := Lib.hid (fun k => bit_lt k x)
  generalize (sizeL x).length = la at *
  replace HA := Lib.hid HA
  clear hx
  have hend : Hid (x / 2 ^ f % 18446744073709551616 = x / 2 ^ (f + 0) % 2 ^ (64 - 0)) := Lib.hid rfl
  have hbeg : Hid (x / 2 ^ (f + 64) % 2 ^ (64 - 64) = 0) := Lib.hid (by rw [Nat.sub_self, Nat.pow_zero, Nat.mod_one])
  go_enter Try.func61, Try.ntmps61
  go_wp2_with fail
  go_loopw [5, 6] (fun n i wr => ∃ (s : Nat) (j : Int) (N : Nat), s ≤ 64 ∧ i = .int .i64 j ∧ j = (f : Int) + s - 1 ∧ n = .int .u64 N ∧ Hid (N = x / 2 ^ (f + s) % 2 ^ (64 - s)) ∧ wr = w)
    (fun _ i _ => (intOf i + 1).toNat)
  case atStart => exact ⟨64, _, 0, by omega, rfl, by omega, rfl, Lib.hid hbeg.out.symm, rfl⟩
  case round =>
    obtain ⟨s, j, N, hs, rfl, hj, rfl, hN, rfl⟩ := hrel
    cases s with
    | zero =>
      have g : ¬ (f : Int) ≤ j := by omega
      have e := hN.out.trans hend.out.symm
      have E := Lib.hid e
      clear e hN
      go_wp2_with fail
      go_ret
      exact ⟨by rw [E.out]; rfl, Below.refl _ _⟩
    | succ s =>
      obtain rfl : j = ((f + s : Nat) : Int) := by omega
      have g : (f : Int) ≤ ((f + s : Nat) : Int) := by omega
      have st := word_step x (f + s) (64 - (s + 1))
      rw [show 64 - (s + 1) + 1 = 64 - s from by omega, show f + s + 1 = f + (s + 1) from rfl, ← hN.out] at st
      have hlt : N < 2 ^ (64 - (s + 1)) := by rw [hN.out]; exact Nat.mod_lt _ (Nat.pow_pos (by decide))
      have hle : 2 ^ (64 - (s + 1)) ≤ 2 ^ 63 := Nat.pow_le_pow_right (by decide) (by omega)
      have hN2 : N < 9223372036854775808 := by omega
      clear hlt hle hj
      by_cases ga : f + s < la
      · obtain ⟨b, off, rfl, hbw, hcell⟩ := HA.out _ ga
        have hbit := bit_range x (f + s)
        have hb2 : bitI x (f + s) = ((x / 2 ^ (f + s) % 2 : Nat) : Int) := rfl
        rw [hb2] at hcell
        clear hbit hb2
        have h2 : x / 2 ^ (f + s) % 2 < 2 := Nat.mod_lt _ (by decide)
        have ST := Lib.hid st
        clear st
        generalize x / 2 ^ (f + s) % 2 = q at *
        by_cases gq : q = 1
        · subst gq
          go_wp2_with fail
          go_roundw
          case rel => exact ⟨s, _, N * 2 + 1, by omega, rfl, by simp, by simp <;> omega, ST, by trivial⟩
          case measure => simp [intOf]; omega
        · obtain rfl : q = 0 := by omega
          go_wp2_with fail
          go_roundw
          case rel => exact ⟨s, _, N * 2, by omega, rfl, by simp, by simp <;> omega, ST, by trivial⟩
          case measure => simp [intOf]; omega
      · have sx : x / 2 ^ (f + s) = 0 := by
          rcases Nat.eq_zero_or_pos (x / 2 ^ (f + s)) with e | e
          · exact e
          · exact absurd ((EA.out (f + s)).2 (by omega)) ga
        rw [sx] at st
        have ST := Lib.hid (show N * 2 = x / 2 ^ (f + s) % 2 ^ (64 - s) by rw [sx]; simpa using st)
        clear st sx
        go_wp2_with fail
        go_roundw
        case rel => exact ⟨s, _, N * 2, by omega, rfl, by simp, by simp <;> omega, ST, by trivial⟩
        case measure => simp [intOf]; omega
end Go.Proofs.Ytmkminaipeodnaa
