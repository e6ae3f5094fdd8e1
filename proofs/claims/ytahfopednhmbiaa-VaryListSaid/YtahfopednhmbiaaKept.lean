/-
  Layer 2: are the statements' own bytes as they were? Conditions: those written at each fact.
-/
import Derived.Test.YtahfopednhmbiaaBack2
namespace Go.Proofs.Ytahfopednhmbiaa
open Go.RowKit Go.Shelf

set_option maxRecDepth 100000 in
set_option maxHeartbeats 2000000 in
theorem kept_any (b : List Int) (hbl : b.length ≤ 9223372036854775807) (v : Value) (w : World) (h : Reads .u8 w v b) (g cap : Nat) (hg : g < w.heap.size) (hcap : (b.take 400).length + 12 ≤ cap) (hlie : Lie w g 0 (b.take 400 ++ List.replicate 12 238)) :
    Calls Try.prog 18 #[.slice (some ⟨g, 0, none⟩) (b.take 400).length cap, v] w (Ret w (.bool true)) := by
  obtain ⟨A, c, rfl, hc, hk⟩ := h
  obtain ⟨m, hm, hm1, hm2⟩ : ∃ m, m = (b.take 400).length ∧ m ≤ 400 ∧ m ≤ b.length := ⟨_, rfl, by simp; omega, by simp; omega⟩
  have RT : Hid (Reads .u8 w (.slice A m c) (b.take 400)) := Lib.hid (by
    have := reads_take (A := A) (c := c) ⟨A, c, rfl, hc, hk⟩ m hm2
    have e : b.take m = b.take 400 := by
      rw [hm]
      by_cases g : b.length ≤ 400
      · rw [List.take_of_length_le g, List.take_of_length_le (by simp)]
      · rw [List.length_take, Nat.min_eq_left (by omega)]
    rwa [e] at this)
  have hmin : min (b.length : Int) 400 = m := by rw [hm]; simp; omega
  have HE : Hid (∀ i, i < 12 → w.cell? ⟨g, m + i, none⟩ = some (.int .u8 238)) := Lib.hid (fun i hi => by
    have := hlie (m + i) 238 (by rw [hm, List.getElem?_append_right (by omega), Nat.add_sub_cancel_left, List.getElem?_replicate, if_pos hi])
    rwa [Nat.zero_add] at this)
  have EQ := Lib.hid (fun W (hb : Below w.heap.size w W) => equalB (b.take 400) (b.take 400) (by omega) _ _ W (reads_lie (c := cap) (hlie.left.below hg hb) (Nat.lt_of_lt_of_le hg hb.size) (by omega)) (RT.out.below hb))
  rw [eqB_true rfl] at EQ
  rw [← hm] at hcap EQ ⊢
  clear hk hm RT hlie
  have s4 : ¬ (m + 12 = m) := by omega
  by_cases gs : b.length ≤ 400
  · have em : b.length = m := by omega
    clear hmin
    rw [em] at hc gs ⊢
    clear em hbl hm2
    go_enter Try.func18, Try.ntmps18
    go_wp2_with fail
    go_loop [21] (fun i => ∃ k : Nat, i = .int .i64 k ∧ k ≤ 12) (fun i => 12 - (intOf i).toNat)
    case atStart => exact ⟨0, rfl, by omega⟩
    case round =>
      obtain ⟨k, rfl, hk⟩ := hrel
      by_cases gk : k < 12
      · have hcell := HE.out k gk
        go_wp2_with fail
        go_round
        case rel => exact ⟨k + 1, by simp, by omega⟩
        case measure => simp [intOf]; omega
      · go_wp2_with fail
        refine (EQ.out _ (Below.refl _ _)).mono ?_
        rintro e w' ⟨rfl, hb⟩
        have HB := Lib.hid hb
        clear hb EQ
        go_wp2_with fail
        go_ret
        exact ⟨rfl, HB.out⟩
  · have em : m = 400 := by omega
    subst em
    clear hmin
    go_enter Try.func18, Try.ntmps18
    go_wp2_with fail
    go_loop [21] (fun i => ∃ k : Nat, i = .int .i64 k ∧ k ≤ 12) (fun i => 12 - (intOf i).toNat)
    case atStart => exact ⟨0, rfl, by omega⟩
    case round =>
      obtain ⟨k, rfl, hk⟩ := hrel
      by_cases gk : k < 12
      · have hcell := HE.out k gk
        go_wp2_with fail
        go_round
        case rel => exact ⟨k + 1, by simp, by omega⟩
        case measure => simp [intOf]; omega
      · go_wp2_with fail
        refine (EQ.out _ (Below.refl _ _)).mono ?_
        rintro e w' ⟨rfl, hb⟩
        have HB := Lib.hid hb
        clear hb EQ
        go_wp2_with fail
        go_ret
        exact ⟨rfl, HB.out⟩
end Go.Proofs.Ytahfopednhmbiaa
