/-
  Layer 9: the law's own, and its wakes. Conditions: those written at each fact.
-/
import Derived.Test.YtjioljgojfcckaaGreatSwM
namespace Go.Proofs.YtjioljgojfcckaaGreat.P9
open Go.RowKit Go.Shelf Go.Proofs.YtjioljgojfcckaaGreat.P8

set_option maxRecDepth 100000 in
set_option maxHeartbeats 2000000 in
theorem own_any (l : List Bd) (hl : l.length ≤ 9223372036854775807) (v : Value) (w : World) (h : ReadsD w v l) : Calls Tryz.prog 6 #[v] w (LaidD w (l.take 260)) := by
  obtain ⟨i0, hi, hz0, hz1, hz2⟩ := info_parts8 infoBand
  have hh := h
  obtain ⟨A, c, rfl, hc, hk⟩ := h
  cases A with
  | none =>
    have e : l = [] := by
      cases l with
      | nil => rfl
      | cons x l' =>
        obtain ⟨b, off, e1, _⟩ := hk 0 x rfl
        cases e1
    subst e
    clear hk hh
    go_enter Tryz.func6, Tryz.ntmps6
    go_wp2_with fail
    go_ret
    exact ⟨_, rfl, below_alloc w _, World.ownsRow_made (base := w.heap.size) (e := 44) (size := 3) w #[] 0 (Nat.le_refl _) (Nat.zero_le _) rfl⟩
  | some ad =>
    have FL := Lib.hid (flatD_length (l.take 260))
    by_cases g : l.length ≤ 260
    · have HH : Hid (ReadsD w (.slice (some ad) l.length c) (l.take 260)) := Lib.hid (by rw [List.take_of_length_le g]; exact hh)
      have HT : Hid ((l.take 260).length = l.length) := Lib.hid (by rw [List.take_of_length_le g])
      have hm : min (l.length : Int) 260 = (l.length : Int) := by omega
      clear hk hh
      generalize l.take 260 = m at *
      go_enter Tryz.func6, Tryz.ntmps6
      go_wp2_with (at_builtin; refine wpList_append_own _ rfl _ _ 24 rfl w.heap.size 44 i0 (.agg #[.int .i64 0, .int .i64 0, .int .i64 0]) 3 24 Tryz.underlying24 hi hz0 hz1 hz2 rfl (by decide) _ _ _ rfl (World.ownsRow_made w #[] 0 (Nat.le_refl _) (Nat.zero_le _) rfl) ad l.length c (flatD m) rfl ?qc1 ?qc2 ?qc3 ?qc4 ?qc5 ?qc6 ?_)
      case qc1 => rw [FL.out, HT.out]
      case qc2 => rw [← HT.out] at HH; exact reads_flatD (HH.out.below (below_alloc w _))
      case qc3 => exact flatD_one m
      case qc4 => unfold maxLen; omega
      case qc5 => omega
      case qc6 => simp
      intro v' w1 hown hgrow _
      clear HH
      go_wp2_with fail
      go_ret
      exact ⟨v', rfl, ((Below.refl _ w).alloc (Nat.le_refl _) _).grown hgrow (by simp) (by intro k hk; simp [Value.ownBlock] at hk; omega), by rw [HT.out]; simpa using hown⟩
    · have HT : Hid ((l.take 260).length = 260) := Lib.hid (by rw [List.length_take]; omega)
      have HH : Hid (ReadsD w (.slice (some ad) 260 c) (l.take 260)) := Lib.hid (readsD_take hh 260 (by omega))
      have hm : min (l.length : Int) 260 = 260 := by omega
      have h3 : (260 : Int) ≤ (c : Int) := by omega
      have h4 : 260 ≤ c := by omega
      clear hk hh
      generalize l.take 260 = m at *
      go_enter Tryz.func6, Tryz.ntmps6
      go_wp2_with (at_builtin; refine wpList_append_own _ rfl _ _ 24 rfl w.heap.size 44 i0 (.agg #[.int .i64 0, .int .i64 0, .int .i64 0]) 3 24 Tryz.underlying24 hi hz0 hz1 hz2 rfl (by decide) _ _ _ rfl (World.ownsRow_made w #[] 0 (Nat.le_refl _) (Nat.zero_le _) rfl) ad 260 c (flatD m) rfl ?qc1 ?qc2 ?qc3 ?qc4 ?qc5 ?qc6 ?_)
      case qc1 => rw [FL.out, HT.out]
      case qc2 => rw [← HT.out] at HH; exact reads_flatD (HH.out.below (below_alloc w _))
      case qc3 => exact flatD_one m
      case qc4 => unfold maxLen; omega
      case qc5 => omega
      case qc6 => simp
      intro v' w1 hown hgrow _
      clear HH
      go_wp2_with fail
      go_ret
      exact ⟨v', rfl, ((Below.refl _ w).alloc (Nat.le_refl _) _).grown hgrow (by simp) (by intro k hk; simp [Value.ownBlock] at hk; omega), by rw [HT.out]; simpa using hown⟩
end Go.Proofs.YtjioljgojfcckaaGreat.P9
