/-
 Layer 12: slices.Clone of bytes, and the law's few. Conditions: those written at each fact.
-/
import Derived.Test.YtcfidimnbamnkaaGreatSQ
namespace Go.Proofs.YtcfidimnbamnkaaGreat.P12
open Go.RowKit Go.Shelf Go.Proofs.YtcfidimnbamnkaaGreat.P2 Go.Proofs.YtcfidimnbamnkaaGreat.P7 Go.Proofs.YtcfidimnbamnkaaGreat.P11

theorem reads_add12 {k : IntKind} {w : World} {ad : Addr} {l : List Int} {c : Nat} (h : Reads k w (.slice (some ad) l.length c) l) {j : Nat} {u : Value} (hj : (l.map (Value.int k))[j]? = some u) : w.cell? (ad.add j) = some u := by
 rw [List.getElem?_map] at hj
 cases hz : l[j]? with
 | none => rw [hz] at hj; cases hj
 | some z =>
  rw [hz] at hj
  obtain ⟨b, off, e1, _, e3⟩ := h.at.2.2 j z hz
  cases e1
  cases hj
  by_cases g0 : j = 0
  ·subst g0; simpa [Addr.add] using e3
  ·simpa [Addr.add, g0] using e3
set_option maxRecDepth 100000 in
set_option maxHeartbeats 1000000 in
theorem cloneB (l : List Int) (hl : l.length ≤ 1000000) (v : Value) (w : World) (h : Reads .u8 w v l) :
  Calls Tryz.prog 102 #[v] w (MadeB w l) := by
 obtain ⟨i0, hi, hz0, hz1, hz2⟩ := info_parts infoU8
 have hh := h
 obtain ⟨A, c, rfl, hc, hk⟩ := h
 have HK := Lib.hid hk
 have HH := Lib.hid hh
 clear hk hh
 have q : ∀ (w : World) (a : Option Addr) (n c n' c' : Nat), (binOp .eql 76 (.slice a n c) (.slice none n' c')).run Tryz.prog w = .ok (.bool a.isNone) w := fun w a n c n' c' => Lib.run_eql_slice_nil w _ _ a n c n' c' Tryz.underlying76
 cases A with
 | none =>
  have e : l = [] := by
   cases l with
   | nil => rfl
   | cons x l' =>
    obtain ⟨b, off, e1, _⟩ := HK.out 0 x rfl
    cases e1
  subst e
  go_enter Tryz.func102, Tryz.ntmps102
  go_wp2_with fail
  go_ret
  exact ⟨_, rfl, Below.refl _ _, World.ownsRow_nil _ _ _ _⟩
 | some ad =>
  go_enter Tryz.func102, Tryz.ntmps102
  go_wp2_with (at_builtin; refine wpList_append_own _ rfl _ _ 76 rfl w.heap.size 5 i0 (.int .u8 0) 1 1 Tryz.underlying76 hi hz0 hz1 hz2 rfl (by decide) _ _ _ rfl (World.ownsRow_made w #[] 0 (Nat.le_refl _) (Nat.zero_le _) rfl) ad l.length c (l.map (Value.int .u8)) rfl ?qc1 ?qc2 ?qc3 ?qc4 ?qc5 ?qc6 ?_)
  case qc1 => simp
  case qc2 => exact fun j u hj => reads_add12 (HH.out.below (below_alloc w _)) hj
  case qc3 => intro u hu; obtain ⟨x, _, rfl⟩ := List.mem_map.1 hu; rfl
  case qc4 => unfold maxLen; omega
  case qc5 => omega
  case qc6 => simp
  intro v' w1 hown hgrow _
  clear HH HK q
  go_wp2_with fail
  go_ret
  exact ⟨v', rfl, ((Below.refl _ w).alloc (Nat.le_refl _) _).grown hgrow (by simp) (by intro k hk; simp [Value.ownBlock] at hk; omega), by simpa using hown⟩

theorem reads_take {k : IntKind} {w : World} {A : Option Addr} {c : Nat} {l : List Int} (h : Reads k w (.slice A l.length c) l) (m : Nat) (hm : m ≤ l.length) : Reads k w (.slice A m c) (l.take m) := by
 obtain ⟨_, hc, hk⟩ := h.at
 refine ⟨A, c, by rw [List.length_take, Nat.min_eq_left hm], by rw [List.length_take]; omega, fun i z hz => ?_⟩
 rw [List.getElem?_take] at hz
 split at hz
 ·exact hk i z hz
 ·cases hz

set_option maxRecDepth 100000 in
set_option maxHeartbeats 2000000 in
theorem few_any (l : List Int) (hl : l.length ≤ 9223372036854775807) (v : Value) (w : World) (h : Reads .u8 w v l) :
  Calls Tryz.prog 48 #[v] w (MadeB w (l.take 3000)) := by
 obtain ⟨A, c, rfl, hc, hk⟩ := h
 obtain ⟨m, hm, hm1, hm2⟩ : ∃ m, m = (l.take 3000).length ∧ m ≤ 3000 ∧ m ≤ l.length := ⟨_, rfl, by simp; omega, by simp; omega⟩
 have RT : Hid (Reads .u8 w (.slice A m c) (l.take 3000)) := Lib.hid (by
  have := reads_take (A := A) (c := c) ⟨A, c, rfl, hc, hk⟩ m hm2
  have e : l.take m = l.take 3000 := by
   rw [hm]
   by_cases g : l.length ≤ 3000
   ·rw [List.take_of_length_le g, List.take_of_length_le (by simp)]
   ·rw [List.length_take, Nat.min_eq_left (by omega)]
  rwa [e] at this)
 have CL := Lib.hid (cloneB (l.take 3000) (by omega) _ w RT.out)
 have hmin : min (l.length : Int) 3000 = m := by rw [hm]; simp; omega
 generalize l.take 3000 = L at *
 clear hk hm RT
 by_cases gs : l.length ≤ 3000
 ·have em : l.length = m := by omega
  clear hmin
  rw [em] at hc gs ⊢
  clear em hl hm2
  have hm9 : min (m : Int) 3000 = (m : Int) := by omega
  go_enter Tryz.func48, Tryz.ntmps48
  go_wp2_with fail
  refine CL.out.mono ?_
  rintro e w1 ⟨v1, rfl, hb1, ho1⟩
  clear CL
  go_wp2_with fail
  go_ret
  exact ⟨_, rfl, hb1, ho1⟩
 ·obtain rfl : m = 3000 := by omega
  go_enter Tryz.func48, Tryz.ntmps48
  go_wp2_with fail
  refine CL.out.mono ?_
  rintro e w1 ⟨v1, rfl, hb1, ho1⟩
  clear CL
  go_wp2_with fail
  go_ret
  exact ⟨_, rfl, hb1, ho1⟩
end Go.Proofs.YtcfidimnbamnkaaGreat.P12
