/-
  Layer 7: the law's helpers: equal rows, a row of the law's own. Conditions: those written at each fact.
-/
import Derived.Test.YtlfjmdfplmdmgaaRnU
import Derived.Test.YtlfjmdfplmdmgaaRnR
import Derived.Test.YtlfjmdfplmdmgaaEq
namespace Go.Proofs.Ytlfjmdfplmdmgaa
open Go.RowKit Go.Shelf

set_option maxRecDepth 100000 in
set_option maxHeartbeats 2000000 in
theorem equalR (l : List Rn) (hl : l.length ≤ 10000000) (v v2 : Value) (w : World) (h : ReadsR w v l) (h2 : ReadsR w v2 l) : Calls Try.prog 19 #[v, v2] w (Ret w (.bool true)) := by
  obtain ⟨A, c, rfl, _, hk⟩ := h
  obtain ⟨A2, c2, rfl, _, hk2⟩ := h2
  have HK := Lib.hid hk
  have HK2 := Lib.hid hk2
  clear hk hk2
  have t' : ((l.length : Int) != (l.length : Int)) = false := by simp
  go_enter Try.func19, Try.ntmps19
  go_wp2_with fail
  go_loopw [13] (fun i wr => ∃ k : Nat, i = .int .i64 k ∧ k ≤ l.length ∧ Below w.heap.size w wr) (fun i _ => l.length - (intOf i).toNat)
  case atStart => exact ⟨0, rfl, by omega, Below.refl _ _⟩
  case round =>
    obtain ⟨k, rfl, hkl, hB⟩ := hrel
    by_cases gk : k < l.length
    · obtain ⟨⟨x, y, z⟩, hx⟩ : ∃ s, l[k]? = some s := ⟨_, List.getElem?_eq_getElem gk⟩
      obtain ⟨b, off, rfl, hbw, d1, d2, d5⟩ := HK.out k _ hx
      obtain ⟨b2, off2, rfl, hbw2, d3, d4, d6⟩ := HK2.out k _ hx
      have c1 := (hB.cell (p := ⟨b, off + k * 3, none⟩) hbw).trans d1
      have c2 := (hB.cell (p := ⟨b, off + k * 3 + 1, none⟩) hbw).trans d2
      have c5 := (hB.cell (p := ⟨b, off + k * 3 + 2, none⟩) hbw).trans d5
      have c3 := (hB.cell (p := ⟨b2, off2 + k * 3, none⟩) hbw2).trans d3
      have c4 := (hB.cell (p := ⟨b2, off2 + k * 3 + 1, none⟩) hbw2).trans d4
      have c6 := (hB.cell (p := ⟨b2, off2 + k * 3 + 2, none⟩) hbw2).trans d6
      simp only at c1 c2 c3 c4 c5 c6
      have i1 : (k : Int) < (l.length : Int) := by omega
      have i0 : (0 : Int) ≤ (k : Int) := by omega
      clear d1 d2 d3 d4 d5 d6 hx
      go_wp2_with fail
      go_quiet (fail)
      go_wp2_with fail
      go_roundw
      case rel => exact ⟨k + 1, by simp, by omega, below_drewN hB _⟩
      case measure => simp [intOf]; omega
    · have i1 : ¬ (k : Int) < (l.length : Int) := by omega
      go_wp2_with fail
      go_ret
      exact ⟨rfl, hB⟩
theorem readsR_take {w : World} {A : Option Addr} {c : Nat} {l : List Rn} (h : ReadsR w (.slice A l.length c) l) (m : Nat) (hm : m ≤ l.length) : ReadsR w (.slice A m c) (l.take m) := by
  obtain ⟨A', c', e, hc, hk⟩ := h
  cases e
  refine ⟨A, c, by rw [List.length_take, Nat.min_eq_left hm], by rw [List.length_take, Nat.min_eq_left hm]; omega, fun i r hi => hk i r ?_⟩
  rw [List.getElem?_take] at hi
  split at hi
  · exact hi
  · cases hi
theorem reads_flatR {W : World} {ad : Addr} {n c : Nat} {l : List Rn} (h : ReadsR W (.slice (some ad) n c) l) : ∀ (j : Nat) (u : Value), (flatR l)[j]? = some u → W.cell? (ad.add j) = some u := by
  intro j u hj
  obtain ⟨A', c', e, hc, hk⟩ := h
  cases e
  cases l with
  | nil => simp [flatR] at hj
  | cons r l =>
    obtain ⟨b, off, e1, _⟩ := hk 0 r rfl
    cases e1
    exact reads_flat (fun i r2 hi => by obtain ⟨b', off', e2, _, e3⟩ := hk i r2 hi; cases e2; exact e3) j u hj
set_option maxRecDepth 100000 in
set_option maxHeartbeats 1000000 in
theorem own_any (l : List Rn) (hl : l.length ≤ 9223372036854775807) (v : Value) (w : World) (h : ReadsR w v l) : Calls Try.prog 12 #[v] w (LaidR w (l.take 300)) := by
  obtain ⟨i0, hi, hz0, hz1, hz2⟩ := info_parts infoRun
  have hh := h
  obtain ⟨A, c, rfl, hc, hk⟩ := h
  cases A with
  | none =>
    have e : l = [] := by
      cases l with
      | nil => rfl
      | cons x l' =>
        obtain ⟨b, off, e1, _⟩ := hk 0 x rfl
        cases e1
    subst e
    clear hk hh
    go_enter Try.func12, Try.ntmps12
    go_wp2_with fail
    go_ret
    exact ⟨_, rfl, below_alloc w _, World.ownsRow_made (base := w.heap.size) (e := 36) (size := 3) w #[] 0 (Nat.le_refl _) (Nat.zero_le _) rfl⟩
  | some ad =>
    have FL := Lib.hid (flatR_length (l.take 300))
    by_cases g : l.length ≤ 300
    · have HH : Hid (ReadsR w (.slice (some ad) l.length c) (l.take 300)) := Lib.hid (by rw [List.take_of_length_le g]; exact hh)
      have HT : Hid ((l.take 300).length = l.length) := Lib.hid (by rw [List.take_of_length_le g])
      have hm : min (l.length : Int) 300 = (l.length : Int) := by omega
      clear hk hh
      generalize l.take 300 = m at *
      go_enter Try.func12, Try.ntmps12
      go_wp2_with (at_builtin; refine wpList_append_own _ rfl _ _ 22 rfl w.heap.size 36 i0 (.agg #[.int .i64 0, .int .i64 0, .int .i64 0]) 3 24 Try.underlying22 hi hz0 hz1 hz2 rfl (by decide) _ _ _ rfl (World.ownsRow_made w #[] 0 (Nat.le_refl _) (Nat.zero_le _) rfl) ad l.length c (flatR m) rfl ?qc1 ?qc2 ?qc3 ?qc4 ?qc5 ?qc6 ?_)
      case qc1 => rw [FL.out, HT.out]
      case qc2 => exact reads_flatR (HH.out.below (below_alloc w _))
      case qc3 => exact flatR_one m
      case qc4 => unfold maxLen; omega
      case qc5 => omega
      case qc6 => simp
      intro v' w1 hown hgrow _
      clear HH
      go_wp2_with fail
      go_ret
      exact ⟨v', rfl, ((Below.refl _ w).alloc (Nat.le_refl _) _).grown hgrow (by simp) (by intro k hk; simp [Value.ownBlock] at hk; omega), by rw [HT.out]; simpa using hown⟩
    · have HH : Hid (ReadsR w (.slice (some ad) 300 c) (l.take 300)) := Lib.hid (readsR_take hh 300 (by omega))
      have HT : Hid ((l.take 300).length = 300) := Lib.hid (by rw [List.length_take]; omega)
      have hm : min (l.length : Int) 300 = 300 := by omega
      have h3 : (300 : Int) ≤ (c : Int) := by omega
      have h4 : 300 ≤ c := by omega
      clear hk hh
      generalize l.take 300 = m at *
      go_enter Try.func12, Try.ntmps12
      go_wp2_with (at_builtin; refine wpList_append_own _ rfl _ _ 22 rfl w.heap.size 36 i0 (.agg #[.int .i64 0, .int .i64 0, .int .i64 0]) 3 24 Try.underlying22 hi hz0 hz1 hz2 rfl (by decide) _ _ _ rfl (World.ownsRow_made w #[] 0 (Nat.le_refl _) (Nat.zero_le _) rfl) ad 300 c (flatR m) rfl ?qc1 ?qc2 ?qc3 ?qc4 ?qc5 ?qc6 ?_)
      case qc1 => rw [FL.out, HT.out]
      case qc2 => exact reads_flatR (HH.out.below (below_alloc w _))
      case qc3 => exact flatR_one m
      case qc4 => unfold maxLen; omega
      case qc5 => omega
      case qc6 => simp
      intro v' w1 hown hgrow _
      clear HH
      go_wp2_with fail
      go_ret
      exact ⟨v', rfl, ((Below.refl _ w).alloc (Nat.le_refl _) _).grown hgrow (by simp) (by intro k hk; simp [Value.ownBlock] at hk; omega), by rw [HT.out]; simpa using hown⟩
end Go.Proofs.Ytlfjmdfplmdmgaa
