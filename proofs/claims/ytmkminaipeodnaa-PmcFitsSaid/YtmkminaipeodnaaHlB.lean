/-
  Layer 8: the laws' helpers: equal rows, rows of their own. Conditions: those written at each fact.
-/
import Derived.Test.YtmkminaipeodnaaHlA
import Derived.Lib.SliceRun
namespace Go.Proofs.Ytmkminaipeodnaa.P8
open Go.RowKit Go.Shelf

set_option maxRecDepth 100000 in
set_option maxHeartbeats 2000000 in
theorem equalD (l : List Bd) (hl : l.length ≤ 10000000) (v v2 : Value) (w : World) (h : ReadsD w v l) (h2 : ReadsD w v2 l) : Calls Try.prog 16 #[v, v2] w (Ret w (.bool true)) := by
  obtain ⟨A, c, rfl, _, hk⟩ := h
  obtain ⟨A2, c2, rfl, _, hk2⟩ := h2
  have HK := Lib.hid hk
  have HK2 := Lib.hid hk2
  clear hk hk2
  have t' : ((l.length : Int) != (l.length : Int)) = false := by simp
  go_enter Try.func16, Try.ntmps16
  go_wp2_with fail
  go_loopw [13] (fun i wr => ∃ k : Nat, i = .int .i64 k ∧ k ≤ l.length ∧ Below w.heap.size w wr) (fun i _ => l.length - (intOf i).toNat)
  case atStart => exact ⟨0, rfl, by omega, Below.refl _ _⟩
  case round =>
    obtain ⟨k, rfl, hkl, hB⟩ := hrel
    by_cases gk : k < l.length
    · obtain ⟨⟨x, y, z⟩, hx⟩ : ∃ s, l[k]? = some s := ⟨_, List.getElem?_eq_getElem gk⟩
      obtain ⟨b, off, rfl, hbw, d1, d2, d5⟩ := HK.out k _ hx
      obtain ⟨b2, off2, rfl, hbw2, d3, d4, d6⟩ := HK2.out k _ hx
      have c1 := (hB.cell (p := ⟨b, off + k * 3, none⟩) hbw).trans d1
      have c2 := (hB.cell (p := ⟨b, off + k * 3 + 1, none⟩) hbw).trans d2
      have c5 := (hB.cell (p := ⟨b, off + k * 3 + 2, none⟩) hbw).trans d5
      have c3 := (hB.cell (p := ⟨b2, off2 + k * 3, none⟩) hbw2).trans d3
      have c4 := (hB.cell (p := ⟨b2, off2 + k * 3 + 1, none⟩) hbw2).trans d4
      have c6 := (hB.cell (p := ⟨b2, off2 + k * 3 + 2, none⟩) hbw2).trans d6
      simp only at c1 c2 c3 c4 c5 c6
      have i1 : (k : Int) < (l.length : Int) := by omega
      have i0 : (0 : Int) ≤ (k : Int) := by omega
      clear d1 d2 d3 d4 d5 d6 hx
      go_wp2_with fail
      go_quiet (fail)
      go_wp2_with fail
      go_roundw
      case rel => exact ⟨k + 1, by simp, by omega, below_drewN hB _⟩
      case measure => simp [intOf]; omega
    · have i1 : ¬ (k : Int) < (l.length : Int) := by omega
      go_wp2_with fail
      go_ret
      exact ⟨rfl, hB⟩
set_option maxRecDepth 100000 in
set_option maxHeartbeats 2000000 in
theorem equalN (l : List Int) (hl : l.length ≤ 10000000) (v v2 : Value) (w : World) (h : Reads .i64 w v l) (h2 : Reads .i64 w v2 l) : Calls Try.prog 22 #[v, v2] w (Ret w (.bool true)) := by
  obtain ⟨A, c, rfl, _, hk⟩ := h
  obtain ⟨A2, c2, rfl, _, hk2⟩ := h2
  have HK := Lib.hid hk
  have HK2 := Lib.hid hk2
  clear hk hk2
  have t' : ((l.length : Int) != (l.length : Int)) = false := by simp
  go_enter Try.func22, Try.ntmps22
  go_wp2_with fail
  go_loopw [13] (fun i wr => ∃ k : Nat, i = .int .i64 k ∧ k ≤ l.length ∧ Below w.heap.size w wr) (fun i _ => l.length - (intOf i).toNat)
  case atStart => exact ⟨0, rfl, by omega, Below.refl _ _⟩
  case round =>
    obtain ⟨k, rfl, hkl, hB⟩ := hrel
    by_cases gk : k < l.length
    · obtain ⟨x, hx⟩ : ∃ s, l[k]? = some s := ⟨_, List.getElem?_eq_getElem gk⟩
      obtain ⟨b, off, rfl, hbw, d1⟩ := HK.out k _ hx
      obtain ⟨b2, off2, rfl, hbw2, d3⟩ := HK2.out k _ hx
      have c1 := (hB.cell (p := ⟨b, off + k, none⟩) hbw).trans d1
      have c3 := (hB.cell (p := ⟨b2, off2 + k, none⟩) hbw2).trans d3
      have i1 : (k : Int) < (l.length : Int) := by omega
      have i0 : (0 : Int) ≤ (k : Int) := by omega
      have t1 : (x != x) = false := by simp
      clear d1 d3 hx
      go_wp2_with fail
      go_quiet (fail)
      go_wp2_with fail
      go_roundw
      case rel => exact ⟨k + 1, by simp, by omega, below_drewN hB _⟩
      case measure => simp [intOf]; omega
    · have i1 : ¬ (k : Int) < (l.length : Int) := by omega
      go_wp2_with fail
      go_ret
      exact ⟨rfl, hB⟩
set_option maxRecDepth 100000 in
set_option maxHeartbeats 1000000 in
theorem cloneD (l : List Bd) (hl : l.length ≤ 1000000) (v : Value) (w : World) (h : ReadsD w v l) : Calls Try.prog 25 #[v] w (LaidD w l) := by
  obtain ⟨i0, hi, hz0, hz1, hz2⟩ := info_parts8 infoBand
  have hh := h
  obtain ⟨A, c, rfl, hc, hk⟩ := h
  have HK := Lib.hid hk
  have HH := Lib.hid hh
  clear hk hh
  have q : ∀ (w : World) (a : Option Addr) (n c n' c' : Nat), (binOp .eql 22 (.slice a n c) (.slice none n' c')).run Try.prog w = .ok (.bool a.isNone) w := fun w a n c n' c' => Lib.run_eql_slice_nil w _ _ a n c n' c' Try.underlying22
  cases A with
  | none =>
    have e : l = [] := by
      cases l with
      | nil => rfl
      | cons x l' =>
        obtain ⟨b, off, e1, _⟩ := HK.out 0 x rfl
        cases e1
    subst e
    go_enter Try.func25, Try.ntmps25
    go_wp2_with fail
    go_ret
    exact ⟨_, rfl, Below.refl _ _, World.ownsRow_nil _ _ _ _⟩
  | some ad =>
    have FL := Lib.hid (flatD_length l)
    go_enter Try.func25, Try.ntmps25
    go_wp2_with (at_builtin; refine wpList_append_own _ rfl _ _ 22 rfl w.heap.size 36 i0 (.agg #[.int .i64 0, .int .i64 0, .int .i64 0]) 3 24 Try.underlying22 hi hz0 hz1 hz2 rfl (by decide) _ _ _ rfl (World.ownsRow_made w #[] 0 (Nat.le_refl _) (Nat.zero_le _) rfl) ad l.length c (flatD l) rfl ?qc1 ?qc2 ?qc3 ?qc4 ?qc5 ?qc6 ?_)
    case qc1 => exact FL.out
    case qc2 => exact reads_flatD (HH.out.below (below_alloc w _))
    case qc3 => exact flatD_one l
    case qc4 => unfold maxLen; omega
    case qc5 => omega
    case qc6 => simp
    intro v' w1 hown hgrow _
    clear HH HK q
    go_wp2_with fail
    go_ret
    exact ⟨v', rfl, ((Below.refl _ w).alloc (Nat.le_refl _) _).grown hgrow (by simp) (by intro k hk; simp [Value.ownBlock] at hk; omega), by simpa using hown⟩
set_option maxRecDepth 100000 in
set_option maxHeartbeats 1000000 in
theorem few_any (l : List Bd) (hl : l.length ≤ 9223372036854775807) (v : Value) (w : World) (h : ReadsD w v l) : Calls Try.prog 11 #[v] w (LaidD w (l.take 257)) := by
  have hr := h
  obtain ⟨A, c, rfl, hc, _⟩ := h
  by_cases g : l.length ≤ 257
  · have CL := Lib.hid (cloneD l (by omega) _ w hr)
    have hm : min (l.length : Int) 257 = (l.length : Int) := by omega
    have i1 : (l.length : Int) ≤ (c : Int) := by omega
    rw [List.take_of_length_le g]
    clear hr g hl
    go_enter Try.func11, Try.ntmps11
    go_wp2_with fail
    refine CL.out.mono ?_
    rintro e w1 ⟨x, rfl, hb, ho⟩
    have HO := Lib.hid ho
    clear ho
    go_wp2_with fail
    go_ret
    exact ⟨_, rfl, hb, HO.out⟩
  · have hl2 : (l.take 257).length = 257 := by rw [List.length_take]; omega
    have CL := Lib.hid (cloneD (l.take 257) (by omega) (.slice A 257 c) w (readsD_take hr 257 (by omega)))
    have hm : min (l.length : Int) 257 = 257 := by omega
    have i1 : (257 : Int) ≤ (c : Int) := by omega
    have i2 : 257 ≤ c := by omega
    clear hr hl2
    generalize l.take 257 = m at *
    go_enter Try.func11, Try.ntmps11
    go_wp2_with fail
    refine CL.out.mono ?_
    rintro e w1 ⟨x, rfl, hb, ho⟩
    have HO := Lib.hid ho
    clear ho
    go_wp2_with fail
    go_ret
    exact ⟨_, rfl, hb, HO.out⟩
end Go.Proofs.Ytmkminaipeodnaa.P8
