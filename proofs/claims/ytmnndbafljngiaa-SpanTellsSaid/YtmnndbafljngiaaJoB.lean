/-
  Layer 4: the law SpanJoins, more of its parts: the document's All, Lows, Highs, and two rows compared. Conditions: those written at each fact.
-/
import Derived.Test.YtmnndbafljngiaaHol
namespace Go.Proofs.Ytmnndbafljngiaa
open Go.RowKit

theorem right_any (lo hi : Int) (w : World) : Calls Try.prog 12 #[spV lo hi] w (Ret w (.bool (decide (lo ≤ hi)))) := by
  go_enter Try.func12, Try.ntmps12
  go_wp2
  go_ret
  exact ⟨rfl, by go_grown⟩
set_option maxRecDepth 100000 in
set_option maxHeartbeats 2000000 in
theorem all_any (l : List (Int × Int)) (hl : l.length ≤ 10000000) (v : Value) (w : World) (h : ReadsS w v l) : Calls Try.prog 35 #[v] w (Ret w (.bool (!badS l))) := by
  obtain ⟨A, c, rfl, hk⟩ := h
  have HK := Lib.hid hk
  obtain ⟨R, hR⟩ : ∃ R, R = !badS l := ⟨_, rfl⟩
  rw [← hR]
  replace hR := Lib.hid hR
  clear hk
  go_enter Try.func35, Try.ntmps35
  go_wp2_with fail
  go_loopw [7] (fun i wr => ∃ k : Nat, i = .int .i64 k ∧ k ≤ l.length ∧ Hid (badS (l.take k) = false) ∧ Below w.heap.size w wr) (fun i _ => l.length - (intOf i).toNat)
  case atStart => exact ⟨0, rfl, by omega, Lib.hid (by simp [badS]), Below.refl _ _⟩
  case round =>
    obtain ⟨k, rfl, hkl, hT, hB⟩ := hrel
    by_cases gk : k < l.length
    · obtain ⟨⟨x, y⟩, hx⟩ : ∃ s, l[k]? = some s := ⟨_, List.getElem?_eq_getElem gk⟩
      obtain ⟨bb, off, rfl, hbw, hc1, hc2⟩ := HK.out k _ hx
      have c1 := (hB.cell (p := ⟨bb, off + k * 2, none⟩) hbw).trans hc1
      have c2 := (hB.cell (p := ⟨bb, off + k * 2 + 1, none⟩) hbw).trans hc2
      simp only at c1 c2
      have i1 : (k : Int) < (l.length : Int) := by omega
      have i0 : (0 : Int) ≤ (k : Int) := by omega
      have HX := Lib.hid hx
      clear hc1 hc2 hx
      have RI := Lib.hid (fun W => right_any x y W)
      by_cases gx : y < x
      · rw [decide_eq_false (by omega)] at RI
        have BH := Lib.hid (badS_here HX.out gx)
        go_wp2_with fail
        refine (RI.out _).mono ?_
        rintro en w1 ⟨rfl, hb⟩
        go_wp2_with fail
        go_ret
        exact ⟨by rw [hR.out, BH.out]; rfl, below_then (hB.alloc hB.size _) hb⟩
      · rw [decide_eq_true (by omega)] at RI
        have BN := Lib.hid (badS_next HX.out hT.out gx)
        clear hT
        go_wp2_with fail
        refine (RI.out _).mono ?_
        rintro en w1 ⟨rfl, hb⟩
        have HB := Lib.hid (below_then (hB.alloc hB.size _) hb)
        clear hb
        go_wp2_with fail
        go_roundw
        case rel => exact ⟨k + 1, by simp, by omega, BN, HB.out⟩
        case measure => simp [intOf]; omega
    · have BT : badS l = false := by have := hT.out; rwa [List.take_of_length_le (by omega)] at this
      have i1 : ¬ (k : Int) < (l.length : Int) := by omega
      have HR := Lib.hid (show R = true by rw [hR.out, BT]; rfl)
      clear hT BT
      go_wp2_with fail
      go_ret
      exact ⟨by rw [HR.out]; rfl, hB⟩
set_option maxRecDepth 100000 in
set_option maxHeartbeats 2000000 in
theorem equalS (l : List (Int × Int)) (hl : l.length ≤ 10000000) (v v2 : Value) (w : World) (h : ReadsS w v l) (h2 : ReadsS w v2 l) : Calls Try.prog 32 #[v, v2] w (Ret w (.bool true)) := by
  obtain ⟨A, c, rfl, hk⟩ := h
  obtain ⟨A2, c2, rfl, hk2⟩ := h2
  have HK := Lib.hid hk
  have HK2 := Lib.hid hk2
  clear hk hk2
  have t' : ((l.length : Int) != (l.length : Int)) = false := by simp
  go_enter Try.func32, Try.ntmps32
  go_wp2_with fail
  go_loopw [13] (fun i wr => ∃ k : Nat, i = .int .i64 k ∧ k ≤ l.length ∧ Below w.heap.size w wr) (fun i _ => l.length - (intOf i).toNat)
  case atStart => exact ⟨0, rfl, by omega, Below.refl _ _⟩
  case round =>
    obtain ⟨k, rfl, hkl, hB⟩ := hrel
    by_cases gk : k < l.length
    · obtain ⟨⟨x, y⟩, hx⟩ : ∃ s, l[k]? = some s := ⟨_, List.getElem?_eq_getElem gk⟩
      obtain ⟨b, off, rfl, hbw, d1, d2⟩ := HK.out k _ hx
      obtain ⟨b2, off2, rfl, hbw2, d3, d4⟩ := HK2.out k _ hx
      have c1 := (hB.cell (p := ⟨b, off + k * 2, none⟩) hbw).trans d1
      have c2 := (hB.cell (p := ⟨b, off + k * 2 + 1, none⟩) hbw).trans d2
      have c3 := (hB.cell (p := ⟨b2, off2 + k * 2, none⟩) hbw2).trans d3
      have c4 := (hB.cell (p := ⟨b2, off2 + k * 2 + 1, none⟩) hbw2).trans d4
      simp only at c1 c2 c3 c4
      have i1 : (k : Int) < (l.length : Int) := by omega
      have i0 : (0 : Int) ≤ (k : Int) := by omega
      clear d1 d2 d3 d4 hx
      go_wp2_with fail
      go_quiet (fail)
      go_wp2_with fail
      go_roundw
      case rel => exact ⟨k + 1, by simp, by omega, drewN_below hB _⟩
      case measure => simp [intOf]; omega
    · have i1 : ¬ (k : Int) < (l.length : Int) := by omega
      go_wp2_with fail
      go_ret
      exact ⟨rfl, hB⟩
set_option maxRecDepth 100000 in
set_option maxHeartbeats 2000000 in
theorem lows_any (l : List (Int × Int)) (hl : l.length ≤ 10000000) (hne : 0 < l.length) (a0 a1 b0 b1 : Int) (hE : Ends l a0 a1 b0 b1) (v : Value) (w : World) (h : ReadsS w v l) : Calls Try.prog 25 #[v] w (Ret w (.tuple #[.int .i64 a0, .int .i64 b0])) := by
  obtain ⟨A, c, rfl, hk⟩ := h
  obtain ⟨⟨x0, y0⟩, hs0⟩ : ∃ s, l[0]? = some s := ⟨_, List.getElem?_eq_getElem hne⟩
  obtain ⟨bb, off, rfl, hbw, d1, d2⟩ := hk 0 _ hs0
  simp only [Nat.zero_mul, Nat.add_zero] at d1 d2
  have HK := Lib.hid hk
  have HS := Lib.hid (List.mem_of_getElem? hs0)
  have HE := Lib.hid hE
  have hn1 : (0 : Int) < (l.length : Int) := by omega
  clear hk hs0 hE
  go_enter Try.func25, Try.ntmps25
  go_wp2_with fail
  go_quiet (fail)
  go_wp2_with fail
  go_loopw [4, 5, 18] (fun u v i wr => ∃ (k : Nat) (m M : Int), u = .int .i64 m ∧ v = .int .i64 M ∧ i = .int .i64 k ∧ k ≤ l.length ∧ Hid ((∃ s ∈ l, s.1 = m) ∧ (∃ s ∈ l, s.1 = M) ∧ ∀ s ∈ l.take k, m ≤ s.1 ∧ s.1 ≤ M) ∧ Below w.heap.size w wr) (fun _ _ i _ => l.length - (intOf i).toNat)
  case atStart => exact ⟨0, _, _, rfl, rfl, rfl, by omega, Lib.hid ⟨⟨_, HS.out, rfl⟩, ⟨_, HS.out, rfl⟩, by simp⟩, drewN_below (Below.refl _ _) _⟩
  case round =>
    obtain ⟨k, m, M, rfl, rfl, rfl, hkl, HM, hB⟩ := hrel
    by_cases gk : k < l.length
    · obtain ⟨⟨x, y⟩, hx⟩ : ∃ s, l[k]? = some s := ⟨_, List.getElem?_eq_getElem gk⟩
      obtain ⟨b2, off2, e2, hbw2, d3, d4⟩ := HK.out k _ hx
      injection e2 with e2
      injection e2 with e2 e3 e4
      subst e2 e3
      have c1 := (hB.cell (p := ⟨bb, off + k * 2, none⟩) hbw2).trans d3
      have c2 := (hB.cell (p := ⟨bb, off + k * 2 + 1, none⟩) hbw2).trans d4
      simp only at c1 c2
      have i1 : (k : Int) < (l.length : Int) := by omega
      have i0 : (0 : Int) ≤ (k : Int) := by omega
      have HX := Lib.hid (List.mem_of_getElem? hx)
      have HT : Hid (∀ s ∈ l.take (k + 1), s ∈ l.take k ∨ s = (x, y)) := Lib.hid fun s h' => by
        obtain ⟨a1, e1⟩ := List.getElem?_eq_some_iff.1 hx
        rw [List.take_succ_eq_append_getElem a1, e1] at h'
        simpa using h'
      clear d3 d4 hx
      by_cases g1 : x < m
      all_goals by_cases g2 : M < x
      all_goals
        go_wp2_with fail
        go_roundw
        case rel =>
          obtain ⟨p1, p2, p3⟩ := HM.out
          refine ⟨k + 1, _, _, rfl, rfl, by simp, by omega, Lib.hid ⟨?_, ?_, fun s h' => ?_⟩, hB.alloc hB.size _⟩
          · first | exact ⟨_, HX.out, rfl⟩ | exact p1
          · first | exact ⟨_, HX.out, rfl⟩ | exact p2
          · rcases HT.out s h' with h3 | rfl
            · have := p3 s h3
              omega
            · simp only
              omega
        case measure => simp [intOf]; omega
    · have i1 : ¬ (k : Int) < (l.length : Int) := by omega
      obtain ⟨⟨s1, h1, e1⟩, ⟨s2, h2, e2⟩, p3⟩ := HM.out
      rw [List.take_of_length_le (by omega)] at p3
      obtain ⟨t1, f1, g1⟩ := HE.out.a0
      obtain ⟨t2, f2, g2⟩ := HE.out.b0
      have q1 := HE.out.all _ h1
      have q2 := HE.out.all _ h2
      have q3 := p3 _ f1
      have q4 := p3 _ f2
      have em : m = a0 := by omega
      have eM : M = b0 := by omega
      clear HM h1 h2 p3 f1 f2 q1 q2 q3 q4 e1 e2 g1 g2
      subst em eM
      go_wp2_with fail
      go_ret2
      exact ⟨rfl, hB⟩
set_option maxRecDepth 100000 in
set_option maxHeartbeats 2000000 in
theorem highs_any (l : List (Int × Int)) (hl : l.length ≤ 10000000) (hne : 0 < l.length) (a0 a1 b0 b1 : Int) (hE : Ends l a0 a1 b0 b1) (v : Value) (w : World) (h : ReadsS w v l) : Calls Try.prog 26 #[v] w (Ret w (.tuple #[.int .i64 a1, .int .i64 b1])) := by
  obtain ⟨A, c, rfl, hk⟩ := h
  obtain ⟨⟨x0, y0⟩, hs0⟩ : ∃ s, l[0]? = some s := ⟨_, List.getElem?_eq_getElem hne⟩
  obtain ⟨bb, off, rfl, hbw, d1, d2⟩ := hk 0 _ hs0
  simp only [Nat.zero_mul, Nat.add_zero] at d1 d2
  have HK := Lib.hid hk
  have HS := Lib.hid (List.mem_of_getElem? hs0)
  have HE := Lib.hid hE
  have hn1 : (0 : Int) < (l.length : Int) := by omega
  clear hk hs0 hE
  go_enter Try.func26, Try.ntmps26
  go_wp2_with fail
  go_quiet (fail)
  go_wp2_with fail
  go_loopw [4, 5, 18] (fun u v i wr => ∃ (k : Nat) (m M : Int), u = .int .i64 m ∧ v = .int .i64 M ∧ i = .int .i64 k ∧ k ≤ l.length ∧ Hid ((∃ s ∈ l, s.2 = m) ∧ (∃ s ∈ l, s.2 = M) ∧ ∀ s ∈ l.take k, m ≤ s.2 ∧ s.2 ≤ M) ∧ Below w.heap.size w wr) (fun _ _ i _ => l.length - (intOf i).toNat)
  case atStart => exact ⟨0, _, _, rfl, rfl, rfl, by omega, Lib.hid ⟨⟨_, HS.out, rfl⟩, ⟨_, HS.out, rfl⟩, by simp⟩, drewN_below (Below.refl _ _) _⟩
  case round =>
    obtain ⟨k, m, M, rfl, rfl, rfl, hkl, HM, hB⟩ := hrel
    by_cases gk : k < l.length
    · obtain ⟨⟨x, y⟩, hx⟩ : ∃ s, l[k]? = some s := ⟨_, List.getElem?_eq_getElem gk⟩
      obtain ⟨b2, off2, e2, hbw2, d3, d4⟩ := HK.out k _ hx
      injection e2 with e2
      injection e2 with e2 e3 e4
      subst e2 e3
      have c1 := (hB.cell (p := ⟨bb, off + k * 2, none⟩) hbw2).trans d3
      have c2 := (hB.cell (p := ⟨bb, off + k * 2 + 1, none⟩) hbw2).trans d4
      simp only at c1 c2
      have i1 : (k : Int) < (l.length : Int) := by omega
      have i0 : (0 : Int) ≤ (k : Int) := by omega
      have HX := Lib.hid (List.mem_of_getElem? hx)
      have HT : Hid (∀ s ∈ l.take (k + 1), s ∈ l.take k ∨ s = (x, y)) := Lib.hid fun s h' => by
        obtain ⟨a1, e1⟩ := List.getElem?_eq_some_iff.1 hx
        rw [List.take_succ_eq_append_getElem a1, e1] at h'
        simpa using h'
      clear d3 d4 hx
      by_cases g1 : y < m
      all_goals by_cases g2 : M < y
      all_goals
        go_wp2_with fail
        go_roundw
        case rel =>
          obtain ⟨p1, p2, p3⟩ := HM.out
          refine ⟨k + 1, _, _, rfl, rfl, by simp, by omega, Lib.hid ⟨?_, ?_, fun s h' => ?_⟩, hB.alloc hB.size _⟩
          · first | exact ⟨_, HX.out, rfl⟩ | exact p1
          · first | exact ⟨_, HX.out, rfl⟩ | exact p2
          · rcases HT.out s h' with h3 | rfl
            · have := p3 s h3
              omega
            · simp only
              omega
        case measure => simp [intOf]; omega
    · have i1 : ¬ (k : Int) < (l.length : Int) := by omega
      obtain ⟨⟨s1, h1, e1⟩, ⟨s2, h2, e2⟩, p3⟩ := HM.out
      rw [List.take_of_length_le (by omega)] at p3
      obtain ⟨t1, f1, g1⟩ := HE.out.a1
      obtain ⟨t2, f2, g2⟩ := HE.out.b1
      have q1 := HE.out.all _ h1
      have q2 := HE.out.all _ h2
      have q3 := p3 _ f1
      have q4 := p3 _ f2
      have em : m = a1 := by omega
      have eM : M = b1 := by omega
      clear HM h1 h2 p3 f1 f2 q1 q2 q3 q4 e1 e2 g1 g2
      subst em eM
      go_wp2_with fail
      go_ret2
      exact ⟨rfl, hB⟩
end Go.Proofs.Ytmnndbafljngiaa
