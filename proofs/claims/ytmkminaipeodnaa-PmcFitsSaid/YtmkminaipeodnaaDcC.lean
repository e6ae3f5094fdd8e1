/-
  Layer 8: the document's own answers: Common, walked. Conditions: those written at each fact.
-/
import Derived.Test.YtmkminaipeodnaaDcB
namespace Go.Proofs.Ytmkminaipeodnaa.P8
open Go.RowKit Go.Shelf

/-- The blocks of the document's Common: its result, and what has been found. -/
abbrev outL (B : Nat) (x y : Int) : List (Nat × Nat × Value) := [(B, 0, .int .i64 0), (B, 1, .int .i64 0), (B + 1, 0, .int .i64 x), (B + 1, 1, .int .i64 y)]
theorem outL_set0 {w W : World} {x y u : Int} (h : Keeps w (outL w.heap.size x y) W) : Keeps w (outL w.heap.size u y) (W.setCell ⟨w.heap.size + 1, 0, none⟩ (.int .i64 u)) := by
  obtain ⟨hb, ⟨a0, b0, c0⟩, ⟨a1, b1, c1⟩, ⟨a2, b2, c2⟩, ⟨a3, b3, c3⟩, _⟩ := h
  exact ⟨hb.setCell (p := ⟨w.heap.size + 1, 0, none⟩) (by simp) _, ⟨by simpa using a0, off_cell (by simp) b0, by simpa using c0⟩, ⟨by simpa using a1, off_cell (by simp) b1, by simpa using c1⟩,
    ⟨by simpa using a2, World.cell?_setCell_same' _ _ _ (by rw [b2]; rfl), by simpa using c2⟩, ⟨by simpa using a3, off_cell (by simp) b3, by simpa using c3⟩, trivial⟩
theorem outL_set1 {w W : World} {x y u : Int} (h : Keeps w (outL w.heap.size x y) W) : Keeps w (outL w.heap.size x u) (W.setCell ⟨w.heap.size + 1, 1, none⟩ (.int .i64 u)) := by
  obtain ⟨hb, ⟨a0, b0, c0⟩, ⟨a1, b1, c1⟩, ⟨a2, b2, c2⟩, ⟨a3, b3, c3⟩, _⟩ := h
  exact ⟨hb.setCell (p := ⟨w.heap.size + 1, 1, none⟩) (by simp) _, ⟨by simpa using a0, off_cell (by simp) b0, by simpa using c0⟩, ⟨by simpa using a1, off_cell (by simp) b1, by simpa using c1⟩,
    ⟨by simpa using a2, off_cell (by simp) b2, by simpa using c2⟩, ⟨by simpa using a3, World.cell?_setCell_same' _ _ _ (by rw [b3]; rfl), by simpa using c3⟩, trivial⟩
set_option maxRecDepth 100000 in
set_option maxHeartbeats 4000000 in
theorem refCommon_any (l : List Bd) (hl : l.length ≤ 1000000) (hR : ∀ b ∈ l, BdOk b) (hne : l ≠ []) (v : Value) (w : World) (h : ReadsD w v l) : Calls Try.prog 17 #[v] w (Ret w (.tuple #[spV (refLo l) (refHi l), .bool (allD l)])) := by
  have hr := h
  obtain ⟨A, c, rfl, _, hk⟩ := h
  have HK := Lib.hid hk
  have HT := Lib.hid (fun x W (hb : Below w.heap.size w W) => refThrough_any l hl x _ W (hr.below hb))
  have HN := Lib.hid (fun k p x y hF b => @Found.next l k p x y hF hR b)
  have HE := Lib.hid (fun p x y hF => @Found.end l p x y hF hR hne)
  clear hk hR hne hr
  generalize refLo l = X at *
  generalize refHi l = Y at *
  generalize allD l = P at *
  go_enter Try.func17, Try.ntmps17
  go_wp2_with fail
  have hH0 : Keeps w (outL w.heap.size 0 0) ((w.alloc (.cells #[.int .i64 0, .int .i64 0] 26)).alloc (.cells #[.int .i64 0, .int .i64 0] 26)) := by
    refine ⟨((Below.refl _ w).alloc (Nat.le_refl _) _).alloc (by simp) _, ?_⟩
    simp [Cells, go_sem]
  have HH0 := Lib.hid hH0
  clear hH0
  go_loopw [5, 10] (fun o i wr => ∃ (p : Bool) (k : Nat) (x y : Int), o = .bool p ∧ i = .int .i64 k ∧ k ≤ l.length ∧ Hid (Found l k p x y) ∧ Hid (Keeps w (outL w.heap.size x y) wr)) (fun _ i _ => l.length - (intOf i).toNat)
  case atStart => exact ⟨false, 0, 0, 0, rfl, rfl, by omega, Lib.hid (Found.none l), HH0⟩
  case round =>
    obtain ⟨p, k, x, y, rfl, rfl, hkl, hF, hH⟩ := hrel
    clear HH0
    by_cases gk : k < l.length
    · obtain ⟨⟨t, a, d⟩, hx⟩ : ∃ s, l[k]? = some s := ⟨_, List.getElem?_eq_getElem gk⟩
      obtain ⟨bb, off, rfl, hbw, hc1, hc2, hc3⟩ := HK.out k _ hx
      have c1 := (hH.out.1.cell (p := ⟨bb, off + k * 3, none⟩) hbw).trans hc1
      have c2 := (hH.out.1.cell (p := ⟨bb, off + k * 3 + 1, none⟩) hbw).trans hc2
      have c3 := (hH.out.1.cell (p := ⟨bb, off + k * 3 + 2, none⟩) hbw).trans hc3
      simp only at c1 c2 c3
      have i1 : (k : Int) < (l.length : Int) := by omega
      have i0 : (0 : Int) ≤ (k : Int) := by omega
      have hF2 := HN.out k p x y hF.out _ hx
      simp only at hF2
      have hw1 : w.heap.size + 1 < wr.heap.size := hH.out.2.2.2.1.1
      have T1 := Lib.hid (HT.out a)
      have T2 := Lib.hid (HT.out d)
      have hHA := (hH.out.alloc (.cells #[.int .i64 t, .int .i64 a, .int .i64 d] 36)).app (newK3 (hH.out.alloc (.cells #[.int .i64 t, .int .i64 a, .int .i64 d] 36)))
      have HHA := Lib.hid hHA
      clear hc1 hc2 hc3 hx hF hHA HN HE
      cases g1 : thruB l a
      · rw [g1] at T1 hF2
        cases g2 : thruB l d
        · rw [g2] at T2 hF2
          have HF := Lib.hid hF2
          clear hF2 g1 g2
          go_wp2_with fail
          refine (T1.out _ HHA.out.1).mono ?_
          rintro e w5 ⟨rfl, hb5⟩
          have hH5 := HHA.out.next hb5
          obtain ⟨⟨a0, b0, e0⟩, ⟨a1, b1, e1⟩, ⟨a2, b2, e2⟩, ⟨a3, b3, e3⟩, ⟨a4, b4, e4⟩, ⟨a5, b5, e5⟩, ⟨a6, b6, e6⟩, _⟩ := hH5.2
          have hO5 : Keeps w (outL w.heap.size x y) w5 := ⟨hH5.1, ⟨a0, b0, e0⟩, ⟨a1, b1, e1⟩, ⟨a2, b2, e2⟩, ⟨a3, b3, e3⟩, trivial⟩
          have HO5 := Lib.hid hO5
          clear hb5 hO5 hH5 c1 c2 c3
          go_wp2_with fail
          refine (T2.out _ HO5.out.1).mono ?_
          rintro e w7 ⟨rfl, hb7⟩
          have hO7 := HO5.out.next hb7
          have b7 := (hb7.cell (p := ⟨wr.heap.size, 2, none⟩) a6).trans b6
          obtain ⟨⟨m0, n0, o0⟩, ⟨m1, n1, o1⟩, ⟨m2, n2, o2⟩, ⟨m3, n3, o3⟩, _⟩ := hO7.2
          have HO7 := Lib.hid hO7
          clear hb7 hO7
          go_wp2_with fail
          go_roundw
          case rel => exact ⟨p, k + 1, x, y, rfl, by simp, gk, HF, HO7⟩
          case measure => exact index_less gk
        · rw [g2] at T2 hF2
          have HF := Lib.hid hF2
          clear hF2 g1 g2
          go_wp2_with fail
          refine (T1.out _ HHA.out.1).mono ?_
          rintro e w5 ⟨rfl, hb5⟩
          have hH5 := HHA.out.next hb5
          obtain ⟨⟨a0, b0, e0⟩, ⟨a1, b1, e1⟩, ⟨a2, b2, e2⟩, ⟨a3, b3, e3⟩, ⟨a4, b4, e4⟩, ⟨a5, b5, e5⟩, ⟨a6, b6, e6⟩, _⟩ := hH5.2
          have hO5 : Keeps w (outL w.heap.size x y) w5 := ⟨hH5.1, ⟨a0, b0, e0⟩, ⟨a1, b1, e1⟩, ⟨a2, b2, e2⟩, ⟨a3, b3, e3⟩, trivial⟩
          have HO5 := Lib.hid hO5
          clear hb5 hO5 hH5 c1 c2 c3
          go_wp2_with fail
          refine (T2.out _ HO5.out.1).mono ?_
          rintro e w7 ⟨rfl, hb7⟩
          have hO7 := HO5.out.next hb7
          have b7 := (hb7.cell (p := ⟨wr.heap.size, 2, none⟩) a6).trans b6
          obtain ⟨⟨m0, n0, o0⟩, ⟨m1, n1, o1⟩, ⟨m2, n2, o2⟩, ⟨m3, n3, o3⟩, _⟩ := hO7.2
          have HO7 := Lib.hid hO7
          have HO8 := Lib.hid (outL_set1 (u := d) HO7.out)
          clear hb7 hO7
          go_wp2_with fail
          go_roundw
          case rel => exact ⟨p, k + 1, x, d, rfl, by simp, gk, HF, HO8⟩
          case measure => exact index_less gk
      · rw [g1] at T1 hF2
        cases g2 : thruB l d
        · rw [g2] at T2 hF2
          have HF := Lib.hid hF2
          clear hF2 g1 g2
          go_wp2_with fail
          refine (T1.out _ HHA.out.1).mono ?_
          rintro e w5 ⟨rfl, hb5⟩
          have hH5 := HHA.out.next hb5
          obtain ⟨⟨a0, b0, e0⟩, ⟨a1, b1, e1⟩, ⟨a2, b2, e2⟩, ⟨a3, b3, e3⟩, ⟨a4, b4, e4⟩, ⟨a5, b5, e5⟩, ⟨a6, b6, e6⟩, _⟩ := hH5.2
          have hO5 : Keeps w (outL w.heap.size x y) w5 := ⟨hH5.1, ⟨a0, b0, e0⟩, ⟨a1, b1, e1⟩, ⟨a2, b2, e2⟩, ⟨a3, b3, e3⟩, trivial⟩
          have HO5 := Lib.hid hO5
          clear hb5 hO5 hH5 c1 c2 c3
          have q1 : ∀ u, (w5.setCell ⟨w.heap.size + 1, 0, none⟩ u).cell? ⟨wr.heap.size, 2, none⟩ = some (.int .i64 d) := fun u => off_cell (by first | (simp; done) | (simp; omega)) b6
          have HO6 := Lib.hid (outL_set0 (u := a) HO5.out)
          go_wp2_with fail
          refine (T2.out _ HO6.out.1).mono ?_
          rintro e w7 ⟨rfl, hb7⟩
          have hO7 := HO6.out.next hb7
          have z6 : (w5.setCell ⟨w.heap.size + 1, 0, none⟩ (.int .i64 a)).heap.size = w5.heap.size := by simp [World.setCell]
          have b7 := (hb7.cell (p := ⟨wr.heap.size, 2, none⟩) (by rw [z6]; exact a6)).trans (q1 _)
          obtain ⟨⟨m0, n0, o0⟩, ⟨m1, n1, o1⟩, ⟨m2, n2, o2⟩, ⟨m3, n3, o3⟩, _⟩ := hO7.2
          have HO7 := Lib.hid hO7
          clear hb7 hO7
          go_wp2_with fail
          go_roundw
          case rel => exact ⟨true, k + 1, a, y, rfl, by simp, gk, HF, HO7⟩
          case measure => exact index_less gk
        · rw [g2] at T2 hF2
          have HF := Lib.hid hF2
          clear hF2 g1 g2
          go_wp2_with fail
          refine (T1.out _ HHA.out.1).mono ?_
          rintro e w5 ⟨rfl, hb5⟩
          have hH5 := HHA.out.next hb5
          obtain ⟨⟨a0, b0, e0⟩, ⟨a1, b1, e1⟩, ⟨a2, b2, e2⟩, ⟨a3, b3, e3⟩, ⟨a4, b4, e4⟩, ⟨a5, b5, e5⟩, ⟨a6, b6, e6⟩, _⟩ := hH5.2
          have hO5 : Keeps w (outL w.heap.size x y) w5 := ⟨hH5.1, ⟨a0, b0, e0⟩, ⟨a1, b1, e1⟩, ⟨a2, b2, e2⟩, ⟨a3, b3, e3⟩, trivial⟩
          have HO5 := Lib.hid hO5
          clear hb5 hO5 hH5 c1 c2 c3
          have q1 : ∀ u, (w5.setCell ⟨w.heap.size + 1, 0, none⟩ u).cell? ⟨wr.heap.size, 2, none⟩ = some (.int .i64 d) := fun u => off_cell (by first | (simp; done) | (simp; omega)) b6
          have HO6 := Lib.hid (outL_set0 (u := a) HO5.out)
          go_wp2_with fail
          refine (T2.out _ HO6.out.1).mono ?_
          rintro e w7 ⟨rfl, hb7⟩
          have hO7 := HO6.out.next hb7
          have z6 : (w5.setCell ⟨w.heap.size + 1, 0, none⟩ (.int .i64 a)).heap.size = w5.heap.size := by simp [World.setCell]
          have b7 := (hb7.cell (p := ⟨wr.heap.size, 2, none⟩) (by rw [z6]; exact a6)).trans (q1 _)
          obtain ⟨⟨m0, n0, o0⟩, ⟨m1, n1, o1⟩, ⟨m2, n2, o2⟩, ⟨m3, n3, o3⟩, _⟩ := hO7.2
          have HO7 := Lib.hid hO7
          have HO8 := Lib.hid (outL_set1 (u := d) HO7.out)
          clear hb7 hO7
          go_wp2_with fail
          go_roundw
          case rel => exact ⟨true, k + 1, a, d, rfl, by simp, gk, HF, HO8⟩
          case measure => exact index_less gk
    · have hkk : k = l.length := by omega
      have hF2 := hF.out
      rw [hkk] at hF2
      have E := Lib.hid (HE.out p x y hF2)
      have i1 : ¬ (k : Int) < (l.length : Int) := by omega
      obtain ⟨⟨kz0, kc0, kf0⟩, ⟨kz1, kc1, kf1⟩, ⟨kz2, kc2, kf2⟩, ⟨kz3, kc3, kf3⟩, _⟩ := hH.out.2
      have hB := Lib.hid hH.out.1
      clear hF hF2 HN HE hkk hH
      go_wp2_with fail
      obtain ⟨d0, d1⟩ := set2 (W := wr) (B := w.heap.size) (u0 := .int .i64 x) (u1 := .int .i64 y) kc0 kc1
      refine bodyPost_ret (v := .tuple #[spV x y, .bool p]) (by simp [results, Try.results17, go_sem, d0, d1]) rfl ?_
      exact ⟨by rw [E.out.1, E.out.2.1, E.out.2.2], (hB.out.setCell (p := ⟨w.heap.size, 0, none⟩) (Nat.le_refl _) _).setCell (p := ⟨w.heap.size, 1, none⟩) (Nat.le_refl _) _⟩
end Go.Proofs.Ytmkminaipeodnaa.P8
