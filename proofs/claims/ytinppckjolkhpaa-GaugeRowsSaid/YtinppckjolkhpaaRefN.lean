/-
  The document's own answers, fourteenth part: how often a number has another one, rounded down, and what is left. Conditions: those written at each fact.
-/
import Derived.Test.YtinppckjolkhpaaRefM
namespace Go.Proofs.Ytinppckjolkhpaa
open Go.RowKit

/-- Two rows that a call hands back. -/
def RetNN (w : World) (q r : Nat) (e : Ending) (w' : World) : Prop := ∃ A n c A' c', e = .returned (.tuple #[.slice A n c, .slice A' (sizeL r).length c']) ∧ Below w.heap.size w w' ∧ Num w' (.slice A n c) q ∧ Num w' (.slice A' (sizeL r).length c') r
theorem retNN_of {w : World} {q r : Nat} {e : Ending} {w' : World} (h : GaveP w q r e w') : RetNN w q r e w' := by
  obtain ⟨u, v, rfl, hb, hq, hr⟩ := h
  obtain ⟨A, c, rfl, hc, hk⟩ := hq
  obtain ⟨A', c', rfl, hc', hk'⟩ := hr
  exact ⟨A, _, c, A', c', rfl, hb, ⟨A, c, rfl, hc, hk⟩, ⟨A', c', rfl, hc', hk'⟩⟩
/-- Two numbers that a call hands back. -/
def RetZZ (w : World) (x y : Int) (e : Ending) (w' : World) : Prop := ∃ b A n c b' A' n' c', e = .returned (.tuple #[.agg #[.bool b, .slice A n c], .agg #[.bool b', .slice A' n' c']]) ∧ Below w.heap.size w w' ∧
  NumZ w' (.agg #[.bool b, .slice A n c]) x ∧ NumZ w' (.agg #[.bool b', .slice A' n' c']) y

set_option maxRecDepth 100000 in
set_option maxHeartbeats 4000000 in
theorem div_plain (p p' : Bool) (A A' : Option Addr) (n c n' c' Q R : Nat) (x y : Int) (hp : (p && decide (0 < (sizeL R).length)) = false) (w : World)
    (PT : ∀ W, Below w.heap.size w W → Calls Try.prog 47 #[.slice A n c, .slice A' n' c'] W (RetNN W Q R))
    (M1 : ∀ u W, Num W u Q → Calls Try.prog 48 #[.bool p, u] W (RetZ W x)) (M2 : ∀ u W, Num W u R → Calls Try.prog 48 #[.bool false, u] W (RetZ W y)) :
    Calls Try.prog 29 #[.agg #[.bool p, .slice A n c], .agg #[.bool p', .slice A' n' c']] w (RetZZ w x y) := by
  replace PT := Lib.hid PT
  replace M1 := Lib.hid M1
  replace M2 := Lib.hid M2
  obtain ⟨lr, hlr⟩ : ∃ lr, (sizeL R).length = lr := ⟨_, rfl⟩
  have key : p = false ∨ p = true ∧ lr = 0 := by
    rw [hlr] at hp
    cases p
    · exact Or.inl rfl
    · right
      simp at hp
      exact ⟨rfl, by omega⟩
  replace hlr := Lib.hid hlr
  clear hp
  rcases key with rfl | ⟨rfl, rfl⟩
  · skip
    go_enter Try.func29, Try.ntmps29
    go_wp2_with fail
    refine (PT.out _ ?_).mono ?_
    · exact below_thru (below_thru (below_thru (below_alloc w _) (below_alloc _ _)) (below_alloc _ _)) (below_alloc _ _)
    rintro e w1 ⟨A1, n1, c1, A2, c2, rfl, hb1, hq1, hr1⟩
    rw [hlr.out] at hr1 ⊢
    have hHeld : Keeps w [(w.heap.size, 0, .bool false), (w.heap.size + 1 + 1, 0, .bool false), (w.heap.size + 1 + 1, 1, .slice none 0 0), (w.heap.size + 1 + 1 + 1, 0, .bool false), (w.heap.size + 1 + 1 + 1, 1, .slice none 0 0)] w1 := Keeps.next (by exact ⟨below_thru (below_thru (below_thru (below_alloc w _) (below_alloc _ _)) (below_alloc _ _)) (below_alloc _ _), ⟨by simp; omega, by simp [go_sem], by simp [go_sem]⟩, ⟨by simp, by simp [go_sem], by simp [go_sem]⟩, ⟨by simp, by simp [go_sem], by simp [go_sem]⟩, ⟨by simp, by simp [go_sem], by simp [go_sem]⟩, ⟨by simp, by simp [go_sem], by simp [go_sem]⟩, trivial⟩) hb1
    replace hq1 := Lib.hid hq1
    replace hr1 := Lib.hid hr1
    clear hb1
    obtain ⟨⟨kz0, kc0, kf0⟩, ⟨kz1, kc1, kf1⟩, ⟨kz2, kc2, kf2⟩, ⟨kz3, kc3, kf3⟩, ⟨kz4, kc4, kf4⟩, _⟩ := hHeld.2
    go_wp2_with fail
    refine (M1.out _ _ hq1.out).mono ?_
    rintro e w2 ⟨b6, A6, n6, c6, rfl, hb, hz6⟩
    have hr2 := Lib.hid (hr1.out.below hb)
    replace hz6 := Lib.hid hz6
    replace hHeld := hHeld.next hb
    clear hb kz0 kc0 kf0 kz1 kc1 kf1 kz2 kc2 kf2 kz3 kc3 kf3 kz4 kc4 kf4 hr1 hq1
    obtain ⟨⟨kz0, kc0, kf0⟩, ⟨kz1, kc1, kf1⟩, ⟨kz2, kc2, kf2⟩, ⟨kz3, kc3, kf3⟩, ⟨kz4, kc4, kf4⟩, _⟩ := hHeld.2
    go_wp2_with fail
    refine (M2.out _ _ hr2.out).mono ?_
    rintro e w3 ⟨b7, A7, n7, c7, rfl, hb, hz7⟩
    have hz63 := Lib.hid (hz6.out.below hb)
    replace hz7 := Lib.hid hz7
    replace hHeld := hHeld.next hb
    clear hb kz0 kc0 kf0 kz1 kc1 kf1 kz2 kc2 kf2 kz3 kc3 kf3 kz4 kc4 kf4 hr2 hz6
    obtain ⟨⟨kz0, kc0, kf0⟩, ⟨kz1, kc1, kf1⟩, ⟨kz2, kc2, kf2⟩, ⟨kz3, kc3, kf3⟩, ⟨kz4, kc4, kf4⟩, _⟩ := hHeld.2
    go_wp2_with fail
    obtain ⟨d0, d1⟩ := set2 (W := w3) (B := w.heap.size + 1 + 1) (u0 := .bool b6) (u1 := .slice A6 n6 c6) kc1 kc2
    have o0 : ((w3.setCell ⟨w.heap.size + 1 + 1, 0, none⟩ (.bool b6)).setCell ⟨w.heap.size + 1 + 1, 1, none⟩ (.slice A6 n6 c6)).cell? ⟨w.heap.size + 1 + 1 + 1, 0, none⟩ = some (.bool false) := off_cell (by simp) (off_cell (by simp) kc3)
    have o1 : ((w3.setCell ⟨w.heap.size + 1 + 1, 0, none⟩ (.bool b6)).setCell ⟨w.heap.size + 1 + 1, 1, none⟩ (.slice A6 n6 c6)).cell? ⟨w.heap.size + 1 + 1 + 1, 1, none⟩ = some (.slice none 0 0) := off_cell (by simp) (off_cell (by simp) kc4)
    obtain ⟨d2, d3⟩ := set2 (u0 := .bool b7) (u1 := .slice A7 n7 c7) o0 o1
    have d4 := off_cell (p := ⟨w.heap.size + 1 + 1 + 1, 1, none⟩) (u := .slice A7 n7 c7) (by simp) (off_cell (p := ⟨w.heap.size + 1 + 1 + 1, 0, none⟩) (u := .bool b7) (by simp) d0)
    have d5 := off_cell (p := ⟨w.heap.size + 1 + 1 + 1, 1, none⟩) (u := .slice A7 n7 c7) (by simp) (off_cell (p := ⟨w.heap.size + 1 + 1 + 1, 0, none⟩) (u := .bool b7) (by simp) d1)
    refine bodyPost_ret (v := .tuple #[.agg #[.bool b6, .slice A6 n6 c6], .agg #[.bool b7, .slice A7 n7 c7]]) (by simp [results, Try.results29, go_sem, d2, d3, d4, d5]) rfl ?_
    exact ⟨b6, A6, n6, c6, b7, A7, n7, c7, rfl, (((hHeld.1.setCell (p := ⟨w.heap.size + 1 + 1, 0, none⟩) (by simp; omega) _).setCell (p := ⟨w.heap.size + 1 + 1, 1, none⟩) (by simp; omega) _).setCell (p := ⟨w.heap.size + 1 + 1 + 1, 0, none⟩) (by simp; omega) _).setCell (p := ⟨w.heap.size + 1 + 1 + 1, 1, none⟩) (by simp; omega) _,
      (hz63.out.set2 kc1 kc2 _ _).set2 o0 o1 _ _, (hz7.out.set2 kc1 kc2 _ _).set2 o0 o1 _ _⟩
  · skip
    go_enter Try.func29, Try.ntmps29
    go_wp2_with fail
    refine (PT.out _ ?_).mono ?_
    · exact below_thru (below_thru (below_thru (below_alloc w _) (below_alloc _ _)) (below_alloc _ _)) (below_alloc _ _)
    rintro e w1 ⟨A1, n1, c1, A2, c2, rfl, hb1, hq1, hr1⟩
    rw [hlr.out] at hr1 ⊢
    have hHeld : Keeps w [(w.heap.size, 0, .bool true), (w.heap.size + 1 + 1, 0, .bool false), (w.heap.size + 1 + 1, 1, .slice none 0 0), (w.heap.size + 1 + 1 + 1, 0, .bool false), (w.heap.size + 1 + 1 + 1, 1, .slice none 0 0)] w1 := Keeps.next (by exact ⟨below_thru (below_thru (below_thru (below_alloc w _) (below_alloc _ _)) (below_alloc _ _)) (below_alloc _ _), ⟨by simp; omega, by simp [go_sem], by simp [go_sem]⟩, ⟨by simp, by simp [go_sem], by simp [go_sem]⟩, ⟨by simp, by simp [go_sem], by simp [go_sem]⟩, ⟨by simp, by simp [go_sem], by simp [go_sem]⟩, ⟨by simp, by simp [go_sem], by simp [go_sem]⟩, trivial⟩) hb1
    replace hq1 := Lib.hid hq1
    replace hr1 := Lib.hid hr1
    clear hb1
    obtain ⟨⟨kz0, kc0, kf0⟩, ⟨kz1, kc1, kf1⟩, ⟨kz2, kc2, kf2⟩, ⟨kz3, kc3, kf3⟩, ⟨kz4, kc4, kf4⟩, _⟩ := hHeld.2
    go_wp2_with fail
    refine (M1.out _ _ hq1.out).mono ?_
    rintro e w2 ⟨b6, A6, n6, c6, rfl, hb, hz6⟩
    have hr2 := Lib.hid (hr1.out.below hb)
    replace hz6 := Lib.hid hz6
    replace hHeld := hHeld.next hb
    clear hb kz0 kc0 kf0 kz1 kc1 kf1 kz2 kc2 kf2 kz3 kc3 kf3 kz4 kc4 kf4 hr1 hq1
    obtain ⟨⟨kz0, kc0, kf0⟩, ⟨kz1, kc1, kf1⟩, ⟨kz2, kc2, kf2⟩, ⟨kz3, kc3, kf3⟩, ⟨kz4, kc4, kf4⟩, _⟩ := hHeld.2
    go_wp2_with fail
    refine (M2.out _ _ hr2.out).mono ?_
    rintro e w3 ⟨b7, A7, n7, c7, rfl, hb, hz7⟩
    have hz63 := Lib.hid (hz6.out.below hb)
    replace hz7 := Lib.hid hz7
    replace hHeld := hHeld.next hb
    clear hb kz0 kc0 kf0 kz1 kc1 kf1 kz2 kc2 kf2 kz3 kc3 kf3 kz4 kc4 kf4 hr2 hz6
    obtain ⟨⟨kz0, kc0, kf0⟩, ⟨kz1, kc1, kf1⟩, ⟨kz2, kc2, kf2⟩, ⟨kz3, kc3, kf3⟩, ⟨kz4, kc4, kf4⟩, _⟩ := hHeld.2
    go_wp2_with fail
    obtain ⟨d0, d1⟩ := set2 (W := w3) (B := w.heap.size + 1 + 1) (u0 := .bool b6) (u1 := .slice A6 n6 c6) kc1 kc2
    have o0 : ((w3.setCell ⟨w.heap.size + 1 + 1, 0, none⟩ (.bool b6)).setCell ⟨w.heap.size + 1 + 1, 1, none⟩ (.slice A6 n6 c6)).cell? ⟨w.heap.size + 1 + 1 + 1, 0, none⟩ = some (.bool false) := off_cell (by simp) (off_cell (by simp) kc3)
    have o1 : ((w3.setCell ⟨w.heap.size + 1 + 1, 0, none⟩ (.bool b6)).setCell ⟨w.heap.size + 1 + 1, 1, none⟩ (.slice A6 n6 c6)).cell? ⟨w.heap.size + 1 + 1 + 1, 1, none⟩ = some (.slice none 0 0) := off_cell (by simp) (off_cell (by simp) kc4)
    obtain ⟨d2, d3⟩ := set2 (u0 := .bool b7) (u1 := .slice A7 n7 c7) o0 o1
    have d4 := off_cell (p := ⟨w.heap.size + 1 + 1 + 1, 1, none⟩) (u := .slice A7 n7 c7) (by simp) (off_cell (p := ⟨w.heap.size + 1 + 1 + 1, 0, none⟩) (u := .bool b7) (by simp) d0)
    have d5 := off_cell (p := ⟨w.heap.size + 1 + 1 + 1, 1, none⟩) (u := .slice A7 n7 c7) (by simp) (off_cell (p := ⟨w.heap.size + 1 + 1 + 1, 0, none⟩) (u := .bool b7) (by simp) d1)
    refine bodyPost_ret (v := .tuple #[.agg #[.bool b6, .slice A6 n6 c6], .agg #[.bool b7, .slice A7 n7 c7]]) (by simp [results, Try.results29, go_sem, d2, d3, d4, d5]) rfl ?_
    exact ⟨b6, A6, n6, c6, b7, A7, n7, c7, rfl, (((hHeld.1.setCell (p := ⟨w.heap.size + 1 + 1, 0, none⟩) (by simp; omega) _).setCell (p := ⟨w.heap.size + 1 + 1, 1, none⟩) (by simp; omega) _).setCell (p := ⟨w.heap.size + 1 + 1 + 1, 0, none⟩) (by simp; omega) _).setCell (p := ⟨w.heap.size + 1 + 1 + 1, 1, none⟩) (by simp; omega) _,
      (hz63.out.set2 kc1 kc2 _ _).set2 o0 o1 _ _, (hz7.out.set2 kc1 kc2 _ _).set2 o0 o1 _ _⟩
end Go.Proofs.Ytinppckjolkhpaa
