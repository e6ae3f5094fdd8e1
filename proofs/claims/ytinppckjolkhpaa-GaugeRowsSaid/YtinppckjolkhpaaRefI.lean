/-
  The document's own answers, ninth part: nothing less a number; is one number less than another one? Conditions: those written at each fact.
-/
import Derived.Test.YtinppckjolkhpaaRefH
namespace Go.Proofs.Ytinppckjolkhpaa
open Go.RowKit

/-- A row isn't touched by a store into a block that holds a bool and a slice. -/
theorem Num.set {W : World} {v : Value} {x : Nat} (h : Num W v x) {B : Nat} {b : Bool} {A : Option Addr} {n c : Nat} {t : TypeId} (hB : W.heap[B]? = some (.cells #[.bool b, .slice A n c] t (0, 0))) (u0 u1 : Value) :
    Num ((W.setCell ⟨B, 0, none⟩ u0).setCell ⟨B, 1, none⟩ u1) v x := by
  obtain ⟨A', c', e, hc, hk⟩ := h
  refine ⟨A', c', e, hc, fun k hl => ?_⟩
  obtain ⟨b', off, e1, e2, e3⟩ := hk k hl
  have hne : b' ≠ B := by
    intro eb
    subst eb
    have hx : (#[Value.bool b, Value.slice A n c] : Array Value)[off + k]? = some (.int .i64 (bitI x k)) := by
      rw [← e3]
      simp [World.cell?, hB]
    match hm : off + k with
    | 0 => rw [hm] at hx; simp at hx
    | 1 => rw [hm] at hx; simp at hx
    | j + 2 => rw [hm] at hx; simp at hx
  refine ⟨b', off, e1, by simpa [World.setCell] using e2, ?_⟩
  have h1 := Below.heap_setCell (W.setCell ⟨B, 0, none⟩ u0) ⟨B, 1, none⟩ u1 b' hne
  have h2 := Below.heap_setCell W ⟨B, 0, none⟩ u0 b' hne
  exact (World.cell?_of_block (w := W) (h1.trans h2)).trans e3

set_option maxRecDepth 100000 in
set_option maxHeartbeats 1000000 in
theorem negZ_any (z : Int) (v : Value) (w : World) (h : NumZ w v z) : Calls Try.prog 37 #[v] w (GaveZ w (-z)) := by
  obtain ⟨s, rfl, hn⟩ := h
  have HN := Lib.hid hn
  obtain ⟨A, c, rfl, hc, hk⟩ := hn
  have hs := size_none (x := z.natAbs)
  have e1 : (!decide (z < 0) && decide (0 < (sizeL z.natAbs).length)) = decide (-z < 0) := by
    rw [Bool.eq_iff_iff]
    simp only [Bool.and_eq_true, Bool.not_eq_true', decide_eq_true_eq, decide_eq_false_iff_not, hs]
    omega
  have M := Lib.hid (fun W => made_walk (!decide (z < 0)) A (sizeL z.natAbs).length c W)
  rw [e1] at M
  clear hk e1 hs
  generalize (sizeL z.natAbs).length = n at *
  generalize decide (z < 0) = zb at *
  have ER : Hid (∀ W, Num W (.slice A n c) z.natAbs → NumZ W (.agg #[.bool (decide (-z < 0)), .slice A n c]) (-z)) := Lib.hid (fun W hW => ⟨_, rfl, by rw [Int.natAbs_neg]; exact hW⟩)
  generalize decide (-z < 0) = rb at *
  go_enter Try.func37, Try.ntmps37
  go_wp2_with fail
  refine (M.out _).mono ?_
  rintro e w1 ⟨rfl, hb1⟩
  have c0 : w1.cell? ⟨w.heap.size + 1, 0, none⟩ = some (.bool false) := (hb1.cell (p := ⟨w.heap.size + 1, 0, none⟩) (by simp)).trans (by simp [go_sem])
  have c1 : w1.cell? ⟨w.heap.size + 1, 1, none⟩ = some (.slice none 0 0) := (hb1.cell (p := ⟨w.heap.size + 1, 1, none⟩) (by simp)).trans (by simp [go_sem])
  have f0 : w1.frozen? ⟨w.heap.size + 1, 0, none⟩ = false := (hb1.frozen (p := ⟨w.heap.size + 1, 0, none⟩) (by simp)).trans (by simp [go_sem])
  have f1 : w1.frozen? ⟨w.heap.size + 1, 1, none⟩ = false := (hb1.frozen (p := ⟨w.heap.size + 1, 1, none⟩) (by simp)).trans (by simp [go_sem])
  have HB := Lib.hid (below_thru (below_thru (below_alloc w _) (below_alloc _ _)) hb1)
  clear hb1 M
  have d0 : (w1.setCell ⟨w.heap.size + 1, 0, none⟩ (.bool rb)).cell? ⟨w.heap.size + 1, 0, none⟩ = some (.bool rb) := World.cell?_setCell_same' _ _ _ (by rw [c0]; rfl)
  have d1 : ((w1.setCell ⟨w.heap.size + 1, 0, none⟩ (.bool rb)).setCell ⟨w.heap.size + 1, 1, none⟩ (.slice A n c)).cell? ⟨w.heap.size + 1, 0, none⟩ = some (.bool rb) := by
    rw [World.cell?_setCell_other _ _ _ _ (by simp)]; exact d0
  have d2 : ((w1.setCell ⟨w.heap.size + 1, 0, none⟩ (.bool rb)).setCell ⟨w.heap.size + 1, 1, none⟩ (.slice A n c)).cell? ⟨w.heap.size + 1, 1, none⟩ = some (.slice A n c) :=
    World.cell?_setCell_same' _ _ _ (by rw [World.cell?_setCell_other _ _ _ _ (by simp), c1]; rfl)
  go_wp2_with fail
  refine bodyPost_ret (v := .agg #[.bool rb, .slice A n c]) (by simp [results, Try.results37, go_sem, d1, d2]) rfl ?_
  have hB := ((HB.out.setCell (p := ⟨w.heap.size + 1, 0, none⟩) (by simp) (.bool rb)).setCell (p := ⟨w.heap.size + 1, 1, none⟩) (by simp) (.slice A n c))
  exact ⟨_, rfl, hB, ER.out _ (HN.out.below hB)⟩
set_option maxRecDepth 100000 in
set_option maxHeartbeats 1000000 in
theorem lessZ_any (x y : Int) (hx : (sizeL x.natAbs).length ≤ 4000) (hy : (sizeL y.natAbs).length ≤ 4000) (v v' : Value) (w : World) (h : NumZ w v x) (h' : NumZ w v' y) :
    Calls Try.prog 32 #[v, v'] w (Ret w (.bool (decide (x < y)))) := by
  obtain ⟨s, rfl, hn⟩ := h
  obtain ⟨s', rfl, hn'⟩ := h'
  have L1 := Lib.hid (fun W (hb : Below w.heap.size w W) => less_any x.natAbs y.natAbs hx hy s s' W (hn.below hb) (hn'.below hb))
  have L2 := Lib.hid (fun W (hb : Below w.heap.size w W) => less_any y.natAbs x.natAbs hy hx s' s W (hn'.below hb) (hn.below hb))
  obtain ⟨A, c, rfl, hc, hk⟩ := hn
  obtain ⟨A', c', rfl, hc', hk'⟩ := hn'
  clear hk hk'
  generalize (sizeL x.natAbs).length = n at *
  generalize (sizeL y.natAbs).length = n' at *
  by_cases gx : x < 0 <;> by_cases gy : y < 0
  · have e : decide (y.natAbs < x.natAbs) = decide (x < y) := decide_eq_decide.2 (by omega)
    rw [e] at L2
    rw [decide_eq_true gx, decide_eq_true gy]
    generalize decide (x < y) = r at *
    clear e gx gy L1 hx hy
    go_enter Try.func32, Try.ntmps32
    go_wp2_with fail
    refine (L2.out _ (by go_grown)).mono ?_
    rintro e w' ⟨rfl, hb⟩
    have HB := Lib.hid hb
    clear hb L2
    go_wp2_with fail
    go_ret
    exact ⟨rfl, by have := HB.out; exact below_thru (below_thru (below_alloc w _) (below_alloc _ _)) this⟩
  · rw [decide_eq_true gx, decide_eq_false gy, decide_eq_true (show x < y by omega)]
    clear gx gy L1 L2 hx hy
    go_enter Try.func32, Try.ntmps32
    go_wp2_with fail
    go_ret
    exact ⟨rfl, below_thru (below_alloc w _) (below_alloc _ _)⟩
  · rw [decide_eq_false gx, decide_eq_true gy, decide_eq_false (show ¬ x < y by omega)]
    clear gx gy L1 L2 hx hy
    go_enter Try.func32, Try.ntmps32
    go_wp2_with fail
    go_ret
    exact ⟨rfl, below_thru (below_alloc w _) (below_alloc _ _)⟩
  · have e : decide (x.natAbs < y.natAbs) = decide (x < y) := decide_eq_decide.2 (by omega)
    rw [e] at L1
    rw [decide_eq_false gx, decide_eq_false gy]
    generalize decide (x < y) = r at *
    clear e gx gy L2 hx hy
    go_enter Try.func32, Try.ntmps32
    go_wp2_with fail
    refine (L1.out _ (by go_grown)).mono ?_
    rintro e w' ⟨rfl, hb⟩
    have HB := Lib.hid hb
    clear hb L1
    go_wp2_with fail
    go_ret
    exact ⟨rfl, by have := HB.out; exact below_thru (below_thru (below_alloc w _) (below_alloc _ _)) this⟩
end Go.Proofs.Ytinppckjolkhpaa
