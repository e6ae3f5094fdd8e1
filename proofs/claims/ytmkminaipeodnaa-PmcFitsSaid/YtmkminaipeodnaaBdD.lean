/-
  Layer 8: pmc: how many bands are taken ahead of the first one that is not. Conditions: those written at each fact.
-/
import Derived.Test.YtmkminaipeodnaaBdC
import Derived.WalkMore
namespace Go.Proofs.Ytmkminaipeodnaa.P8
open Go.RowKit

/-- The method that takes, of what is common at block C. -/
abbrev takeF (C : Nat) : Value := .func (.func 50) #[.pointer (some ⟨C, 0, none⟩)] #[]
theorem goM_next {lo hi : Int} {b : Bd} {l : List Bd} (h : ¬ min hi b.hi < max lo b.lo) : goM lo hi (b :: l) = ((goM (max lo b.lo) (min hi b.hi) l).1 + 1, (goM (max lo b.lo) (min hi b.hi) l).2) := by
  rw [goM, if_neg h]
theorem goM_stop {lo hi : Int} {b : Bd} {l : List Bd} (h : min hi b.hi < max lo b.lo) : goM lo hi (b :: l) = (0, lo, hi) := by
  rw [goM, if_pos h]
theorem drop_of {l : List Bd} {k : Nat} {r : Bd} (hx : l[k]? = some r) : l.drop k = r :: l.drop (k + 1) := by
  obtain ⟨hlt, e⟩ := List.getElem?_eq_some_iff.1 hx
  rw [List.drop_eq_getElem_cons hlt, e]
theorem goM_le : ∀ (l : List Bd) (lo hi : Int), (goM lo hi l).1 ≤ l.length
  | [], _, _ => Nat.le_refl _
  | b :: l, lo, hi => by
    by_cases h : min hi b.hi < max lo b.lo
    · rw [goM_stop h]; simp
    · rw [goM_next h]; have := goM_le l (max lo b.lo) (min hi b.hi); simp; omega
theorem near_trans {s : Nat} {A B C : World} (h : Near s A B) (k : Near s B C) : Near s A C :=
  ⟨k.os.trans h.os, k.tape.trans h.tape, k.output.trans h.output, Nat.le_trans h.size k.size, fun j hj hs => (k.block j (Nat.lt_of_lt_of_le hj h.size) hs).trans (h.block j hj hs)⟩
theorem near_below {s : Nat} {w0 w W : World} (h : Near s w W) (h0 : Below w0.heap.size w0 w) (hs : w0.heap.size ≤ s) : Below w0.heap.size w0 W :=
  ⟨h.os.trans h0.os, h.tape.trans h0.tape, h.output.trans h0.output, Nat.le_trans h0.size h.size, fun j hj => (h.block j (Nat.lt_of_lt_of_le hj h0.size) (by omega)).trans (h0.block j hj)⟩

set_option maxRecDepth 100000 in
set_option maxHeartbeats 2000000 in
theorem taken_any (l : List Bd) (hl : l.length ≤ 1000000) (A : Option Addr) (c : Nat) (w0 : World) (h : ReadsD w0 (.slice A l.length c) l) (C : Nat) (lo hi : Int) (w : World) (hw0 : Below w0.heap.size w0 w) (hC0 : w0.heap.size ≤ C) (hC : Com w C lo hi) :
    Calls Try.prog 49 #[.slice A l.length c, takeF C] w (fun e w' => e = .returned (.int .i64 (goM lo hi l).1) ∧ Near C w w' ∧ Com w' C (goM lo hi l).2.1 (goM lo hi l).2.2) := by
  obtain ⟨A', c', e', hc, hk⟩ := h
  cases e'
  have HK := Lib.hid hk
  have HC0 := Lib.hid hC0
  have HW0 := Lib.hid hw0
  clear hk hw0 hC0
  obtain ⟨G, hG⟩ : ∃ G, G = goM lo hi l := ⟨_, rfl⟩
  rw [← hG]
  have AS : Hid (G = (0 + (goM lo hi (l.drop 0)).1, (goM lo hi (l.drop 0)).2)) := Lib.hid (by rw [hG]; simp)
  have HC := Lib.hid hC
  clear hG hC
  go_enter Try.func49, Try.ntmps49
  go_wp2_with (go_step3)
  go_loopw [5, 10] (fun n i wr => ∃ (k : Nat) (x y : Int), n = .int .i64 k ∧ i = .int .i64 k ∧ k ≤ l.length ∧ Hid (G = (k + (goM x y (l.drop k)).1, (goM x y (l.drop k)).2)) ∧ Hid (Com wr C x y) ∧ Hid (Near C w wr)) (fun _ i _ => l.length - (intOf i).toNat)
  case atStart => exact ⟨0, lo, hi, rfl, rfl, by omega, AS, HC, Lib.hid (Near.refl _ _)⟩
  case round =>
    obtain ⟨k, x, y, rfl, rfl, hkl, hA, hC, hN⟩ := hrel
    clear AS HC
    have hB := near_below hN.out HW0.out HC0.out
    by_cases gk : k < l.length
    · obtain ⟨⟨t, a, b⟩, hx⟩ : ∃ s, l[k]? = some s := ⟨_, List.getElem?_eq_getElem gk⟩
      obtain ⟨bb, off, rfl, hbw, hc1, hc2, hc3⟩ := HK.out k _ hx
      have c1 := (hB.cell (p := ⟨bb, off + k * 3, none⟩) hbw).trans hc1
      have c2 := (hB.cell (p := ⟨bb, off + k * 3 + 1, none⟩) hbw).trans hc2
      have c3 := (hB.cell (p := ⟨bb, off + k * 3 + 2, none⟩) hbw).trans hc3
      simp only at c1 c2 c3
      have i1 : (k : Int) < (l.length : Int) := by omega
      have i0 : (0 : Int) ≤ (k : Int) := by omega
      have hdr := drop_of hx
      have hA2 := hA.out
      rw [hdr] at hA2
      have e1 : wrap64 ((k : Int) + 1) = (k : Int) + 1 := i64_keeps (by omega) (by omega)
      have hC2 := hC.out.below (below_alloc wr (.cells #[.int .i64 t, .int .i64 a, .int .i64 b] 36))
      clear hc1 hc2 hc3 hA hdr hx hB
      by_cases g : min y b < max x a
      · have E : Hid (G = (k, x, y)) := Lib.hid (by rw [hA2, goM_stop g]; simp)
        have TN := Lib.hid (take_no C x y t a b g _ hC2)
        clear hA2 g hC2
        go_wp2_with (go_at_call 50; refine TN.out.mono ?_; rintro e w' ⟨rfl, hN2, hC3⟩)
        have F : Hid (Near C w w' ∧ Com w' C x y) := Lib.hid ⟨near_trans (near_trans hN.out (Near.of (below_alloc _ _))) hN2, hC3⟩
        clear hN2 hC3
        go_wp2_with fail
        rw [Exit.noGoto_ret]
        go_ret
        exact ⟨by rw [E.out]; try rfl, F.out.1, by rw [E.out]; exact F.out.2⟩
      · have E : Hid (G = ((k + 1 : Nat) + (goM (max x a) (min y b) (l.drop (k + 1))).1, (goM (max x a) (min y b) (l.drop (k + 1))).2)) := Lib.hid (by
          rw [hA2, goM_next g]
          refine Prod.ext ?_ rfl
          simp only
          omega)
        obtain ⟨M, hM⟩ : ∃ M, M = max x a := ⟨_, rfl⟩
        obtain ⟨m, hm⟩ : ∃ m, m = min y b := ⟨_, rfl⟩
        have TN := Lib.hid (take_yes C x y t a b M m hM hm (by rw [hM, hm]; exact g) _ hC2)
        rw [← hM, ← hm] at E
        clear hA2 g hC2 hM hm
        go_wp2_with (go_at_call 50; refine TN.out.mono ?_; rintro e w' ⟨rfl, hN2, hC3⟩)
        have F : Hid (Near C w w' ∧ Com w' C M m) := Lib.hid ⟨near_trans (near_trans hN.out (Near.of (below_alloc _ _))) hN2, hC3⟩
        clear hN2 hC3
        go_wp2_with fail
        go_roundw
        case rel => exact ⟨k + 1, M, m, by simp, by simp, gk, E, Lib.hid F.out.2, Lib.hid F.out.1⟩
        case measure => exact index_less gk
    · have hkk : k = l.length := by omega
      have E : Hid (G = (l.length, x, y)) := Lib.hid (by rw [hA.out, hkk, List.drop_length]; simp [goM])
      have i1 : ¬ (k : Int) < (l.length : Int) := by omega
      clear hA
      go_wp2_with fail
      go_ret
      exact ⟨by rw [E.out]; try rfl, hN.out, by rw [E.out]; exact hC.out⟩
end Go.Proofs.Ytmkminaipeodnaa.P8
