/-
  Layer 6: rows that are near, and a struct's cells that are stored anew. Conditions: those written at each fact.
-/
import Derived.Test.YtnacdofidmgfmaaFsI
namespace Go.Proofs.Ytnacdofidmgfmaa
open Go.RowKit

/-- One cell of a block of one's own is stored into. -/
theorem Keeps.put {w W : World} {L L' : List (Nat × Nat × Value)} {B o : Nat} {a u : Value} (h : Keeps w L W) (hB : w.heap.size ≤ B) (hin : (B, o, a) ∈ L) (hL : ∀ q ∈ L', q = (B, o, u) ∨ q ∈ L ∧ (q.1 ≠ B ∨ q.2.1 ≠ o)) :
    Keeps w L' (W.setCell ⟨B, o, none⟩ u) := by
  refine ⟨h.1.setCell hB u, Cells.of_mem fun q hq => ?_⟩
  rcases hL q hq with rfl | ⟨hm, hne⟩
  · obtain ⟨h1, h2, h3⟩ := h.2.mem _ hin
    refine ⟨by simpa using h1, World.cell?_setCell_same' _ _ _ (by rw [h2]; rfl), by simp only [World.frozen?_setCell]; exact h3⟩
  · obtain ⟨h1, h2, h3⟩ := h.2.mem _ hm
    refine ⟨by simpa using h1, ?_, by simp only [World.frozen?_setCell]; exact h3⟩
    refine (World.cell?_setCell_other _ _ _ _ ?_).trans h2
    intro e
    have e1 : B = q.1 := congrArg Addr.block e
    have e2 : o = q.2.1 := congrArg Addr.off e
    rcases hne with g | g
    · exact g e1.symm
    · exact g e2.symm
theorem Keeps.put6 {w W : World} {B : Nat} {a0 a1 a2 a3 a4 a5 : Value} (h : Keeps w [(B, 0, a0), (B, 1, a1), (B, 2, a2), (B, 3, a3), (B, 4, a4), (B, 5, a5)] W) (hB : w.heap.size ≤ B) (u0 u1 u2 u3 u4 u5 : Value) :
    Keeps w [(B, 0, u0), (B, 1, u1), (B, 2, u2), (B, 3, u3), (B, 4, u4), (B, 5, u5)] ((((((W.setCell ⟨B, 0, none⟩ u0).setCell ⟨B, 1, none⟩ u1).setCell ⟨B, 2, none⟩ u2).setCell ⟨B, 3, none⟩ u3).setCell ⟨B, 4, none⟩ u4).setCell ⟨B, 5, none⟩ u5) := by
  have h0 : Keeps w [(B, 0, u0), (B, 1, a1), (B, 2, a2), (B, 3, a3), (B, 4, a4), (B, 5, a5)] _ := h.put (a := a0) (o := 0) (u := u0) hB (by simp) (by simp)
  have h1 : Keeps w [(B, 0, u0), (B, 1, u1), (B, 2, a2), (B, 3, a3), (B, 4, a4), (B, 5, a5)] _ := h0.put (a := a1) (o := 1) (u := u1) hB (by simp) (by simp)
  have h2 : Keeps w [(B, 0, u0), (B, 1, u1), (B, 2, u2), (B, 3, a3), (B, 4, a4), (B, 5, a5)] _ := h1.put (a := a2) (o := 2) (u := u2) hB (by simp) (by simp)
  have h3 : Keeps w [(B, 0, u0), (B, 1, u1), (B, 2, u2), (B, 3, u3), (B, 4, a4), (B, 5, a5)] _ := h2.put (a := a3) (o := 3) (u := u3) hB (by simp) (by simp)
  have h4 : Keeps w [(B, 0, u0), (B, 1, u1), (B, 2, u2), (B, 3, u3), (B, 4, u4), (B, 5, a5)] _ := h3.put (a := a4) (o := 4) (u := u4) hB (by simp) (by simp)
  exact h4.put (a := a5) (o := 5) (u := u5) hB (by simp) (by simp)
/-- A row that is near: its numbers. -/
structure Near6 (n : Nat) (a b m : Int) : Prop where
  n : n ≤ 256
  a : -1267650600228229401496703205376 ≤ a ∧ a ≤ 1267650600228229401496703205376
  b : -1267650600228229401496703205376 ≤ b ∧ b ≤ 1267650600228229401496703205376
  m : 1 ≤ m ∧ m ≤ 281474976710656
theorem tmod36 (x : Int) : -68719476736 < x.tmod 68719476736 ∧ x.tmod 68719476736 < 68719476736 := by
  by_cases h : 0 ≤ x
  · rw [Int.tmod_eq_emod_of_nonneg h]; omega
  · have e : (-x).tmod 68719476736 = -(x.tmod 68719476736) := Int.neg_tmod ..
    rw [Int.tmod_eq_emod_of_nonneg (by omega)] at e
    omega
theorem near_val {h l : Int} (hl : U64 l) : -1267650600228229401496703205376 ≤ val (h.tmod 68719476736) l ∧ val (h.tmod 68719476736) l ≤ 1267650600228229401496703205376 ∧ rhi (val (h.tmod 68719476736) l) = h.tmod 68719476736 ∧ rlo (val (h.tmod 68719476736) l) = l := by
  have t := tmod36 h
  have i : I64 (h.tmod 68719476736) := by unfold I64; omega
  refine ⟨?_, ?_, rhi_val i hl, rlo_val i hl⟩ <;> unfold val <;> unfold U64 at hl <;> omega
theorem near_told (n ah al bh bl m : Int) (h1 : U64 al) (h2 : U64 bl) : ∃ (N : Nat) (A B M : Int), Near6 N A B M ∧ ∀ W, Calls Try.prog 18 #[rowV n ah al bh bl m] W (Ret W (rowV N (rhi A) (rlo A) (rhi B) (rlo B) M)) := by
  have NE := fun W => near_any n ah al bh bl m W
  obtain ⟨a1, a2, a3, a4⟩ := near_val (h := ah) h1
  obtain ⟨b1, b2, b3, b4⟩ := near_val (h := bh) h2
  have k0 : 0 ≤ max n 0 % 257 := by omega
  have k1 : max n 0 % 257 ≤ 256 := by omega
  obtain ⟨N, hN⟩ := Int.eq_ofNat_of_zero_le k0
  refine ⟨N, _, _, max m 0 % 281474976710656 + 1, ⟨by omega, ⟨a1, a2⟩, ⟨b1, b2⟩, by omega⟩, fun W => ?_⟩
  rw [a3, a4, b3, b4]
  have := NE W
  rw [hN] at this
  exact this
theorem Near6.terms {n : Nat} {a b m : Int} (h : Near6 n a b m) : termB a = true ∧ termB b = true := ⟨(termB_iff _).2 (by have := h.a; omega), (termB_iff _).2 (by have := h.b; omega)⟩
/-- A term so many times away is one. -/
theorem Near6.along {n : Nat} {a b m : Int} (h : Near6 n a b m) {k : Int} (hk : -1 ≤ k ∧ k ≤ 256) : termB (b + a * k) = true ∧ Fits (a * k) ∧ Fits (b + a * k) := by
  have h1 := h.a
  have h2 := h.b
  have m1 : -(1267650600228229401496703205376 * 258) ≤ a * k ∧ a * k ≤ 1267650600228229401496703205376 * 258 := by
    have := mul_in (x := a) (y := k + 1) (Y := 257) h1 (by omega) (by omega)
    rw [Int.mul_add] at this
    omega
  refine ⟨(termB_iff _).2 (by omega), ?_, ?_⟩ <;> unfold Fits <;> omega
end Go.Proofs.Ytnacdofidmgfmaa
