/-
 Layer 11: the points of a segment, one by one, with their places. Conditions: the segment may be.
-/
import Derived.Test.YtcfidimnbamnkaaGreatSgN
import Derived.Test.YtcfidimnbamnkaaGreatNB
namespace Go.Proofs.YtcfidimnbamnkaaGreat.P11
open Go.RowKit Go.Shelf Go.Proofs.YtcfidimnbamnkaaGreat.P7
attribute [local go_sem] Oper.semAt_some
attribute [local go_sem] fieldK0 fieldK1 fieldK2

structure Pn where
 i : Int
 t : Int
 v : Int
def ptsF : Nat → List Int → List Int → List Pn
 | k, t :: T, v :: V => ⟨k, t, v⟩ :: ptsF (k + 1) T V
 | _, _, _ => []
def ptsS (s : Sg) : List Pn := ptsF 0 (timesR s.R) (vals s)
theorem ptsF_length : ∀ (k : Nat) (T V : List Int), V.length = T.length → (ptsF k T V).length = T.length
 | _, [], [], _ => rfl
 | k, t :: T, v :: V, h => by simp only [ptsF, List.length_cons]; rw [ptsF_length (k + 1) T V (by simpa using h)]
 | _, [], _ :: _, h => by simp at h
 | _, _ :: _, [], h => by simp at h
theorem ptsF_get : ∀ (k : Nat) (T V : List Int) (q : Nat) (t v : Int), T[q]? = some t → V[q]? = some v → (ptsF k T V)[q]? = some ⟨((k + q : Nat) : Int), t, v⟩
 | _, [], _, q, t, v, h, _ => by simp at h
 | _, _ :: _, [], q, t, v, _, h => by simp at h
 | k, x :: T, y :: V, 0, t, v, h1, h2 => by simp at h1 h2; subst h1 h2; rfl
 | k, x :: T, y :: V, q + 1, t, v, h1, h2 => by
  simp only [List.getElem?_cons_succ] at h1 h2
  simp only [ptsF, List.getElem?_cons_succ]
  rw [ptsF_get (k + 1) T V q t v h1 h2]
  congr 2
  omega
def BoxS (W : World) (B : Nat) (s : Sg) (v u : Value) : Prop := W.heap[B]? = some (.cells #[.int .i64 s.k, v, .int .i64 s.a, .int .i64 s.r, .int .i64 s.n, .int .i64 s.d, u, .int .i64 s.e] 94 (0, 0))
theorem BoxS.lt {W : World} {B : Nat} {s : Sg} {v u : Value} (h : BoxS W B s v u) : B < W.heap.size := (Array.getElem?_eq_some_iff.1 (show W.heap[B]? = _ from h)).1
theorem BoxS.cells {W : World} {B : Nat} {s : Sg} {v u : Value} (h : BoxS W B s v u) : Cells [(B, 0, .int .i64 s.k), (B, 1, v), (B, 2, .int .i64 s.a), (B, 3, .int .i64 s.r), (B, 4, .int .i64 s.n), (B, 5, .int .i64 s.d), (B, 6, u), (B, 7, .int .i64 s.e)] W := by
 have hz := h.lt
 have e : W.heap[B]? = _ := h
 exact ⟨⟨hz, by simp [World.cell?, e], by simp [World.frozen?, e]⟩, ⟨hz, by simp [World.cell?, e], by simp [World.frozen?, e]⟩, ⟨hz, by simp [World.cell?, e], by simp [World.frozen?, e]⟩, ⟨hz, by simp [World.cell?, e], by simp [World.frozen?, e]⟩, ⟨hz, by simp [World.cell?, e], by simp [World.frozen?, e]⟩, ⟨hz, by simp [World.cell?, e], by simp [World.frozen?, e]⟩, ⟨hz, by simp [World.cell?, e], by simp [World.frozen?, e]⟩, ⟨hz, by simp [World.cell?, e], by simp [World.frozen?, e]⟩, trivial⟩
theorem cell_kept {X : World → Nat → Prop} {A B : World} {b o : Nat} {x : Value} (k : KeepsC X A B) (hx : ¬ X A b) (h : A.cell? ⟨b, o, none⟩ = some x) : B.cell? ⟨b, o, none⟩ = some x := by
 cases ho : A.heap[b]? with
 | none => simp [World.cell?, ho] at h
 | some ob =>
  have hoc : ob.isCells = true := by
   cases ob with
   | cells _ _ _ => rfl
   | _ => simp [World.cell?, ho] at h
  exact (World.cell?_of_block (w := A) ((k.2.2 b ob ho hoc hx).trans ho.symm)).trans h
theorem readsR_kept {X : World → Nat → Prop} {A B : World} {v : Value} {l : List Rn} (h : ReadsR A v l) (n0 : Nat) (hn : ∀ C a c n, v = .slice (some ⟨C, a, none⟩) n c → l ≠ [] → C < n0) (hx : ∀ k, k < n0 → ¬ X A k) (k : KeepsC X A B) : ReadsR B v l := by
 obtain ⟨Ad, c, rfl, hc, hk⟩ := h
 refine ⟨Ad, c, rfl, hc, fun i r hi => ?_⟩
 obtain ⟨b, off, e1, e2, e3, e4, e5⟩ := hk i r hi
 have hne : l ≠ [] := by rintro rfl; simp at hi
 have hb := hx b (hn b off c l.length (by rw [e1]) hne)
 exact ⟨b, off, e1, Nat.lt_of_lt_of_le e2 k.1, cell_kept k hb e3, cell_kept k hb e4, cell_kept k hb e5⟩
theorem readsI_kept {X : World → Nat → Prop} {A B : World} {v : Value} {l : List Int} (h : Reads .i64 A v l) (n0 : Nat) (hn : ∀ C a c n, v = .slice (some ⟨C, a, none⟩) n c → l ≠ [] → C < n0) (hx : ∀ k, k < n0 → ¬ X A k) (k : KeepsC X A B) : Reads .i64 B v l := by
 obtain ⟨Ad, c, rfl, hc, hk⟩ := h
 refine ⟨Ad, c, rfl, hc, fun i r hi => ?_⟩
 obtain ⟨b, off, e1, e2, e3⟩ := hk i r hi
 have hne : l ≠ [] := by rintro rfl; simp at hi
 have hb := hx b (hn b off c l.length (by rw [e1]) hne)
 exact ⟨b, off, e1, Nat.lt_of_lt_of_le e2 k.1, cell_kept k hb e3⟩
structure StandS (X : World → Nat → Prop) (n0 Bs : Nat) (s : Sg) (v u : Value) (W : World) : Prop where
 reads : ReadsR W v s.R
 raws : Reads .i64 W u s.V
 lowR : ∀ C a c n, v = .slice (some ⟨C, a, none⟩) n c → s.R ≠ [] → C < n0
 lowI : ∀ C a c n, u = .slice (some ⟨C, a, none⟩) n c → s.V ≠ [] → C < n0
 size : n0 ≤ W.heap.size
 box : BoxS W Bs s v u
 off : ¬ X W Bs
 far : ∀ k, k < n0 → ¬ X W k
 small : ∀ k, X W k → k < W.heap.size
theorem StandS.next {X : World → Nat → Prop} {n0 Bs : Nat} {s : Sg} {v u : Value} {W W' : World} (h : StandS X n0 Bs s v u W) (k : KeepsC X W W') : StandS X n0 Bs s v u W' :=
 ⟨readsR_kept h.reads n0 h.lowR h.far k, readsI_kept h.raws n0 h.lowI h.far k, h.lowR, h.lowI, Nat.le_trans h.size k.1, k.2.2 Bs _ h.box rfl h.off,
  fun hx => by
   rcases k.2.1 Bs hx with h1 | h1
   ·exact h.off h1
   ·have := h.box.lt; omega,
  fun j hj hx => by
   rcases k.2.1 j hx with h1 | h1
   ·exact h.far j hj h1
   ·have := h.size; omega,
  fun j hj => by
   rcases k.2.1 j hj with h1 | h1
   ·exact Nat.lt_of_lt_of_le (h.small j h1) k.1
   ·exact h1.2⟩
theorem one_moreV {k N : Nat} (h : k < N) (hN : N ≤ 1000000) : wrap64 ((k : Int) + 1) = (k : Int) + 1 := i64_keeps (by omega) (by omega)
theorem turn_lessV {k N : Nat} (h : k < N) : N - (intOf (Value.int .i64 ((k : Int) + 1))).toNat < N - (intOf (Value.int .i64 (k : Int))).toNat := by simp [intOf]; omega
end Go.Proofs.YtcfidimnbamnkaaGreat.P11
