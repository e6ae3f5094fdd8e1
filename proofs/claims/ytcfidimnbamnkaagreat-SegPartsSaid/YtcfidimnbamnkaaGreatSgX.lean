/-
 Layer 11: slices of points that are read; a block of five cells in a region. Conditions: those written at each fact.
-/
import Derived.Test.YtcfidimnbamnkaaGreatSgW
import Derived.Test.YtcfidimnbamnkaaGreatKitT
namespace Go.Proofs.YtcfidimnbamnkaaGreat.P11
open Go.RowKit Go.Shelf Go.Proofs.YtcfidimnbamnkaaGreat.P7

def ReadsP (w : World) (v : Value) (l : List (Int × Int)) : Prop :=
 ∃ A c, v = .slice A l.length c ∧ l.length ≤ c ∧ ∀ i p, l[i]? = some p → ∃ b off, A = some ⟨b, off, none⟩ ∧ b < w.heap.size ∧ w.cell? ⟨b, off + i * 2, none⟩ = some (.int .i64 p.1) ∧ w.cell? ⟨b, off + i * 2 + 1, none⟩ = some (.int .i64 p.2)
theorem ReadsP.below {w w' : World} {v : Value} {l : List (Int × Int)} (h : ReadsP w v l) (hb : Below w.heap.size w w') : ReadsP w' v l := by
 obtain ⟨A, c, e, hc, hk⟩ := h
 refine ⟨A, c, e, hc, fun i s hi => ?_⟩
 obtain ⟨b, off, e1, e2, e3, e4⟩ := hk i s hi
 exact ⟨b, off, e1, Nat.lt_of_lt_of_le e2 hb.size, (hb.cell (by exact e2)).trans e3, (hb.cell (by exact e2)).trans e4⟩
theorem flatP_at : ∀ (l : List Pn) (i : Nat) (p : Pn), l[i]? = some p → (flatP l)[i * 2]? = some (.int .i64 p.t) ∧ (flatP l)[i * 2 + 1]? = some (.int .i64 p.v)
 | [], i, p, h => by simp at h
 | a :: l, 0, p, h => by simp at h; subst h; exact ⟨rfl, rfl⟩
 | a :: l, i + 1, p, h => by
  obtain ⟨h1, h2⟩ := flatP_at l i p (by simpa using h)
  rw [show (i + 1) * 2 = i * 2 + 1 + 1 by omega]
  simp only [flatP, List.getElem?_cons_succ]
  exact ⟨h1, h2⟩
abbrev pairP (p : Pn) : Int × Int := (p.t, p.v)
theorem readsP_own {w : World} {B : Nat} {e : TypeId} {v : Value} {l : List Pn} (h : w.ownsRow B e 2 v l.length (flatP l)) : ReadsP w v (l.map pairP) := by
 obtain ⟨hl, h⟩ := h
 rcases h with ⟨rfl, h0⟩ | ⟨g, cap, cur, rfl, hB, hg, hn, _, hs, ht⟩
 ·rw [List.eq_nil_of_length_eq_zero h0]
  exact ⟨none, 0, rfl, Nat.le_refl _, fun i r hi => by simp at hi⟩
 ·refine ⟨some ⟨g, 0, none⟩, cap, by rw [List.length_map], by rw [List.length_map]; exact hn, fun i q hi => ?_⟩
  rw [List.getElem?_map] at hi
  cases hp : l[i]? with
  | none => rw [hp] at hi; cases hi
  | some p =>
   rw [hp] at hi
   cases hi
   have hi' : i < l.length := (List.getElem?_eq_some_iff.1 hp).1
   obtain ⟨f1, f2⟩ := flatP_at l i p hp
   have key : ∀ j u, j < l.length * 2 → (flatP l)[j]? = some u → cur[j]? = some u := fun j u hj hu => by
    have e1 : (cur.toList.take (l.length * 2))[j]? = (flatP l)[j]? := by rw [ht]
    rw [List.getElem?_take, if_pos hj, hu] at e1
    simpa using e1
   refine ⟨g, 0, rfl, (Array.getElem?_eq_some_iff.1 hg).1, ?_, ?_⟩
   ·have := key (i * 2) _ (by omega) f1
    simp [World.cell?, hg, this]
   ·have := key (i * 2 + 1) _ (by omega) f2
    simp [World.cell?, hg, this]
theorem below5 {w W : World} {B : Nat} (h : Below w.heap.size w W) (hw : w.heap.size ≤ B) (x0 x1 x2 x3 x4 : Value) : Below w.heap.size w (((((W.setCell ⟨B, 0, none⟩ x0).setCell ⟨B, 1, none⟩ x1).setCell ⟨B, 2, none⟩ x2).setCell ⟨B, 3, none⟩ x3).setCell ⟨B, 4, none⟩ x4) :=
 ((((h.setCell hw _).setCell hw _).setCell hw _).setCell hw _).setCell hw _
theorem pts_filter (a b : Int) : ∀ (k : Nat) (T V : List Int), V.length = T.length → ((ptsF k T V).filter (fun p => inP a b (p.t, p.v))).map (·.v) = ((T.zip V).filter (inP a b)).map (·.2)
 | _, [], [], _ => rfl
 | k, t :: T, v :: V, h => by
  have ih := pts_filter a b (k + 1) T V (by simpa using h)
  simp only [ptsF, List.zip_cons_cons, List.filter_cons]
  cases g : inP a b (t, v)
  ·simpa using ih
  ·simpa using ih
 | _, [], _ :: _, h => by simp at h
 | _, _ :: _, [], h => by simp at h
def seenF (a b : Int) (l : List Pn) (k : Nat) : List Int := ((l.take k).filter (fun p => inP a b (p.t, p.v))).map (·.v)
theorem seen_next {a b : Int} {l : List Pn} {k : Nat} {p : Pn} (h : l[k]? = some p) : seenF a b l (k + 1) = if inP a b (p.t, p.v) then seenF a b l k ++ [p.v] else seenF a b l k := by
 unfold seenF
 rw [List.take_add_one, h, List.filter_append, List.map_append]
 cases g : inP a b (p.t, p.v) <;> simp [g]
theorem seen_all (s : Sg) (hs : segB s = true) (a b : Int) : seenF a b (ptsS s) (ptsS s).length = valsIn s a b := by
 unfold seenF
 rw [List.take_length]
 exact pts_filter a b 0 _ _ (vals_length hs)
theorem ptsF_mem : ∀ (k : Nat) (T V : List Int) (p : Pn), p ∈ ptsF k T V → p.v ∈ V ∧ p.t ∈ T
 | _, [], _, p, h => by simp [ptsF] at h
 | _, _ :: _, [], p, h => by simp [ptsF] at h
 | k, t :: T, v :: V, p, h => by
  rcases List.mem_cons.1 h with rfl | h
  ·exact ⟨List.mem_cons_self .., List.mem_cons_self ..⟩
  ·obtain ⟨h1, h2⟩ := ptsF_mem (k + 1) T V p h
   exact ⟨List.mem_cons_of_mem _ h1, List.mem_cons_of_mem _ h2⟩
end Go.Proofs.YtcfidimnbamnkaaGreat.P11
