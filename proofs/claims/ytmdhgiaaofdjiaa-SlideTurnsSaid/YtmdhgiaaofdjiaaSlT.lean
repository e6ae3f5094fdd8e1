/-
  Layer 10: rows of bands of the law's own, some of them turned already. Conditions: those written at each fact.
-/
import Derived.Test.YtmdhgiaaofdjiaaSlR
namespace Go.Proofs.Ytmdhgiaaofdjiaa.P10
open Go.RowKit Go.Shelf Go.Proofs.Ytmdhgiaaofdjiaa.P8

/-- The first k turned by f. -/
def mixF (f : Bd → Bd) (k : Nat) (l : List Bd) : List Bd := (l.take k).map f ++ l.drop k
theorem mix_zero (f : Bd → Bd) (l : List Bd) : mixF f 0 l = l := by simp [mixF]
theorem mix_all (f : Bd → Bd) {l : List Bd} {k : Nat} (h : l.length ≤ k) : mixF f k l = l.map f := by
  unfold mixF
  rw [List.take_of_length_le h, List.drop_of_length_le h, List.append_nil]
theorem mix_at {f : Bd → Bd} {k : Nat} {l : List Bd} {b : Bd} (h : l[k]? = some b) : (mixF f k l)[k]? = some b := by
  have hk := (List.getElem?_eq_some_iff.1 h).1
  unfold mixF
  rw [List.getElem?_append_right (by rw [List.length_map, List.length_take]; omega), List.length_map, List.length_take, Nat.min_eq_left (by omega), Nat.sub_self, List.getElem?_drop, Nat.add_zero]
  exact h
theorem mix_set {f : Bd → Bd} {k : Nat} {l : List Bd} {b : Bd} (h : l[k]? = some b) : (mixF f k l).set k (f b) = mixF f (k + 1) l := by
  have hk := (List.getElem?_eq_some_iff.1 h).1
  have hl : ((l.take k).map f).length = k := by rw [List.length_map, List.length_take]; omega
  unfold mixF
  rw [List.set_append_right _ _ (by omega), hl, Nat.sub_self, drop_of h, List.set_cons_zero, List.take_add_one, h]
  simp
theorem flatD_set0 (z : Int) : ∀ (l : List Bd) (k : Nat) (b : Bd), l[k]? = some b → (flatD l).set (k * 3) (.int .i64 z) = flatD (l.set k ⟨z, b.lo, b.hi⟩)
  | [], k, b, h => by simp at h
  | x :: l, 0, b, h => by simp at h; subst h; rfl
  | x :: l, k + 1, b, h => by
    have := flatD_set0 z l k b (by simpa using h)
    rw [show (k + 1) * 3 = k * 3 + 1 + 1 + 1 by omega]
    simp only [flatD, List.set_cons_succ, this]
theorem flatD_set12 (x y : Int) : ∀ (l : List Bd) (k : Nat) (b : Bd), l[k]? = some b → ((flatD l).set (k * 3 + 1) (.int .i64 x)).set (k * 3 + 2) (.int .i64 y) = flatD (l.set k ⟨b.t, x, y⟩)
  | [], k, b, h => by simp at h
  | _ :: l, 0, b, h => by simp at h; subst h; rfl
  | _ :: l, k + 1, b, h => by
    have := flatD_set12 x y l k b (by simpa using h)
    rw [show (k + 1) * 3 + 1 = k * 3 + 1 + 1 + 1 + 1 by omega, show (k + 1) * 3 + 2 = k * 3 + 2 + 1 + 1 + 1 by omega]
    simp only [flatD, List.set_cons_succ, this]
theorem flatD_set21 (x y : Int) : ∀ (l : List Bd) (k : Nat) (b : Bd), l[k]? = some b → ((flatD l).set (k * 3 + 2) (.int .i64 y)).set (k * 3 + 1) (.int .i64 x) = flatD (l.set k ⟨b.t, x, y⟩)
  | [], k, b, h => by simp at h
  | _ :: l, 0, b, h => by simp at h; subst h; rfl
  | _ :: l, k + 1, b, h => by
    have := flatD_set21 x y l k b (by simpa using h)
    rw [show (k + 1) * 3 + 1 = k * 3 + 1 + 1 + 1 + 1 by omega, show (k + 1) * 3 + 2 = k * 3 + 2 + 1 + 1 + 1 by omega]
    simp only [flatD, List.set_cons_succ, this]
/-- A row of n bands in a block of its own. -/
def OwnB (W : World) (B g c n : Nat) (l : List Bd) : Prop := W.ownsRow B 50 3 (.slice (some ⟨g, 0, none⟩) n c) n (flatD l)
theorem OwnB.len {W : World} {B g c n : Nat} {l : List Bd} (h : OwnB W B g c n l) : l.length = n := by
  have := h.1
  rw [flatD_length] at this
  omega
theorem OwnB.base {W : World} {B g c n : Nat} {l : List Bd} (h : OwnB W B g c n l) : B ≤ g ∧ g < W.heap.size := by
  rcases h.2 with ⟨h', _⟩ | ⟨g', cap, cur, h', h2, h3, _⟩
  · simp at h'
  · simp only [Value.slice.injEq, Option.some.injEq, Addr.mk.injEq, and_true] at h'
    obtain ⟨rfl, _⟩ := h'
    exact ⟨h2, (Array.getElem?_eq_some_iff.1 h3).1⟩
theorem OwnB.other {W : World} {B g c n : Nat} {l : List Bd} (h : OwnB W B g c n l) (p : Addr) (u : Value) (hne : g ≠ p.block) : OwnB (W.setCell p u) B g c n l := by
  refine ⟨h.1, ?_⟩
  rcases h.2 with ⟨h', _⟩ | ⟨g', cap, cur, h', h2, h3, h4⟩
  · simp at h'
  · simp only [Value.slice.injEq, Option.some.injEq, Addr.mk.injEq, and_true, true_and] at h'
    obtain ⟨rfl, rfl⟩ := h'
    exact .inr ⟨g, c, cur, rfl, h2, (heap_setCell_other W p g u hne).trans h3, h4⟩
theorem OwnB.below {W W' : World} {B g c n : Nat} {l : List Bd} (h : OwnB W B g c n l) (hb : Below W.heap.size W W') : OwnB W' B g c n l := owns_below h hb
theorem OwnB.set0 {W : World} {B g c n k : Nat} {l : List Bd} {b : Bd} (h : OwnB W B g c n l) (hk : l[k]? = some b) (z : Int) : OwnB (W.setCell ⟨g, k * 3, none⟩ (.int .i64 z)) B g c n (l.set k ⟨z, b.lo, b.hi⟩) := by
  have := (World.ownsRow.stored h (k * 3) (.int .i64 z)).1
  rw [flatD_set0 z l k b hk] at this
  exact this
theorem OwnB.set12 {W : World} {B g c n k : Nat} {l : List Bd} {b : Bd} (h : OwnB W B g c n l) (hk : l[k]? = some b) (x y : Int) : OwnB ((W.setCell ⟨g, k * 3 + 1, none⟩ (.int .i64 x)).setCell ⟨g, k * 3 + 2, none⟩ (.int .i64 y)) B g c n (l.set k ⟨b.t, x, y⟩) := by
  have := (World.ownsRow.stored (World.ownsRow.stored h (k * 3 + 1) (.int .i64 x)).1 (k * 3 + 2) (.int .i64 y)).1
  rw [flatD_set12 x y l k b hk] at this
  exact this
theorem OwnB.set21 {W : World} {B g c n k : Nat} {l : List Bd} {b : Bd} (h : OwnB W B g c n l) (hk : l[k]? = some b) (x y : Int) : OwnB ((W.setCell ⟨g, k * 3 + 2, none⟩ (.int .i64 y)).setCell ⟨g, k * 3 + 1, none⟩ (.int .i64 x)) B g c n (l.set k ⟨b.t, x, y⟩) := by
  have := (World.ownsRow.stored (World.ownsRow.stored h (k * 3 + 2) (.int .i64 y)).1 (k * 3 + 1) (.int .i64 x)).1
  rw [flatD_set21 x y l k b hk] at this
  exact this
theorem OwnB.cells {W : World} {B g c n k : Nat} {l : List Bd} {b : Bd} (h : OwnB W B g c n l) (hk : l[k]? = some b) :
    (W.cell? ⟨g, k * 3, none⟩ = some (.int .i64 b.t) ∧ W.frozen? ⟨g, k * 3, none⟩ = false) ∧ (W.cell? ⟨g, k * 3 + 1, none⟩ = some (.int .i64 b.lo) ∧ W.frozen? ⟨g, k * 3 + 1, none⟩ = false) ∧ (W.cell? ⟨g, k * 3 + 2, none⟩ = some (.int .i64 b.hi) ∧ W.frozen? ⟨g, k * 3 + 2, none⟩ = false) := by
  have hl := h.len
  have hk2 := (List.getElem?_eq_some_iff.1 hk).1
  obtain ⟨f0, f1, f2⟩ := flatD_at l k b hk
  exact ⟨⟨(World.ownsRow.cellAt h _ (by omega)).trans f0, World.ownsRow.frozenAt h _⟩, ⟨(World.ownsRow.cellAt h _ (by omega)).trans f1, World.ownsRow.frozenAt h _⟩, ⟨(World.ownsRow.cellAt h _ (by omega)).trans f2, World.ownsRow.frozenAt h _⟩⟩
theorem OwnB.reads {W : World} {B g c n : Nat} {l : List Bd} (h : OwnB W B g c n l) : ReadsD W (.slice (some ⟨g, 0, none⟩) n c) l := by
  have := h.len
  subst this
  exact readsD_own h
theorem laid_own {w w' : World} {l : List Bd} {e : Ending} (h : LaidD w l e w') (hne : l ≠ []) : Below w.heap.size w w' ∧ ∃ g c, e = .returned (.slice (some ⟨g, 0, none⟩) l.length c) ∧ l.length ≤ c ∧ OwnB w' w.heap.size g c l.length l := by
  obtain ⟨v, rfl, hb, ho⟩ := h
  refine ⟨hb, ?_⟩
  rcases ho.2 with ⟨_, h0⟩ | ⟨g, cap, cur, rfl, h2, h3, h4, h5⟩
  · exact absurd (List.eq_nil_of_length_eq_zero h0) hne
  · exact ⟨g, cap, rfl, h4, ho.1, .inr ⟨g, cap, cur, rfl, h2, h3, h4, h5⟩⟩
end Go.Proofs.Ytmdhgiaaofdjiaa.P10
