/-
  Layer 10: slide: the first part of bands, and the slopes that it lets. Conditions: those written at each fact.
-/
import Derived.Maps.RangeWalk
import Derived.Test.YtoephkglpbophaaGreatSlE
import Derived.WalkMore
import Derived.DeepKeys
import Derived.Deep.Quiet
import Derived.Deep.QuietTactic
namespace Go.Proofs.YtoephkglpbophaaGreat.P10
open Go.RowKit Go.Shelf Go.Proofs.YtoephkglpbophaaGreat.P8
open Go.Proofs.YtoephkglpbophaaGreat.P9 (SeqTurns Mild Leaves wp_rangeT)
attribute [local go_sem] Oper.semAt_some

/-- A fit, as a struct; slopes' and a fit's block. -/
abbrev fitV (s : Sl) (v : Value) : Value := .agg #[.int .i64 s.a, .int .i64 s.b, .int .i64 s.c, .int .i64 s.d, v]
def SlAt (W : World) (B : Nat) (s : Sl) : Prop := W.heap[B]? = some (.cells #[.int .i64 s.a, .int .i64 s.b, .int .i64 s.c, .int .i64 s.d] 50 (0, 0))
def FitAt (W : World) (B : Nat) (s : Sl) (v : Value) : Prop := W.heap[B]? = some (.cells #[.int .i64 s.a, .int .i64 s.b, .int .i64 s.c, .int .i64 s.d, v] 52 (0, 0))
theorem SlAt.lt {W : World} {B : Nat} {s : Sl} (h : SlAt W B s) : B < W.heap.size := (Array.getElem?_eq_some_iff.1 h).1
theorem FitAt.lt {W : World} {B : Nat} {s : Sl} {v : Value} (h : FitAt W B s v) : B < W.heap.size := (Array.getElem?_eq_some_iff.1 h).1
theorem SlAt.cells {W : World} {B : Nat} {s : Sl} (h : SlAt W B s) : W.cell? ⟨B, 0, none⟩ = some (.int .i64 s.a) ∧ W.cell? ⟨B, 1, none⟩ = some (.int .i64 s.b) ∧ W.cell? ⟨B, 2, none⟩ = some (.int .i64 s.c) ∧ W.cell? ⟨B, 3, none⟩ = some (.int .i64 s.d) ∧
    W.frozen? ⟨B, 0, none⟩ = false ∧ W.frozen? ⟨B, 1, none⟩ = false ∧ W.frozen? ⟨B, 2, none⟩ = false ∧ W.frozen? ⟨B, 3, none⟩ = false := by
  have e : W.heap[B]? = _ := h
  simp [World.cell?, World.frozen?, e]
theorem FitAt.cells {W : World} {B : Nat} {s : Sl} {v : Value} (h : FitAt W B s v) : W.cell? ⟨B, 0, none⟩ = some (.int .i64 s.a) ∧ W.cell? ⟨B, 1, none⟩ = some (.int .i64 s.b) ∧ W.cell? ⟨B, 2, none⟩ = some (.int .i64 s.c) ∧ W.cell? ⟨B, 3, none⟩ = some (.int .i64 s.d) ∧ W.cell? ⟨B, 4, none⟩ = some v ∧
    W.frozen? ⟨B, 0, none⟩ = false ∧ W.frozen? ⟨B, 1, none⟩ = false ∧ W.frozen? ⟨B, 2, none⟩ = false ∧ W.frozen? ⟨B, 3, none⟩ = false ∧ W.frozen? ⟨B, 4, none⟩ = false := by
  have e : W.heap[B]? = _ := h
  simp [World.cell?, World.frozen?, e]
theorem heap_set {W : World} {B o : Nat} {u : Value} {cs : Array Value} {t : TypeId} (h : W.heap[B]? = some (.cells cs t (0, 0))) : (W.setCell ⟨B, o, none⟩ u).heap[B]? = some (.cells (cs.setIfInBounds o u) t (0, 0)) := by
  obtain ⟨hlt, hk⟩ := Array.getElem?_eq_some_iff.1 h
  show (W.heap.modify B _)[B]? = _
  rw [Array.getElem?_eq_getElem (by rw [Array.size_modify]; exact hlt), Array.getElem_modify_self, hk]
  rfl
/-- Four, and five, cells of a block, stored one behind the other. -/
def put4 (W : World) (B : Nat) (u0 u1 u2 u3 : Value) : World := (((W.setCell ⟨B, 0, none⟩ u0).setCell ⟨B, 1, none⟩ u1).setCell ⟨B, 2, none⟩ u2).setCell ⟨B, 3, none⟩ u3
def put5 (W : World) (B : Nat) (u0 u1 u2 u3 u4 : Value) : World := ((((W.setCell ⟨B, 0, none⟩ u0).setCell ⟨B, 1, none⟩ u1).setCell ⟨B, 2, none⟩ u2).setCell ⟨B, 3, none⟩ u3).setCell ⟨B, 4, none⟩ u4
theorem SlAt.put {W : World} {B : Nat} {s : Sl} (h : SlAt W B s) (s' : Sl) : SlAt (put4 W B (.int .i64 s'.a) (.int .i64 s'.b) (.int .i64 s'.c) (.int .i64 s'.d)) B s' :=
  heap_set (heap_set (heap_set (heap_set h)))
theorem FitAt.put {W : World} {B : Nat} {s : Sl} {v : Value} (h : FitAt W B s v) (s' : Sl) (v' : Value) : FitAt (put5 W B (.int .i64 s'.a) (.int .i64 s'.b) (.int .i64 s'.c) (.int .i64 s'.d) v') B s' v' :=
  heap_set (heap_set (heap_set (heap_set (heap_set h))))
theorem heap_put4 (W : World) (B : Nat) (u0 u1 u2 u3 : Value) (k : Nat) (h : k ≠ B) : (put4 W B u0 u1 u2 u3).heap[k]? = W.heap[k]? :=
  (Below.heap_setCell _ ⟨B, 3, none⟩ _ k h).trans ((Below.heap_setCell _ ⟨B, 2, none⟩ _ k h).trans ((Below.heap_setCell _ ⟨B, 1, none⟩ _ k h).trans (Below.heap_setCell _ ⟨B, 0, none⟩ _ k h)))
theorem heap_put5 (W : World) (B : Nat) (u0 u1 u2 u3 u4 : Value) (k : Nat) (h : k ≠ B) : (put5 W B u0 u1 u2 u3 u4).heap[k]? = W.heap[k]? :=
  (Below.heap_setCell _ ⟨B, 4, none⟩ _ k h).trans (heap_put4 W B u0 u1 u2 u3 k h)
theorem below_put4 {n : Nat} {w W : World} {B : Nat} (h : Below n w W) (hB : n ≤ B) (u0 u1 u2 u3 : Value) : Below n w (put4 W B u0 u1 u2 u3) :=
  (((h.setCell (p := ⟨B, 0, none⟩) hB _).setCell (p := ⟨B, 1, none⟩) hB _).setCell (p := ⟨B, 2, none⟩) hB _).setCell (p := ⟨B, 3, none⟩) hB _
theorem below_put5 {n : Nat} {w W : World} {B : Nat} (h : Below n w W) (hB : n ≤ B) (u0 u1 u2 u3 u4 : Value) : Below n w (put5 W B u0 u1 u2 u3 u4) := (below_put4 h hB u0 u1 u2 u3).setCell (p := ⟨B, 4, none⟩) hB _
theorem others_put4 (W : World) (B : Nat) (u0 u1 u2 u3 : Value) : KeepsOthers W (put4 W B u0 u1 u2 u3) :=
  ((KeepsOthers.setCell W _ _).trans (KeepsOthers.setCell _ _ _)).trans ((KeepsOthers.setCell _ _ _).trans (KeepsOthers.setCell _ _ _))
theorem others_put5 (W : World) (B : Nat) (u0 u1 u2 u3 u4 : Value) : KeepsOthers W (put5 W B u0 u1 u2 u3 u4) := (others_put4 W B u0 u1 u2 u3).trans (KeepsOthers.setCell _ _ _)
theorem size_put4 (W : World) (B : Nat) (u0 u1 u2 u3 : Value) : (put4 W B u0 u1 u2 u3).heap.size = W.heap.size := by simp [put4, World.setCell]
/-- What the iterator is made of. -/
theorem made_any (A : Option Addr) (n c : Nat) (y : Bd) (w : World) :
    Calls Tryz.prog 40 #[.slice A n c, bandV y] w fun e w' => ∃ g, e = .returned (.func (.func 63) #[] #[.pointer (some ⟨g, 0, none⟩), .pointer (some ⟨g + 1, 0, none⟩)]) ∧ Below w.heap.size w w' ∧ w.heap.size ≤ g ∧ w'.heap.size = g + 2 ∧ Boxed w' g 22 (.slice A n c) ∧ BandAt w' (g + 1) y := by
  refine (pairs_any (.slice A n c) y w A n c rfl).mono ?_
  rintro e w' ⟨rfl, rfl⟩
  refine ⟨w.heap.size, rfl, ((Below.refl _ w).alloc (Nat.le_refl _) _).alloc (by simp) _, Nat.le_refl _, by simp, (Boxed.new w _ _).alloc _, ?_⟩
  have := World.alloc_heap_new (w.alloc (.cells #[.slice A n c] 22)) (.cells #[.int .i64 y.t, .int .i64 y.lo, .int .i64 y.hi] 46)
  rw [World.size_alloc] at this
  exact this
theorem marks_mild {B : Nat} {w0 A A' : World} {T : Nat} (k : Mild w0.heap.size T A A') (hT : ∃ o, w0.heap[T]? = some o ∧ o.isCells = true) : ∀ {ds : List Deferred}, Marks B ds w0 → Marks B ds A → Marks B ds A'
  | [], _, _ => trivial
  | d :: ds, h0, hA => by
    have hlt := h0.lt d (List.mem_cons_self ..)
    have hat := (h0.ge d (List.mem_cons_self ..))
    obtain ⟨D0, _, _, _, h0', _⟩ := h0
    obtain ⟨D, e, hB, hk, hm, hn⟩ := hA
    refine ⟨D, e, hB, (k.low D (hlt D e) (fun eT => ?_)).trans hk, marks_mild k hT h0' hm, hn⟩
    obtain ⟨o, ho, hc⟩ := hT
    have h2 := (hat D e).2
    rw [eT, ho] at h2
    cases h2
    cases hc
/-- What stands in each round of the inner loop. -/
def Com10 (w : World) (Bf : Nat) (s : Sl) (v : Value) (ds : List Deferred) (W : World) : Prop :=
  Below w.heap.size w W ∧ Marks w.heap.size ds W ∧ FitAt W w.heap.size none0 (.slice none 0 0) ∧ FitAt W Bf s v
theorem Com10.mild {w w0 : World} {Bf : Nat} {s : Sl} {v : Value} {ds : List Deferred} {T : Nat} {A A' : World} (h : Com10 w Bf s v ds A) (k : Mild w0.heap.size T A A') (hw : w.heap.size ≤ w0.heap.size) (hT : w.heap.size < T) (hf : Bf ≠ T) (h0 : Marks w.heap.size ds w0) (hc : ∃ o, w0.heap[T]? = some o ∧ o.isCells = true) : Com10 w Bf s v ds A' :=
  ⟨k.below h.1 hw (by omega), marks_mild k hc h0 h.2.1, k.cells _ _ h.2.2.1 rfl (by omega), k.cells _ _ h.2.2.2 rfl hf⟩
theorem others_below {W W' : World} (h : Below W.heap.size W W') : KeepsOthers W W' := ⟨h.size, fun k _ ho _ => (h.block k (Array.getElem?_eq_some_iff.1 ho).1).trans ho⟩
theorem Com10.next {w A A' : World} {Bf : Nat} {s : Sl} {v : Value} {ds : List Deferred} (h : Com10 w Bf s v ds A) (hb : Below A.heap.size A A') : Com10 w Bf s v ds A' :=
  ⟨under h.1 hb, h.2.1.kept (fun D o hD ho => (others_below hb).same D o hD ho), (hb.block _ h.2.2.1.lt).trans h.2.2.1, (hb.block _ h.2.2.2.lt).trans h.2.2.2⟩
theorem Com10.put {w A : World} {Bf g : Nat} {s : Sl} {v : Value} {ds : List Deferred} (h : Com10 w Bf s v ds A) (hg : w.heap.size < g) (hf : Bf ≠ g) (u0 u1 u2 u3 : Value) : Com10 w Bf s v ds (put4 A g u0 u1 u2 u3) :=
  ⟨below_put4 h.1 (by omega) _ _ _ _, h.2.1.kept (fun D o hD ho => (others_put4 A g u0 u1 u2 u3).same D o hD ho), (heap_put4 _ _ _ _ _ _ _ (by omega)).trans h.2.2.1, (heap_put4 _ _ _ _ _ _ _ hf).trans h.2.2.2⟩
theorem keepsO_put {g : Nat} (A : World) (u0 u1 u2 u3 : Value) : KeepsC (XO g) A (put4 A g u0 u1 u2 u3) :=
  ⟨by rw [size_put4]; exact Nat.le_refl _, fun _ hk => .inl hk, fun k _ ho _ hx => (heap_put4 A g u0 u1 u2 u3 k hx).trans ho⟩
/-- A round of the inner loop, behind what both let. -/
theorem round_told {w w5 W1 w3 : World} {Bf g : Nat} {s f x : Sl} {v : Value} {ds : List Deferred} {pre : List Sl} (hb3 : Below W1.heap.size W1 w3) (hz : w5.heap.size ≤ W1.heap.size) (h1 : Com10 w Bf s v ds W1) (h2 : SlAt W1 g f) (hg : w.heap.size < g) (hf : Bf ≠ g) (j : Sl) (hj : (pre ++ [x]).foldl joinS s = j) (hs : shutS j = false) :
    KeepsFrom w5.heap.size W1 (put4 w3 g (.int .i64 j.a) (.int .i64 j.b) (.int .i64 j.c) (.int .i64 j.d)) ∧ KeepsC (XO g) W1 (put4 w3 g (.int .i64 j.a) (.int .i64 j.b) (.int .i64 j.c) (.int .i64 j.d)) ∧ w5.heap.size ≤ (put4 w3 g (.int .i64 j.a) (.int .i64 j.b) (.int .i64 j.c) (.int .i64 j.d)).heap.size ∧ Com10 w Bf s v ds (put4 w3 g (.int .i64 j.a) (.int .i64 j.b) (.int .i64 j.c) (.int .i64 j.d)) ∧ SlAt (put4 w3 g (.int .i64 j.a) (.int .i64 j.b) (.int .i64 j.c) (.int .i64 j.d)) g ((pre ++ [x]).foldl joinS s) ∧ shutS ((pre ++ [x]).foldl joinS s) = false := by
  have h3 : SlAt w3 g f := (hb3.block _ h2.lt).trans h2
  refine ⟨((others_below hb3).trans (others_put4 _ _ _ _ _ _)).from _, (keepsO_below hb3).trans (keepsO_put _ _ _ _ _), by rw [size_put4]; exact Nat.le_trans hz hb3.size, (h1.next hb3).put hg hf _ _ _ _, ?_, ?_⟩
  · rw [hj]; exact h3.put j
  · rw [hj]; exact hs
theorem round_left {w w5 W1 w3 : World} {Bf g : Nat} {s : Sl} {v : Value} {ds : List Deferred} (hb3 : Below W1.heap.size W1 w3) (h1 : Com10 w Bf s v ds W1) (hg : w.heap.size < g) (hf : Bf ≠ g) (u0 u1 u2 u3 : Value) :
    KeepsFrom w5.heap.size W1 (put4 w3 g u0 u1 u2 u3) ∧ Com10 w Bf s v ds (put4 w3 g u0 u1 u2 u3) :=
  ⟨((others_below hb3).trans (others_put4 _ _ _ _ _ _)).from _, (h1.next hb3).put hg hf _ _ _ _⟩
theorem lits4 (a b c d : Int) (h0 : (Lit.int .i64 a).wf = true) (h1 : (Lit.int .i64 b).wf = true) (h2 : (Lit.int .i64 c).wf = true) (h3 : (Lit.int .i64 d).wf = true) :
    Tryz.prog.keyLits 4 50 [.int .i64 a, .int .i64 b, .int .i64 c, .int .i64 d] = some [.int .i64 a, .int .i64 b, .int .i64 c, .int .i64 d] := by
  have k : ∀ z : Int, (Lit.int .i64 z).wf = true → Tryz.prog.keyLits 2 2 [.int .i64 z] = some [.int .i64 z] := by
    intro z hz
    unfold Program.keyLits
    rw [Tryz.underlying2]
    simp [hz]
  have k2 : ∀ y z : Int, (Lit.int .i64 y).wf = true → (Lit.int .i64 z).wf = true → Tryz.prog.keyLits 3 32 [.int .i64 y, .int .i64 z] = some [.int .i64 y, .int .i64 z] := by
    intro y z hy hz
    unfold Program.keyLits
    rw [Tryz.underlying32]
    have e1 : Tryz.prog.cellsOf 32 = 2 := by kernel_rfl
    have e2 : Tryz.prog.cellsOf 2 = 1 := by kernel_rfl
    simp [e1, e2, k y hy, k z hz]
  unfold Program.keyLits
  rw [Tryz.underlying50]
  have e1 : Tryz.prog.cellsOf 50 = 4 := by kernel_rfl
  have e2 : Tryz.prog.cellsOf 32 = 2 := by kernel_rfl
  have r2 : List.range 2 = [0, 1] := rfl
  simp [e1, e2, r2, k2 a b h0 h1, k2 c d h2 h3]
theorem eq4 (a b c d : Int) (h0 : (Lit.int .i64 a).wf = true) (h1 : (Lit.int .i64 b).wf = true) (h2 : (Lit.int .i64 c).wf = true) (h3 : (Lit.int .i64 d).wf = true) (W : World) :
    ∃ r : Bool, (Op.equalIn 10000 50 (.agg #[.int .i64 a, .int .i64 b, .int .i64 c, .int .i64 d]) (.agg #[.int .i64 0, .int .i64 0, .int .i64 0, .int .i64 0])).run Tryz.prog W = .ok r W ∧ (r = true ↔ [a, b, c, d] = [0, 0, 0, 0]) := by
  have hz : (Lit.int .i64 0).wf = true := by decide
  have h := run_equalIn_deep (P := Tryz.prog) 9997 3 50 (by kernel_rfl) W 4 4 (.agg #[.int .i64 a, .int .i64 b, .int .i64 c, .int .i64 d]) (.agg #[.int .i64 0, .int .i64 0, .int .i64 0, .int .i64 0]) _ _ (by kernel_rfl) (by kernel_rfl) (by simpa [Value.cells] using lits4 a b c d h0 h1 h2 h3) (by simpa [Value.cells] using lits4 0 0 0 0 hz hz hz hz)
  obtain ⟨r, e, hr⟩ := h
  exact ⟨r, e, by rw [hr]; simp⟩
theorem wf_of {z : Int} (h1 : -9223372036854775808 ≤ z) (h2 : z ≤ 9223372036854775807) : (Lit.int .i64 z).wf = true := by
  simp only [Lit.wf, Bool.and_eq_true, decide_eq_true_eq]
  exact ⟨h1, h2⟩
/-- Slopes that may be are not those that let none. -/
theorem eql_no (s : Sl) (hs : StOk s) (W : World) : (Op.equalIn 10000 50 (.agg #[.int .i64 s.a, .int .i64 s.b, .int .i64 s.c, .int .i64 s.d]) (.agg #[.int .i64 0, .int .i64 0, .int .i64 0, .int .i64 0])).run Tryz.prog W = .ok false W := by
  have h1 := (slopeB_iff _ _).1 hs.lo
  have h2 := (slopeB_iff _ _).1 hs.hi
  obtain ⟨r, e, hr⟩ := eq4 s.a s.b s.c s.d (wf_of (by omega) (by omega)) (wf_of (by omega) (by omega)) (wf_of (by omega) (by omega)) (wf_of (by omega) (by omega)) W
  cases r
  · exact e
  · have h3 := hr.1 rfl
    simp at h3
    omega
theorem eql_yes (W : World) : (Op.equalIn 10000 50 (.agg #[.int .i64 0, .int .i64 0, .int .i64 0, .int .i64 0]) (.agg #[.int .i64 0, .int .i64 0, .int .i64 0, .int .i64 0])).run Tryz.prog W = .ok true W := by
  have hz : (Lit.int .i64 0).wf = true := by decide
  obtain ⟨r, e, hr⟩ := eq4 0 0 0 0 hz hz hz hz W
  rw [hr.2 rfl] at e
  exact e
theorem FitAt.drew {W : World} {B : Nat} {s : Sl} {v : Value} (h : FitAt W B s v) : FitAt W.drew B s v := h
theorem FitAt.off {W : World} {B g : Nat} {s : Sl} {v : Value} (h : FitAt W B s v) (hne : B ≠ g) (u0 u1 u2 u3 u4 : Value) : FitAt (put5 W g u0 u1 u2 u3 u4) B s v := (heap_put5 W g u0 u1 u2 u3 u4 B hne).trans h
/-- The longest part so far, behind its store. -/
theorem fit_told {w w5 W1 : World} {Bf : Nat} {s s' : Sl} {v v' : Value} {ds : List Deferred} (h1 : Com10 w Bf s v ds W1) (h5 : Marks w.heap.size ds w5) (hD : W1.heap[w5.heap.size]? = some (.deferred (some []))) (hw : w.heap.size ≤ w5.heap.size) (hf : w.heap.size < Bf) :
    Marks w.heap.size ({ target := .collected w5.heap.size, args := #[] } :: ds) (put5 W1 Bf (.int .i64 s'.a) (.int .i64 s'.b) (.int .i64 s'.c) (.int .i64 s'.d) v') ∧ Below w.heap.size w (put5 W1 Bf (.int .i64 s'.a) (.int .i64 s'.b) (.int .i64 s'.c) (.int .i64 s'.d) v') ∧ FitAt (put5 W1 Bf (.int .i64 s'.a) (.int .i64 s'.b) (.int .i64 s'.c) (.int .i64 s'.d) v') w.heap.size none0 (.slice none 0 0) ∧ FitAt (put5 W1 Bf (.int .i64 s'.a) (.int .i64 s'.b) (.int .i64 s'.c) (.int .i64 s'.d) v') Bf s' v' := by
  obtain ⟨hB, hM, hr, hf1⟩ := h1
  have hM2 := (hM.cons h5 (Nat.le_refl _) hw hD).kept (fun D o hD ho => (others_put5 W1 Bf (.int .i64 s'.a) (.int .i64 s'.b) (.int .i64 s'.c) (.int .i64 s'.d) v').same D o hD ho)
  have hr2 := hr.off (g := Bf) (by omega) (.int .i64 s'.a) (.int .i64 s'.b) (.int .i64 s'.c) (.int .i64 s'.d) v'
  have hf2 := hf1.put s' v'
  have hB2 := below_put5 hB (Nat.le_of_lt hf) (.int .i64 s'.a) (.int .i64 s'.b) (.int .i64 s'.c) (.int .i64 s'.d) v'
  generalize put5 W1 Bf (.int .i64 s'.a) (.int .i64 s'.b) (.int .i64 s'.c) (.int .i64 s'.d) v' = WF at *
  exact ⟨hM2, hB2, hr2, hf2⟩
theorem loop_nums {k n c : Nat} (h1 : k < n) (h2 : n ≤ c) (h3 : n ≤ 1000000) : wrap64 ((k : Int) + 1) = (k : Int) + 1 ∧ ((k : Int) + 1).toNat = k + 1 ∧ (k : Int) + 1 ≤ (c : Int) ∧ (0 : Int) ≤ (k : Int) + 1 ∧ ¬ k + 1 = 0 ∧ k + 1 ≤ n ∧ IntKind.i64.wrap ((k : Int) + 1) = (k : Int) + 1 ∧ (k : Int) + 1 ≤ max ((k : Int) + 1) 0 :=
  ⟨i64_keeps (by omega) (by omega), by omega, by omega, by omega, by omega, by omega, by rw [IntKind.wrap_i64]; omega, by omega⟩
theorem turn_next {k n : Nat} (h : k < n) : n - (intOf (Value.int .i64 ((k : Int) + 1))).toNat < n - (intOf (Value.int .i64 (k : Int))).toNat := by simp [intOf]; omega
theorem let_fold (y : Bd) : ∀ (l : List Bd) (s : Sl), letS y l s = (l.map (fun x => pairS x y)).foldl joinS s
  | [], _ => rfl
  | x :: l, s => let_fold y l (joinS s (pairS x y))
theorem fold_stays : ∀ {l : List Sl} {s : Sl}, (∀ q ∈ l, StOk q) → StOk s → StOk (l.foldl joinS s) ∧ (shutS s = true → shutS (l.foldl joinS s) = true)
  | [], _, _, h => ⟨h, fun g => g⟩
  | q :: l, s, hl, h => by
    have hq := hl q (List.mem_cons_self ..)
    obtain ⟨h1, h2⟩ := fold_stays (l := l) (s := joinS s q) (fun z hz => hl z (List.mem_cons_of_mem _ hz)) (join_ok h hq)
    exact ⟨h1, fun g => h2 (shut_join h hq g)⟩
theorem pairs_ok {y : Bd} {l : List Bd} (h : BdOk y ∧ ∀ x ∈ l, BdOk x ∧ x.t < y.t) {pre : List Sl} (hp : pre <+: l.map (fun x => pairS x y)) : ∀ q ∈ pre, StOk q := by
  intro q hq
  obtain ⟨x, hx, rfl⟩ := List.mem_map.1 (hp.subset hq)
  exact pair_ok (h.2 x hx).1 h.1 (h.2 x hx).2
theorem part_shut {y : Bd} {l : List Bd} {s : Sl} (h : BdOk y ∧ ∀ x ∈ l, BdOk x ∧ x.t < y.t) (hs : StOk s) {pre : List Sl} (hp : pre <+: l.map (fun x => pairS x y)) (g : shutS (pre.foldl joinS s) = true) : shutS (letS y l s) = true := by
  rw [let_fold]
  have hall := pairs_ok h (List.prefix_refl _)
  obtain ⟨r, hr⟩ := hp
  rw [← hr, List.foldl_append]
  refine (fold_stays (fun q hq => hall q ?_) (fold_stays (fun q hq => hall q ?_) hs).1).2 g
  · rw [← hr]; simp [hq]
  · rw [← hr]; simp [hq]
/-- The first bands, as a slice. -/
def partV (bb off n : Nat) : Value := if n = 0 then .slice none 0 0 else .slice (some ⟨bb, off, none⟩) n n
theorem allS_ok {m : List Bd} {k : Nat} (h : RowOk m) : StOk (allS (m.take k)) := all_ok (h.take k)
theorem allS_open {m : List Bd} {k : Nat} (h : ∀ i, i < k → shutS (allS (m.take (i + 1))) = false) : shutS (allS (m.take k)) = false := by
  cases k with
  | zero => rw [List.take_zero]; exact every_open
  | succ k => exact h k (by omega)
theorem ahead_ok {m : List Bd} {k : Nat} {y : Bd} (h : RowOk m) (hx : m[k]? = some y) : BdOk y ∧ ∀ x ∈ m.take k, BdOk x ∧ x.t < y.t := by
  refine row_ahead (l := m.drop (k + 1)) ?_
  rw [← drop_of hx, List.take_append_drop]
  exact h
set_option maxRecDepth 100000 in
set_option maxHeartbeats 4000000 in
theorem first_any (m : List Bd) (hm : m ≠ []) (hl : m.length ≤ 1000000) (hR : RowOk m) (bb off c : Nat) (w : World) (h : ReadsD w (.slice (some ⟨bb, off, none⟩) m.length c) m) :
    Calls Tryz.prog 20 #[.slice (some ⟨bb, off, none⟩) m.length c] w (Ret w (fitV (firS m) (.slice (some ⟨bb, off, none⟩) (firN m) (firN m)))) := by
  have EV := Lib.hid (fun W => every_any W)
  obtain ⟨hbw, hst0⟩ : bb < w.heap.size ∧ ∃ oo : Obj, w.heap[bb]? = some oo ∧ oo.isCells = true := by
    obtain ⟨_, _, e', _, hk⟩ := h
    cases e'
    obtain ⟨b, l, rfl⟩ := List.exists_cons_of_ne_nil hm
    obtain ⟨b', off', e1, e2, e3, _⟩ := hk 0 b rfl
    cases e1
    obtain ⟨oo, ho⟩ : ∃ oo, w.heap[bb]? = some oo := ⟨_, Array.getElem?_eq_getElem e2⟩
    refine ⟨e2, oo, ho, ?_⟩
    cases oo with
    | cells _ _ _ => rfl
    | _ => simp [World.cell?, ho] at e3
  have HST := Lib.hid hst0
  have HRD := Lib.hid h
  have HR := Lib.hid hR
  have hmc : m.length ≤ c := by
    obtain ⟨_, _, e', hc', _⟩ := h
    cases e'
    exact hc'
  clear hst0 h hR
  refine calls_marks Tryz.func20 rfl ?_
  simp only [Tryz.ntmps20, List.size_toArray, List.length_cons, List.length_nil, Nat.reduceAdd, Nat.reduceSub, Array.replicate_succ, Array.replicate_zero, List.push_toArray, List.append_toArray, List.nil_append, List.cons_append]
  have hb0 := below_alloc w (.cells #[.int .i64 0, .int .i64 0, .int .i64 0, .int .i64 0, .slice none 0 0] 52)
  have hr0 : FitAt (w.alloc (.cells #[.int .i64 0, .int .i64 0, .int .i64 0, .int .i64 0, .slice none 0 0] 52)) w.heap.size none0 (.slice none 0 0) := World.alloc_heap_new w _
  go_wp2_with (go_step3)
  refine (EV.out _).mono ?_
  rintro en w1 ⟨rfl, hb1⟩
  have hr1 : FitAt w1 w.heap.size none0 (.slice none 0 0) := (hb1.block _ hr0.lt).trans hr0
  have hB1 := under hb0 hb1
  have hz1 := hb1.size
  simp only [World.size_alloc] at hz1
  clear hb0 hr0 hb1 EV
  go_wp2_with (go_step3)
  rename_i K hK
  have FIN : ∀ (v0 v1 v4 v5 v6 v7 v8 v9 v10 v11 v12 v13 v14 v15 v16 v17 v18 v19 v20 v21 v22 v23 v24 v25 v26 v27 v28 v29 v30 v31 v32 v33 v34 v35 v36 v37 v38 v39 v40 : Value) (ds : List Deferred) (W : World), Marks w.heap.size ds W → Below w.heap.size w W → FitAt W w.heap.size none0 (.slice none 0 0) → FitAt W w1.heap.size (firS m) (.slice (some ⟨bb, off, none⟩) (firN m) (firN m)) → K { tmps := #[v0, v1, Value.pointer (some ⟨w.heap.size, 0, none⟩), Value.pointer (some ⟨w1.heap.size, 0, none⟩), v4, v5, v6, v7, v8, v9, v10, v11, v12, v13, v14, v15, v16, v17, v18, v19, v20, v21, v22, v23, v24, v25, v26, v27, v28, v29, v30, v31, v32, v33, v34, v35, v36, v37, v38, v39, v40], defers := ds } W := by
    intro v0 v1 v4 v5 v6 v7 v8 v9 v10 v11 v12 v13 v14 v15 v16 v17 v18 v19 v20 v21 v22 v23 v24 v25 v26 v27 v28 v29 v30 v31 v32 v33 v34 v35 v36 v37 v38 v39 v40 ds W hM hB hr hf
    refine hK _ _ ?_
    obtain ⟨r0, r1, r2, r3, r4, q0, q1, q2, q3, q4⟩ := hr.cells
    obtain ⟨f0, f1, f2, f3, f4, _⟩ := hf.cells
    have HF : Hid (FitAt (put5 W w.heap.size (.int .i64 (firS m).a) (.int .i64 (firS m).b) (.int .i64 (firS m).c) (.int .i64 (firS m).d) (.slice (some ⟨bb, off, none⟩) (firN m) (firN m))) w.heap.size (firS m) (.slice (some ⟨bb, off, none⟩) (firN m) (firN m)) ∧ Below w.heap.size w (put5 W w.heap.size (.int .i64 (firS m).a) (.int .i64 (firS m).b) (.int .i64 (firS m).c) (.int .i64 (firS m).d) (.slice (some ⟨bb, off, none⟩) (firN m) (firN m))) ∧ Marks w.heap.size ds (put5 W w.heap.size (.int .i64 (firS m).a) (.int .i64 (firS m).b) (.int .i64 (firS m).c) (.int .i64 (firS m).d) (.slice (some ⟨bb, off, none⟩) (firN m) (firN m)))) :=
      Lib.hid ⟨hr.put _ _, below_put5 hB (Nat.le_refl _) _ _ _ _ _, hM.kept (fun D o hD ho => (others_put5 W w.heap.size _ _ _ _ _).same D o hD ho)⟩
    clear hM hB hr hf hK
    simp only [none0] at r0 r1 r2 r3
    generalize firS m = s at *
    generalize firN m = n at *
    go_wp2_with fail
    rw [Exit.noGoto_ret]
    unfold put5 at HF
    refine HF.out.2.2.leaves HF.out.2.1.size (fun w' hb hk => ?_)
    obtain ⟨e0, e1, e2, e3, e4, _⟩ := (show FitAt w' w.heap.size s (.slice (some ⟨bb, off, none⟩) n n) from hk _ _ HF.out.1 rfl).cells
    exact ⟨fitV s (.slice (some ⟨bb, off, none⟩) n n), by simp [results, Tryz.results20, go_sem, e0, e1, e2, e3, e4], rfl, HF.out.2.1.trans hb⟩
  replace FIN := Lib.hid FIN
  clear hK
  have hf1 : FitAt (w1.alloc (.cells #[.int .i64 every0.a, .int .i64 every0.b, .int .i64 every0.c, .int .i64 every0.d, .slice none 0 0] 52)) w1.heap.size every0 (.slice none 0 0) := World.alloc_heap_new w1 _
  have hr2 := ((below_alloc w1 (.cells #[.int .i64 every0.a, .int .i64 every0.b, .int .i64 every0.c, .int .i64 every0.d, .slice none 0 0] 52)).block _ hr1.lt).trans hr1
  have hB2 := under hB1 (below_alloc w1 (.cells #[.int .i64 every0.a, .int .i64 every0.b, .int .i64 every0.c, .int .i64 every0.d, .slice none 0 0] 52))
  refine wp_loop (fun a' w' => ∃ (k : Nat) (z : Int) (ds : List Deferred) (u4 u5 u6 u13 u14 u15 u16 u17 u18 u19 u20 u21 u22 u23 u31 u32 u33 u34 u35 u36 u37 u38 u39 : Value), z = (k : Int) ∧ k ≤ m.length ∧ Hid (∀ i, i < k → shutS (allS (m.take (i + 1))) = false) ∧ Marks w.heap.size ds w' ∧ Below w.heap.size w w' ∧ FitAt w' w.heap.size none0 (.slice none 0 0) ∧ FitAt w' w1.heap.size (allS (m.take k)) (partV bb off k) ∧
      a' = { tmps := #[Value.slice (some ⟨bb, off, none⟩) m.length c, undef, Value.pointer (some ⟨w.heap.size, 0, none⟩), Value.pointer (some ⟨w1.heap.size, 0, none⟩), u4, u5, u6, undef, arV every0, Value.agg #[Value.int .i64 every0.a, Value.int .i64 every0.b, Value.int .i64 every0.c, Value.int .i64 every0.d, Value.slice none 0 0], Value.slice (some ⟨bb, off, none⟩) m.length c, Value.int .i64 m.length, Value.int .i64 z, u13, u14, u15, u16, u17, u18, u19, u20, u21, u22, u23, undef, undef, undef, undef, undef, undef, undef, u31, u32, u33, u34, u35, u36, u37, u38, u39, undef], defers := ds })
    (fun a' _ => m.length - (intOf (a'.tmps.getD 12 undef)).toNat) ?start ?round
  case start => exact ⟨0, 0, [], undef, undef, undef, undef, undef, undef, undef, undef, undef, undef, undef, undef, undef, undef, undef, undef, undef, undef, undef, undef, undef, undef, undef, rfl, Nat.zero_le _, Lib.hid (by intro i hi; omega), trivial, hB2, hr2, hf1, rfl⟩
  case round =>
    rintro a' wr ⟨k, z, ds, u4, u5, u6, u13, u14, u15, u16, u17, u18, u19, u20, u21, u22, u23, u31, u32, u33, u34, u35, u36, u37, u38, u39, rfl, hk, hO, hM, hB, hr, hf, rfl⟩
    clear hr1 hB1 hf1 hr2 hB2
    have hfl := hf.lt
    have hkc : (k : Int) ≤ (c : Int) := by omega
    by_cases gk : k < m.length
    · obtain ⟨⟨t, lo, hi⟩, hx⟩ : ∃ y, m[k]? = some y := ⟨_, List.getElem?_eq_getElem gk⟩
      have NUM := Lib.hid (loop_nums gk hmc hl)
      have hst := allS_ok (k := k) HR.out
      have hop := allS_open hO.out
      have hAN := all_take hx
      have hyx := ahead_ok HR.out hx
      obtain ⟨c1, c2, c3⟩ := band_at (HRD.out.below hB) rfl hx
      obtain ⟨f0, f1, f2, f3, f4, _⟩ := hf.cells
      obtain ⟨s, hs⟩ : ∃ s, s = allS (m.take k) := ⟨_, rfl⟩
      rw [← hs] at f0 f1 f2 f3 hst hop hAN hf
      have HS := Lib.hid hs
      have HAN := Lib.hid hAN
      have HFt := Lib.hid hf
      have HRr := Lib.hid hr
      simp only at c1 c2 c3
      have hbw2 := Nat.lt_of_lt_of_le hbw hB.size
      have i0 : (0 : Int) ≤ (k : Int) := by omega
      have i1 : (k : Int) < (m.length : Int) := by omega
      clear hs hAN hf hr
      go_upto_region 6 with (fail)
      obtain ⟨W6, hW6⟩ : ∃ W6, W6 = (wr.alloc (.cells #[.int .i64 t, .int .i64 lo, .int .i64 hi] 46)).alloc (.cells #[.int .i64 s.a, .int .i64 s.b, .int .i64 s.c, .int .i64 s.d] 50) := ⟨_, rfl⟩
      rw [← hW6]
      have hb6 : Below wr.heap.size wr W6 := by rw [hW6]; exact ((Below.refl _ wr).alloc (Nat.le_refl _) _).alloc (by simp) _
      have hz6 : W6.heap.size = wr.heap.size + 2 := by rw [hW6]; simp
      have hs6 : SlAt W6 (wr.heap.size + 1) s := by
        rw [hW6]
        have := World.alloc_heap_new (wr.alloc (.cells #[.int .i64 t, .int .i64 lo, .int .i64 hi] 46)) (.cells #[.int .i64 s.a, .int .i64 s.b, .int .i64 s.c, .int .i64 s.d] 50)
        rwa [World.size_alloc] at this
      have hHeld : Keeps W6 [(wr.heap.size, 0, .int .i64 t), (wr.heap.size, 1, .int .i64 lo), (wr.heap.size, 2, .int .i64 hi)] W6 := by
        refine ⟨Below.refl _ _, ?_⟩
        rw [hW6]
        simp [Cells, go_sem]
      have HF6 := Lib.hid (And.intro hb6 (And.intro hz6 hs6))
      have MK := Lib.hid (fun W => made_any (some ⟨bb, off, none⟩) k c ⟨t, lo, hi⟩ W)
      clear hW6 hb6 hz6 hs6 f0 f1 f2 f3 f4 c1 c2 c3
      refine wp_calm ?_
      refine region_keeps (w0 := W6) (L := [(wr.heap.size, 0, .int .i64 t), (wr.heap.size, 1, .int .i64 lo), (wr.heap.size, 2, .int .i64 hi)]) (by kernel_rfl) hHeld (fun hHeld0 => ?_)
      refine wpAnyH_take (i := 0) (oi := ⟨some 19, _, _, _, _, _⟩) (v := ?_) rfl (by kernel_rfl) (by kernel_rfl) (by kernel_rfl) (fun _ _ _ h => h) (Or.inl ⟨by rfl, ?_⟩) (by assumption) ?_
      rotate_left
      · intro wq hSw; go_simp; (try with_reducible rfl)
      try go_frame
      refine wpAnyH_take (i := 1) (oi := ⟨some 20, _, _, _, _, _⟩) (v := ?_) rfl (by kernel_rfl) (by kernel_rfl) (by kernel_rfl) (fun _ _ _ h => h) (Or.inl ⟨by rfl, ?_⟩) (by assumption) ?_
      rotate_left
      · intro wq hSw; go_simp; (try with_reducible rfl)
      try go_frame
      refine wpAnyH_take (i := 2) (oi := ⟨some 21, _, _, _, _, _⟩) (v := ?_) rfl (by kernel_rfl) (by kernel_rfl) (by kernel_rfl) (fun _ _ _ h => h) (Or.inl ⟨by rfl, ?_⟩) (by assumption) ?_
      rotate_left
      · intro wq hSw; go_simp; (try with_reducible rfl)
      try go_frame
      refine wpAnyH_take (i := 3) (oi := ⟨some 22, _, _, _, _, _⟩) (v := ?_) rfl (by kernel_rfl) (by kernel_rfl) (by kernel_rfl) (fun _ _ _ h => h) (Or.inl ⟨by rfl, ?_⟩) (by assumption) ?_
      rotate_left
      · intro wq hSw; obtain ⟨⟨qz0, qc0, qf0⟩, ⟨qz1, qc1, qf1⟩, ⟨qz2, qc2, qf2⟩, _⟩ := hSw.2; go_simp; (try with_reducible rfl)
      try go_frame
      refine wpAnyH_ready (rs := [4]) (by kernel_rfl) (by simp) ?_
      refine AllReadyH.cons (o := ⟨some 23, _, _, _, _, _⟩) rfl (fun K hK => ?_) AllReadyH.nil
      go_simp
      ((with_reducible refine (MK.out _).mono ?_); rintro e w5 ⟨g7, rfl, hb, hg7, hg8, hbx, hbd⟩)
      refine hK.out _ _ (hHeld0.next hb) (fun hHeld1 => ?_)
      clear hK K
      try clear hb
      try go_frame
      refine wpAnyH_done (by kernel_rfl) ?_ _
      have hHeld := hHeld1
      obtain ⟨⟨kz0, kc0, kf0⟩, ⟨kz1, kc1, kf1⟩, ⟨kz2, kc2, kf2⟩, _⟩ := hHeld.2
      go_wp2_with fail
      have hb5 : Below wr.heap.size wr w5 := under HF6.out.1 hHeld.1
      have hz5 : wr.heap.size + 2 ≤ g7 := by have := HF6.out.2.1; simp at hg7; omega
      have hM5 : Marks w.heap.size ds w5 := hM.kept (fun D o hD _ => (hb5.block D (Array.getElem?_eq_some_iff.1 hD).1).trans hD)
      have hC5 : Com10 w w1.heap.size s (partV bb off k) ds w5 := ⟨under hB hb5, hM5, (hb5.block _ HRr.out.lt).trans HRr.out, (hb5.block _ HFt.out.lt).trans HFt.out⟩
      have hS5 : SlAt w5 (wr.heap.size + 1) s := (hHeld.1.block _ HF6.out.2.2.lt).trans HF6.out.2.2
      have hlk : (m.take k).length = k := List.length_take_of_le hk
      have hrd : ReadsD w5 (.slice (some ⟨bb, off, none⟩) (m.take k).length c) (m.take k) := by
        rw [hlk]
        exact readsD_take (HRD.out.below hC5.1) k hk
      have hbs : PBase (wr.heap.size + 1) bb off c (m.take k) ⟨t, lo, hi⟩ g7 (g7 + 1) w5 := by
        obtain ⟨oo, ho, hc⟩ := HST.out
        refine ⟨⟨hrd, Nat.lt_of_lt_of_le hbw hC5.1.size, ⟨oo, (hC5.1.block bb hbw).trans ho, hc⟩, ?_, by rw [hlk]; exact hbx, ?_⟩, hbd, by omega⟩
        · simp only [XO]; have := hB.size; omega
        · simp only [XO]; omega
      have hseq := pairs1_turns (wr.heap.size + 1) g7 (m.take k) (by rw [hlk]; omega) ⟨t, lo, hi⟩ hyx.1 (fun b hb => (hyx.2 b hb).1) bb off c g7 (g7 + 1) w5 hbs
      have hTc : ∃ o, w5.heap[g7]? = some o ∧ o.isCells = true := ⟨_, hbx, rfl⟩
      have hi1 : w.heap.size ≤ w5.heap.size := hC5.1.size
      have hi2 : w.heap.size < g7 := by have := hB.size; omega
      have hi3 : w1.heap.size ≠ g7 := by omega
      have HY := Lib.hid hyx
      have HP := Lib.hid (And.intro hst hop)
      clear hHeld0 hHeld1 hHeld hbs hrd hlk kz0 kc0 kf0 kz1 kc1 kf1 kz2 kc2 kf2 hbd HF6 MK hM hB HRr HFt hyx hst hop hx
      refine wp_rangeT (T := g7) (by omega) (gf := 63) (lb := #[.pointer (some ⟨g7, 0, none⟩), .pointer (some ⟨g7 + 1, 0, none⟩)]) rfl (enters_of Tryz.func63 (by kernel_rfl) rfl)
        hseq (fun _ => rfl) (fun h k => KeepsC.trans h k)
        (fun W r r' hr => ⟨by simp, fun _ hk => .inl hk, fun k o ho hc _ => (World.putObj_heap_other (fun e => by subst e; rw [hr] at ho; cases ho; cases hc)).trans ho⟩)
        (fun pre W => w5.heap.size ≤ W.heap.size ∧ Com10 w w1.heap.size s (partV bb off k) ds W ∧ SlAt W (wr.heap.size + 1) (pre.foldl joinS s) ∧ shutS (pre.foldl joinS s) = false)
        (fun cd pre W => cd = .exit 0 ∧ shutS (pre.foldl joinS s) = true ∧ Com10 w w1.heap.size s (partV bb off k) ds W)
        (fun pre A A' hs k => ⟨Nat.le_trans hs.1 k.size, hs.2.1.mild k hi1 hi2 hi3 hM5 hTc, k.cells _ _ hs.2.2.1 rfl (by omega), hs.2.2.2⟩)
        (fun cd pre A A' hs k => ⟨hs.1, hs.2.1, hs.2.2.mild k hi1 hi2 hi3 hM5 hTc⟩)
        ⟨Nat.le_refl _, hC5, hS5, HP.out.2⟩
        (fun x a' W' => ∃ B, a' = { tmps := #[Value.slice (some ⟨bb, off, none⟩) m.length c, undef, Value.pointer (some ⟨w.heap.size, 0, none⟩), Value.pointer (some ⟨w1.heap.size, 0, none⟩), Value.int .i64 k, Value.pointer (some ⟨wr.heap.size, 0, none⟩), Value.pointer (some ⟨wr.heap.size + 1, 0, none⟩), Value.pointer (some ⟨B, 0, none⟩), arV every0, Value.agg #[Value.int .i64 every0.a, Value.int .i64 every0.b, Value.int .i64 every0.c, Value.int .i64 every0.d, Value.slice none 0 0], Value.slice (some ⟨bb, off, none⟩) m.length c, Value.int .i64 m.length, Value.int .i64 k, Value.bool true, Value.int .i64 k, Value.pointer (some ⟨bb, off + k * 3, none⟩), bandV ⟨t, lo, hi⟩, Value.pointer (some ⟨w1.heap.size, 0, none⟩), arV s, Value.slice (some ⟨bb, off, none⟩) m.length c, Value.int .i64 k, Value.slice (some ⟨bb, off, none⟩) k c, bandV ⟨t, lo, hi⟩, Value.func (Fn.func 63) #[] #[Value.pointer (some ⟨g7, 0, none⟩), Value.pointer (some ⟨g7 + 1, 0, none⟩)], arV x, undef, undef, undef, undef, undef, undef, u31, u32, u33, u34, u35, u36, u37, u38, u39, undef], defers := [] } ∧ SlAt W' B x ∧ w5.heap.size ≤ B)
        (fun x a' A A' hs k => by
          obtain ⟨B, h1, h2, h3⟩ := hs
          exact ⟨B, h1, k.cells _ _ h2 rfl (by omega), h3⟩)
        ?assign ?body ?done ?stop
      case assign =>
        rintro l' pre x W Kx ⟨hz, h1, h2, h3⟩ hsp hKx
        have H1 := Lib.hid (And.intro h1 h2)
        clear h1 h2 hseq hC5 hS5
        simp only [encS]
        gi_wp2
        have hb := below_alloc W (.cells #[.int .i64 x.a, .int .i64 x.b, .int .i64 x.c, .int .i64 x.d] 50)
        refine hKx _ _ ((KeepsOthers.alloc W _).from _) ⟨hb.size, fun _ h => .inl h, fun k o ho _ _ => (hb.block k (Array.getElem?_eq_some_iff.1 ho).1).trans ho⟩ ⟨Nat.le_trans hz hb.size, H1.out.1.mild (Mild.alloc (T := g7) W _ hz) hi1 hi2 hi3 hM5 hTc, (hb.block _ H1.out.2.lt).trans H1.out.2, h3⟩ ⟨W.heap.size, rfl, World.alloc_heap_new W _, hz⟩
      case body =>
        rintro l' pre x a' W1 ⟨hz, h1, h2, h3⟩ ⟨B, rfl, hB, hBl⟩ hsp
        have hpo := pairs_ok HY.out hsp
        have hxo := hpo x (by simp)
        have hfo := (fold_stays (l := pre) (fun q hq => hpo q (by simp [hq])) HP.out.1).1
        have AN := Lib.hid (fun W => and_any _ x hfo hxo W)
        have hjo := join_ok hfo hxo
        have hfx : (pre ++ [x]).foldl joinS s = joinS (pre.foldl joinS s) x := by rw [List.foldl_append]; rfl
        generalize pre.foldl joinS s = f at *
        obtain ⟨a0, a1, a2, a3, b0, b1, b2, b3⟩ := h2.cells
        obtain ⟨d0, d1, d2, d3, _⟩ := hB.cells
        have hgt : w.heap.size < wr.heap.size + 1 := by omega
        have hft : w1.heap.size ≠ wr.heap.size + 1 := by omega
        have hlt2 := h2.lt
        have H1 := Lib.hid (And.intro h1 h2)
        have HJ := Lib.hid hfx
        have HJO := Lib.hid hjo
        clear h1 h2 hseq hC5 hS5 hpo hxo hfo hjo hfx hsp
        cases gs : shutS (joinS f x)
        · rw [gs] at AN
          simp only [Bool.false_eq_true, if_false] at AN
          have HG := Lib.hid gs
          clear gs
          obtain ⟨j, hj⟩ : ∃ j, j = joinS f x := ⟨_, rfl⟩
          rw [← hj] at AN HJO HJ HG
          clear hj
          gi_wp2_with fail
          refine ⟨trivial, ?_⟩
          refine (CallsIn.inRound l' (callsIn_wide.2 (AN.out _))).mono ?_
          rintro en w3 ⟨rfl, hb3⟩
          have HE := Lib.hid (round_told (w5 := w5) (pre := pre) (x := x) hb3 hz H1.out.1 H1.out.2 hgt hft j HJ.out HG.out)
          obtain ⟨e0, e1, e2, e3, p0, p1, p2, p3⟩ := (show SlAt w3 (wr.heap.size + 1) f from (hb3.block _ hlt2).trans H1.out.2).cells
          have q1 := eql_no j HJO.out
          obtain ⟨x0, x1, x2, x3⟩ := j
          simp only at HE q1
          unfold put4 at HE
          clear AN HJ HG H1 hb3 HJO
          gi_wp2_with fail
          exact HE.out
        · rw [gs] at AN
          simp only [if_true] at AN
          have HG := Lib.hid gs
          clear gs
          gi_wp2_with fail
          refine ⟨trivial, ?_⟩
          refine (CallsIn.inRound l' (callsIn_wide.2 (AN.out _))).mono ?_
          rintro en w3 ⟨rfl, hb3⟩
          have HE := Lib.hid (round_left (w5 := w5) hb3 H1.out.1 hgt hft (.int .i64 0) (.int .i64 0) (.int .i64 0) (.int .i64 0))
          obtain ⟨e0, e1, e2, e3, p0, p1, p2, p3⟩ := (show SlAt w3 (wr.heap.size + 1) f from (hb3.block _ hlt2).trans H1.out.2).cells
          have q1 := eql_yes
          simp only [none0]
          unfold put4 at HE
          have HN : Hid (shutS ((pre ++ [x]).foldl joinS s) = true) := Lib.hid (by rw [HJ.out]; exact HG.out)
          clear AN HJ HG H1 hb3 HJO
          gi_wp2_with fail
          exact ⟨HE.out.1, rfl, HN.out, HE.out.2⟩
      case done =>
        rintro xs W1 rfl ⟨hz, h1, h2, h3⟩ hKD
        have hAN : ((m.take k).map (fun x => pairS x ⟨t, lo, hi⟩)).foldl joinS s = allS (m.take (k + 1)) := by rw [← let_fold, HAN.out]
        rw [hAN] at h2 h3
        have HO2 : Hid (∀ i, i < k + 1 → shutS (allS (m.take (i + 1))) = false) := Lib.hid (fun i hi => by
          by_cases e : i = k
          · subst e; exact h3
          · exact hO.out i (by omega))
        obtain ⟨a0, a1, a2, a3, _⟩ := h2.cells
        obtain ⟨f0, f1, f2, f3, f4, z0, z1, z2, z3, z4⟩ := h1.2.2.2.cells
        have HE := Lib.hid (fit_told (s' := allS (m.take (k + 1))) (v' := .slice (some ⟨bb, off, none⟩) (k + 1) (k + 1)) (W1 := W1.drew) (h1.next (Below.refl _ _).drew) hM5 hKD hi1 (by omega))
        have hzl := h2.lt
        have hKs : Keeps w [(wr.heap.size + 1, 0, .int .i64 (allS (m.take (k + 1))).a), (wr.heap.size + 1, 1, .int .i64 (allS (m.take (k + 1))).b), (wr.heap.size + 1, 2, .int .i64 (allS (m.take (k + 1))).c), (wr.heap.size + 1, 3, .int .i64 (allS (m.take (k + 1))).d)] W1 := by
          obtain ⟨_, _, _, _, y0, y1, y2, y3⟩ := h2.cells
          exact ⟨h1.1, ⟨hzl, a0, y0⟩, ⟨hzl, a1, y1⟩, ⟨hzl, a2, y2⟩, ⟨hzl, a3, y3⟩, trivial⟩
        have HKS := Lib.hid hKs
        have hA : w.heap.size ≤ w1.heap.size := by omega
        clear hKs
        clear hseq hC5 hS5 hAN h1 h2 h3
        obtain ⟨s', hs'⟩ : ∃ s', s' = allS (m.take (k + 1)) := ⟨_, rfl⟩
        rw [← hs'] at a0 a1 a2 a3 HE HKS
        have HS2 := Lib.hid hs'
        clear hs'
        obtain ⟨e1, e2, n1, n2, n3, _, e3, n4⟩ := NUM.out
        have hmx : Tryz.prog.follows .mixedOrders = true := by kernel_rfl
        have hN : ∀ q ∈ [((wr.heap.size + 1 : Nat), (0 : Nat), Value.int .i64 s'.a), (wr.heap.size + 1, 1, .int .i64 s'.b), (wr.heap.size + 1, 2, .int .i64 s'.c), (wr.heap.size + 1, 3, .int .i64 s'.d)], q.1 ≠ w1.heap.size := by
          intro q hq
          simp only [List.mem_cons, List.not_mem_nil, or_false] at hq
          rcases hq with rfl | rfl | rfl | rfl <;> exact Nat.ne_of_gt (Nat.lt_succ_of_lt hfl)
        have hHeld := HKS.out
        clear hg8
        unfold put5 at HE
        go_wp2_with fail
        refine wp_calmQ ?_
        refine region_keeps (w0 := w) (L := [(wr.heap.size + 1, 0, .int .i64 s'.a), (wr.heap.size + 1, 1, .int .i64 s'.b), (wr.heap.size + 1, 2, .int .i64 s'.c), (wr.heap.size + 1, 3, .int .i64 s'.d)]) (by kernel_rfl) hHeld (fun hHeld0 => ?_)
        refine wpAnyH_take (i := 0) (oi := ⟨some 31, _, _, _, _, _⟩) (v := ?_) rfl (by kernel_rfl) (by kernel_rfl) (by kernel_rfl) (fun _ _ _ h => h) (Or.inl ⟨by rfl, ?_⟩) (by assumption) ?_
        rotate_left
        · intro wq hSw; obtain ⟨⟨qz0, qc0, qf0⟩, ⟨qz1, qc1, qf1⟩, ⟨qz2, qc2, qf2⟩, ⟨qz3, qc3, qf3⟩, _⟩ := hSw.2; go_simp; (try with_reducible rfl)
        try go_frame
        refine wpAnyH_take (i := 1) (oi := ⟨some 32, _, _, _, _, _⟩) (v := ?_) rfl (by kernel_rfl) (by kernel_rfl) (by kernel_rfl) (fun _ _ _ h => h) (Or.inl ⟨by rfl, ?_⟩) (by assumption) ?_
        rotate_left
        · intro wq hSw; go_simp; (try with_reducible rfl)
        try go_frame
        refine wpAnyH_take (i := 2) (oi := ⟨some 33, _, _, _, _, _⟩) (v := ?_) rfl (by kernel_rfl) (by kernel_rfl) (by kernel_rfl) (fun _ _ _ h => h) (Or.inl ⟨by rfl, ?_⟩) (by assumption) ?_
        rotate_left
        · intro wq hSw; go_simp; (try with_reducible rfl)
        try go_frame
        refine wpAnyH_take (i := 3) (oi := ⟨some 34, _, _, _, _, _⟩) (v := ?_) rfl (by kernel_rfl) (by kernel_rfl) (by kernel_rfl) (fun _ _ _ h => h) (Or.inl ⟨by rfl, ?_⟩) (by assumption) ?_
        rotate_left
        · intro wq hSw; go_simp; (try with_reducible rfl)
        try go_frame
        refine wpAnyH_take (i := 4) (oi := ⟨some 35, _, _, _, _, _⟩) (v := ?_) rfl (by kernel_rfl) (by kernel_rfl) (by kernel_rfl) (fun _ _ _ h => h) (Or.inl ⟨by rfl, ?_⟩) (by assumption) ?_
        rotate_left
        · intro wq hSw; go_simp; (try with_reducible rfl)
        try go_frame
        refine wpAnyH_take (i := 5) (oi := ⟨some 36, _, _, _, _, _⟩) (v := ?_) rfl (by kernel_rfl) (by kernel_rfl) (by kernel_rfl) (fun _ _ _ h => h) (Or.inl ⟨by rfl, ?_⟩) (by assumption) ?_
        rotate_left
        · intro wq hSw; go_simp; (try with_reducible rfl)
        try go_frame
        refine wpAnyH_take (i := 6) (oi := ⟨some 37, _, _, _, _, _⟩) (v := ?_) rfl (by kernel_rfl) (by kernel_rfl) (by kernel_rfl) (fun _ _ _ h => h) (Or.inl ⟨by rfl, ?_⟩) (by assumption) ?_
        rotate_left
        · intro wq hSw; go_simp; (try with_reducible rfl)
        try go_frame
        refine wpAnyH_take (i := 7) (oi := ⟨some 38, _, _, _, _, _⟩) (v := ?_) rfl (by kernel_rfl) (by kernel_rfl) (by kernel_rfl) (fun _ _ _ h => h) (Or.inl ⟨by rfl, ?_⟩) (by assumption) ?_
        rotate_left
        · intro wq hSw; go_simp; (try with_reducible rfl)
        try go_frame
        refine wpAnyH_ready (rs := [8]) (by kernel_rfl) (by simp) ?_
        refine AllReadyH.cons (o := ⟨none, _, _, _, _, _⟩) rfl (fun K hK => ?_) AllReadyH.nil
        go_simp
        refine hK.out _ _ ((by first | exact (((((hHeld0.set (p := ⟨w1.heap.size, 0, none⟩) hA hN _).set (p := ⟨w1.heap.size, 1, none⟩) hA hN _).set (p := ⟨w1.heap.size, 2, none⟩) hA hN _).set (p := ⟨w1.heap.size, 3, none⟩) hA hN _).set (p := ⟨w1.heap.size, 4, none⟩) hA hN _) | exact (((((hHeld0.set (p := ⟨w1.heap.size, 0, none⟩) hA hN _).set (p := ⟨w1.heap.size, 1, none⟩) hA hN _).set (p := ⟨w1.heap.size, 2, none⟩) hA hN _).set (p := ⟨w1.heap.size, 3, none⟩) hA hN _).set (p := ⟨w1.heap.size, 4, none⟩) hA hN _).drew)) (fun hHeld1 => ?_)
        clear hK K
        try clear hb
        try go_frame
        refine wpAnyH_done (by kernel_rfl) ?_ _
        have hHeld := hHeld1
        obtain ⟨⟨kz0, kc0, kf0⟩, ⟨kz1, kc1, kf1⟩, ⟨kz2, kc2, kf2⟩, ⟨kz3, kc3, kf3⟩, _⟩ := hHeld.2
        all_goals
          go_wp2_with fail
          refine ⟨⟨k + 1, (k : Int) + 1, _, _, _, _, _, _, _, _, _, _, _, _, _, _, _, _, _, _, _, _, _, _, _, _, by simp, NUM.out.2.2.2.2.2.1, HO2, HE.out.1, HE.out.2.1, HE.out.2.2.1, ?_, rfl⟩, turn_next gk⟩
          rw [← HS2.out, partV, if_neg n3]
          exact HE.out.2.2.2
      case stop =>
        rintro cd pre W1 hpre ⟨rfl, hq, h1⟩ hKD
        have hsh := part_shut HY.out HP.out.1 hpre hq
        rw [← HAN.out] at hsh
        have hn : firN m = k := firN_eq hk hO.out (.inr hsh)
        have hf' : FitAt W1 w1.heap.size (firS m) (.slice (some ⟨bb, off, none⟩) (firN m) (firN m)) := by
          have h0 := (firN_le hm).1
          rw [hn] at h0
          have h2 := h1.2.2.2
          rw [partV, if_neg (by omega), HS.out] at h2
          rw [firS, hn]
          exact h2
        have HE := Lib.hid (And.intro (h1.2.1.cons hM5 (Nat.le_refl _) hi1 hKD) (And.intro h1.1 (And.intro h1.2.2.1 hf')))
        clear hseq hC5 hS5 hsh hn hf' h1 hpre hq
        go_wp2_with fail
        exact FIN.out _ _ _ _ _ _ _ _ _ _ _ _ _ _ _ _ _ _ _ _ _ _ _ _ _ _ _ _ _ _ _ _ _ _ _ _ _ _ _ _ W1 HE.out.1 HE.out.2.1 HE.out.2.2.1 HE.out.2.2.2
    · have hkk : k = m.length := by omega
      have hn : firN m = k := firN_eq (by omega) hO.out (.inl hkk)
      have hf' : FitAt wr w1.heap.size (firS m) (.slice (some ⟨bb, off, none⟩) (firN m) (firN m)) := by
        have h0 := (firN_le hm).1
        rw [hn] at h0
        rw [partV, if_neg (by omega)] at hf
        rw [firS, hn]
        exact hf
      have i1 : ¬ (k : Int) < (m.length : Int) := by omega
      clear hf hn hkk
      go_wp2_with fail
      exact FIN.out _ _ _ _ _ _ _ _ _ _ _ _ _ _ _ _ _ _ _ _ _ _ _ _ _ _ _ _ _ _ _ _ _ _ _ _ _ _ _ ds wr hM hB hr hf'
end Go.Proofs.YtoephkglpbophaaGreat.P10
