/-
  Layer 8: pmc: the first of the parts. Conditions: those written at each fact.
-/
import Derived.Test.YtmkminaipeodnaaBdF
namespace Go.Proofs.Ytmkminaipeodnaa.P8
open Go.RowKit Go.Shelf
attribute [local go_sem] Oper.semAt_some

/-- A span's block. -/
def SpanAt (W : World) (B : Nat) (lo hi : Int) : Prop := W.heap[B]? = some (.cells #[.int .i64 lo, .int .i64 hi] 26 (0, 0))
theorem SpanAt.lt {W : World} {B : Nat} {lo hi : Int} (h : SpanAt W B lo hi) : B < W.heap.size := (Array.getElem?_eq_some_iff.1 h).1
theorem SpanAt.cells {w : World} {G : Nat} {n s : Int} (h : SpanAt w G n s) : w.cell? ⟨G, 0, none⟩ = some (.int .i64 n) ∧ w.cell? ⟨G, 1, none⟩ = some (.int .i64 s) ∧ w.frozen? ⟨G, 0, none⟩ = false ∧ w.frozen? ⟨G, 1, none⟩ = false := by
  have e : w.heap[G]? = _ := h
  simp [World.cell?, World.frozen?, e]
theorem span_grown {W W' : World} {row : Option Nat} {B : Nat} {lo hi : Int} (h : SpanAt W B lo hi) (hgr : W.grownBy W' row) (hr : ∀ r, row = some r → ∃ o : Obj, W.heap[r]? = some o ∧ o.isCells = false) : SpanAt W' B lo hi := cells_kept hgr hr h rfl
theorem SpanAt.set {w : World} {G : Nat} {n s x y : Int} (h : SpanAt w G n s) : SpanAt ((w.setCell ⟨G, 0, none⟩ (.int .i64 x)).setCell ⟨G, 1, none⟩ (.int .i64 y)) G x y := by
  have e1 : SpanAt (w.setCell ⟨G, 0, none⟩ (.int .i64 x)) G x s := by
    obtain ⟨hlt, hk⟩ := Array.getElem?_eq_some_iff.1 h
    show (w.heap.modify G _)[G]? = _
    rw [Array.getElem?_eq_getElem (by rw [Array.size_modify]; exact hlt), Array.getElem_modify_self, hk]
    rfl
  obtain ⟨hlt, hk⟩ := Array.getElem?_eq_some_iff.1 e1
  show ((w.setCell ⟨G, 0, none⟩ (.int .i64 x)).heap.modify G _)[G]? = _
  rw [Array.getElem?_eq_getElem (by rw [Array.size_modify]; exact hlt), Array.getElem_modify_self, hk]
  rfl
theorem stand_of {w W : World} {bb off c Bl : Nat} {l : List Bd} (h : ReadsD w (.slice (some ⟨bb, off, none⟩) l.length c) l) (hne : l ≠ []) (hb : Below w.heap.size w W) (hbx : Boxed W Bl 22 (.slice (some ⟨bb, off, none⟩) l.length c)) : bb < w.heap.size ∧ (∀ X : World → Nat → Prop, ¬ X W bb → ¬ X W Bl → Stand X bb off c l Bl W) := by
  have hr := h
  obtain ⟨_, _, e, _, hk⟩ := h
  cases e
  obtain ⟨r, l', rfl⟩ := List.exists_cons_of_ne_nil hne
  obtain ⟨_, _, e1, e2, e3, _⟩ := hk 0 r rfl
  cases e1
  refine ⟨e2, fun X h1 h2 => ⟨hr.below hb, Nat.lt_of_lt_of_le e2 hb.size, ?_, h1, hbx, h2⟩⟩
  obtain ⟨o, ho⟩ : ∃ o, w.heap[bb]? = some o := ⟨_, Array.getElem?_eq_getElem e2⟩
  refine ⟨o, (hb.block bb e2).trans ho, ?_⟩
  cases o with
  | cells _ _ _ => rfl
  | _ => simp [World.cell?, ho] at e3
/-- The first part. -/
def firstD : List Bd → Pt
  | [] => ⟨0, 0, 0, 0⟩
  | b :: l => ⟨0, (goM b.lo b.hi l).1 + 1, (goM b.lo b.hi l).2.1, (goM b.lo b.hi l).2.2⟩
theorem partsD_head {l : List Bd} (h : l ≠ []) : ∃ r, partsD 0 l = firstD l :: r := by
  cases l with
  | nil => exact absurd rfl h
  | cons b l => exact ⟨_, partsD_cons 0 b l⟩
/-- How the loop is left. -/
def Left1 (w : World) (bb off : Nat) (c : Code) (pre : List Pt) (W : World) : Prop :=
  Below w.heap.size w W ∧ c = .ret ∧ ∃ p, pre = [p] ∧ Boxed W w.heap.size 22 (.slice (some ⟨bb, off + p.f * 3, none⟩) p.n p.n) ∧ SpanAt W (w.heap.size + 1) p.lo p.hi
set_option maxRecDepth 100000 in
set_option maxHeartbeats 2000000 in
theorem first_any (l : List Bd) (hl : l.length ≤ 1000000) (hR : ∀ r ∈ l, BdOk r) (hne : l ≠ []) (bb off c : Nat) (w : World) (h : ReadsD w (.slice (some ⟨bb, off, none⟩) l.length c) l) :
    Calls Try.prog 29 #[.slice (some ⟨bb, off, none⟩) l.length c] w (Ret w (.tuple #[.slice (some ⟨bb, off, none⟩) (firstD l).n (firstD l).n, spV (firstD l).lo (firstD l).hi])) := by
  obtain ⟨rest, hpt⟩ := partsD_head hne
  have hf0 : (firstD l).f = 0 := by cases l <;> rfl
  refine calls_marks Try.func29 rfl ?_
  simp only [Try.ntmps29, List.size_toArray, List.length_cons, List.length_nil, Nat.reduceAdd, Nat.reduceSub, Array.replicate_succ, Array.replicate_zero, List.push_toArray, List.append_toArray, List.nil_append, List.cons_append]
  go_wp2_with (go_at_call 38; refine (parts_any _ _ _ _ _ rfl).mono ?_; rintro e w' ⟨rfl, rfl⟩)
  obtain ⟨W2, hW2⟩ : ∃ W2, W2 = (((w.alloc (.cells #[.slice none 0 0] 22)).alloc (.cells #[.int .i64 0, .int .i64 0] 26)).alloc (.cells #[.slice (some ⟨bb, off, none⟩) l.length c] 22)) := ⟨_, rfl⟩
  rw [← hW2]
  have hs2 : W2.heap.size = w.heap.size + 3 := by rw [hW2]; simp
  have b1 : Boxed W2 w.heap.size 22 (.slice none 0 0) := by rw [hW2]; exact ((Boxed.new w _ _).alloc _).alloc _
  have b2 : SpanAt W2 (w.heap.size + 1) 0 0 := by
    rw [hW2]
    have := World.alloc_heap_new (w.alloc (.cells #[.slice none 0 0] 22)) (.cells #[.int .i64 0, .int .i64 0] 26)
    rw [World.size_alloc] at this
    exact ((below_alloc ((w.alloc (.cells #[.slice none 0 0] 22)).alloc (.cells #[.int .i64 0, .int .i64 0] 26)) _).block _ (by simp)).trans this
  have b3 : Boxed W2 (w.heap.size + 2) 22 (.slice (some ⟨bb, off, none⟩) l.length c) := by
    rw [hW2]
    have := Boxed.new ((w.alloc (.cells #[.slice none 0 0] 22)).alloc (.cells #[.int .i64 0, .int .i64 0] 26)) 22 (.slice (some ⟨bb, off, none⟩) l.length c)
    rwa [World.size_alloc, World.size_alloc] at this
  have b4 : Below w.heap.size w W2 := by rw [hW2]; exact (((Below.refl _ w).alloc (Nat.le_refl _) _).alloc (by simp) _).alloc (by simp; omega) _
  have hXN : Hangs XN w.heap.size := fun _ _ _ _ h => h
  obtain ⟨_, hst⟩ := stand_of h hne b4 b3
  have hseq := parts1_stops XN w.heap.size hXN l hl hR bb off c (w.heap.size + 2) W2 (by omega) (hst XN (fun h => h) (fun h => h))
  have HPT := Lib.hid hpt
  clear hW2 hst h hR b3 hpt
  refine wp_rangeH (X := XN) (b := w.heap.size) hXN (by omega) (gf := 48) (lb := #[.pointer (some ⟨w.heap.size + 1 + 1, 0, none⟩)]) rfl (enters_of Try.func48 (by kernel_rfl) rfl)
    hseq (fun _ => rfl)
    (fun pre W' => pre = [] ∧ Boxed W' w.heap.size 22 (.slice none 0 0) ∧ SpanAt W' (w.heap.size + 1) 0 0 ∧ Below w.heap.size w W') (Left1 w bb off)
    ?oI ?oIx ⟨rfl, b1, b2, b4⟩
    (fun x a' W' => ∃ B, a' = { tmps := #[Value.slice (some ⟨bb, off, none⟩) l.length c, undef, Value.pointer (some ⟨w.heap.size, 0, none⟩), Value.pointer (some ⟨w.heap.size + 1, 0, none⟩), .slice (some ⟨bb, off + x.f * 3, none⟩) x.n x.n, Value.pointer (some ⟨B, 0, none⟩), Value.slice (some ⟨bb, off, none⟩) l.length c, Value.func (Fn.func 48) #[] #[Value.pointer (some ⟨w.heap.size + 1 + 1, 0, none⟩)], .slice (some ⟨bb, off + x.f * 3, none⟩) x.n x.n, spV x.lo x.hi, undef, undef, undef], defers := [] } ∧ SpanAt W' B x.lo x.hi ∧ w.heap.size + 2 ≤ B)
    ?oA ?assign ?body ?done ?stop
  case oI =>
    intro pre W1 W1' row ⟨h0, h1, h2, h3⟩ hgr hr
    have hr2 : ∀ r, row = some r → ∃ o : Obj, W1.heap[r]? = some o ∧ o.isCells = false := fun r e => (hr r e).2
    exact ⟨h0, boxed_grown h1 hgr hr2, span_grown h2 hgr hr2, below_grown (C := W2.heap.size) b4.size h3 hgr (fun r e => (hr r e).1)⟩
  case oIx =>
    intro c' pre W1 W1' row ⟨h1, h2, p, h3, h4, h5⟩ hgr hr
    have hr2 : ∀ r, row = some r → ∃ o : Obj, W1.heap[r]? = some o ∧ o.isCells = false := fun r e => (hr r e).2
    exact ⟨below_grown (C := W2.heap.size) b4.size h1 hgr (fun r e => (hr r e).1), h2, p, h3, boxed_grown h4 hgr hr2, span_grown h5 hgr hr2⟩
  case oA =>
    intro x a' _ W1 W1' row ⟨B, h1, h2, h3⟩ hgr hr
    exact ⟨B, h1, span_grown h2 hgr (fun r e => (hr r e).2), h3⟩
  case assign =>
    rintro l' pre ⟨f, n, lo, hi⟩ W K ⟨h0, h1, h2, h3⟩ hK
    have H1 := Lib.hid (And.intro h1 (And.intro h2 h3))
    clear h1 h2 h3 hseq b1 b2 b4
    simp only [encP]
    gi_wp2
    have hb := below_alloc W (.cells #[.int .i64 lo, .int .i64 hi] 26)
    refine hK _ _ ((KeepsOthers.alloc W _).from _) ⟨hb.size, fun _ h => .inl h, fun k o ho _ _ => (hb.block k (Array.getElem?_eq_some_iff.1 ho).1).trans ho⟩ ⟨h0, H1.out.1.alloc _, (hb.block _ H1.out.2.1.lt).trans H1.out.2.1, under H1.out.2.2 hb⟩ ⟨W.heap.size, rfl, World.alloc_heap_new W _, H1.out.2.1.lt⟩
  case body =>
    rintro l' pre ⟨f, n, lo, hi⟩ a' W1 ⟨h0, h1, h2, h3⟩ ⟨B, rfl, hB, hBl⟩ hlt
    have H1 := Lib.hid h1
    have H2 := Lib.hid h2
    have H3 := Lib.hid h3
    have hc1 := h1.cell
    have hf1 := h1.frozen
    obtain ⟨d0, d1, f0, f1⟩ := h2.cells
    obtain ⟨e0, e1, _, _⟩ := hB.cells
    have q0 : ∀ u, (W1.drew.setCell ⟨w.heap.size, 0, none⟩ u).cell? ⟨B, 0, none⟩ = some (.int .i64 lo) := fun u => off_cell (by first | (simp; done) | (simp; omega)) e0
    have q1 : ∀ u, (W1.drew.setCell ⟨w.heap.size, 0, none⟩ u).cell? ⟨B, 1, none⟩ = some (.int .i64 hi) := fun u => off_cell (by first | (simp; done) | (simp; omega)) e1
    clear h1 h2 h3 hB hseq b1 b2 b4 hlt
    have hmx : Try.prog.follows .mixedOrders = true := by kernel_rfl
    simp only at e0 e1
    gi_wp2
    gi_region
    all_goals
      gi_wp2
      refine ⟨((KeepsOthers.setCell _ _ _).trans ((KeepsOthers.setCell _ _ _).trans ((KeepsOthers.setCell _ _ _).trans (KeepsOthers.drew _)))).from _, ?_, rfl, ⟨f, n, lo, hi⟩, by rw [h0]; rfl, ?_, ?_⟩
      · exact (((H3.out.setCell (p := ⟨w.heap.size, 0, none⟩) (Nat.le_refl _) _).setCell (p := ⟨w.heap.size + 1, 0, none⟩) (by simp) _).setCell (p := ⟨w.heap.size + 1, 1, none⟩) (by simp) _).drew
      · exact (Below.heap_setCell _ ⟨w.heap.size + 1, 1, none⟩ _ w.heap.size (by simp)).trans ((Below.heap_setCell _ ⟨w.heap.size + 1, 0, none⟩ _ w.heap.size (by simp)).trans (H1.out.set _))
      · have h5 : SpanAt (W1.setCell ⟨w.heap.size, 0, none⟩ (.slice (some ⟨bb, off + f * 3, none⟩) n n)) (w.heap.size + 1) 0 0 := (Below.heap_setCell _ ⟨w.heap.size, 0, none⟩ _ (w.heap.size + 1) (by simp)).trans H2.out
        exact h5.set
  case done =>
    rintro D ys W1 hD rfl ⟨h0, h1, h2, h3⟩ hK
    rw [HPT.out] at h0
    cases h0
  case stop =>
    rintro D c' pre W1 hD hpre ⟨h1, rfl, p, h3, h4, h5⟩ hK
    have hp : p = firstD l := by
      rw [h3, HPT.out] at hpre
      exact (List.cons_prefix_cons.1 hpre).1
    subst h3
    rw [hp, hf0] at h4
    rw [hp] at h5
    have hc4 := (boxed_grown h4 (grownBy_putObj' W1 D (.deferred none)) (fun r e => by cases e; exact ⟨_, hK, rfl⟩)).cell
    obtain ⟨d0, d1, _, _⟩ := (span_grown h5 (grownBy_putObj' W1 D (.deferred none)) (fun r e => by cases e; exact ⟨_, hK, rfl⟩)).cells
    obtain ⟨o0, o1, _, _⟩ := h5.cells
    have o4 := h4.cell
    clear hseq hpre
    generalize firstD l = q at *
    obtain ⟨f, n, lo, hi⟩ := q
    simp only at d0 d1 o0 o1 o4 hc4
    go_wp2_with fail
    refine ⟨by simp, .inl ⟨_, _, rfl, run_takeDeferred hK, ?_⟩⟩
    refine ⟨.tuple #[.slice (some ⟨bb, off + 0 * 3, none⟩) n n, spV lo hi], by simp [results, Try.results29, go_sem, hc4, d0, d1], by simp, below_grown (C := W2.heap.size) b4.size h1 (grownBy_putObj' W1 D _) (fun r e => by cases e; exact hD)⟩
end Go.Proofs.Ytmkminaipeodnaa.P8
