/-
  Layer 9: swing: the first part, and its door. Conditions: those written at each fact.
-/
import Derived.Test.YtoephkglpbophaaGreatSwG
namespace Go.Proofs.YtoephkglpbophaaGreat.P9
open Go.RowKit Go.Shelf Go.Proofs.YtoephkglpbophaaGreat.P8
attribute [local go_sem] Oper.semAt_some

/-- What is told when n bands are taken. -/
def partV (bb off : Nat) (n : Nat) : Value := if n = 0 then .slice none 0 0 else .slice (some ⟨bb, off, none⟩) n n
def doorX (x0 : Dr) (m : List Bd) (n : Nat) : Dr := if n = 0 then ⟨0, 0, 0, 0, 0, 0⟩ else fD x0 (m.take n)
/-- What stands at n bands. -/
def Told (w : World) (bl P0 P1 bb off c : Nat) (x0 : Dr) (m : List Bd) (n : Nat) (W : World) : Prop :=
  Below w.heap.size w W ∧ Boxed W bl 22 (.slice (some ⟨bb, off, none⟩) m.length c) ∧ Boxed W P0 22 (partV bb off n) ∧ DrAt W P1 (doorX x0 m n)
theorem cells_mild {B T : Nat} {A A' : World} (h : Mild B T A A') {C : Nat} (hC : C ≠ T) {L : List (Nat × Nat × Value)} (hL : Cells L A) (hB : ∀ q ∈ L, q.1 = C) (hne : L ≠ []) : Cells L A' := by
  obtain ⟨o, ho, hc⟩ := cells_one hL C hB hne
  exact cells_block ((h.cells C o ho hc hC).trans ho.symm) h.size hL hB
theorem Told.mild {w : World} {bl P0 P1 bb off c : Nat} {x0 : Dr} {m : List Bd} {n B T : Nat} {A A' : World} (h : Told w bl P0 P1 bb off c x0 m n A) (k : Mild B T A A') (hB : w.heap.size ≤ B) (hT : w.heap.size ≤ T) (hl : bl ≠ T) (h0 : P0 ≠ T) (h1 : P1 ≠ T) : Told w bl P0 P1 bb off c x0 m n A' :=
  ⟨k.below h.1 hB hT, k.cells bl _ h.2.1 rfl hl, k.cells P0 _ h.2.2.1 rfl h0, cells_mild k h1 h.2.2.2 (by simp) (by simp)⟩
theorem KeepsOthers.of_below {W W' : World} (h : Below W.heap.size W W') : KeepsOthers W W' := ⟨h.size, fun k _ ho _ => (h.block k (Array.getElem?_eq_some_iff.1 ho).1).trans ho⟩
theorem KeepsC.setOf {P0 P1 : Nat} (W : World) (b o : Nat) (u : Value) (hb : b = P0 ∨ b = P1) : KeepsC (XP P0 P1) W (W.setCell ⟨b, o, none⟩ u) :=
  ⟨by simp, fun _ hk => .inl hk, fun k ob ho _ hx => (Below.heap_setCell W ⟨b, o, none⟩ u k (fun e => hx (by subst e; exact hb))).trans ho⟩
theorem keeps_put6 {P0 P1 : Nat} (W : World) (b : Nat) (u0 u1 u2 u3 u4 u5 : Value) (hb : b = P0 ∨ b = P1) : KeepsC (XP P0 P1) W (put6 W b u0 u1 u2 u3 u4 u5) :=
  ((((KeepsC.setOf W b 0 u0 hb).trans (KeepsC.setOf _ b 1 u1 hb)).trans (KeepsC.setOf _ b 2 u2 hb)).trans ((KeepsC.setOf _ b 3 u3 hb).trans (KeepsC.setOf _ b 4 u4 hb))).trans (KeepsC.setOf _ b 5 u5 hb)
theorem others_put6 (W : World) (b : Nat) (u0 u1 u2 u3 u4 u5 : Value) : KeepsOthers W (put6 W b u0 u1 u2 u3 u4 u5) :=
  ((((KeepsOthers.setCell W _ _).trans (KeepsOthers.setCell _ _ _)).trans (KeepsOthers.setCell _ _ _)).trans ((KeepsOthers.setCell _ _ _).trans (KeepsOthers.setCell _ _ _))).trans (KeepsOthers.setCell _ _ _)
theorem heap_put6 (W : World) (b : Nat) (u0 u1 u2 u3 u4 u5 : Value) (k : Nat) (h : k ≠ b) : (put6 W b u0 u1 u2 u3 u4 u5).heap[k]? = W.heap[k]? := by
  unfold put6
  exact (Below.heap_setCell _ ⟨b, 5, none⟩ _ k h).trans ((Below.heap_setCell _ ⟨b, 4, none⟩ _ k h).trans ((Below.heap_setCell _ ⟨b, 3, none⟩ _ k h).trans ((Below.heap_setCell _ ⟨b, 2, none⟩ _ k h).trans ((Below.heap_setCell _ ⟨b, 1, none⟩ _ k h).trans (Below.heap_setCell _ ⟨b, 0, none⟩ _ k h)))))
theorem dr_put6 {W : World} {b : Nat} {y : Dr} (h : DrAt W b y) (x : Dr) : DrAt (put6 W b (.int .i64 x.t) (.int .i64 x.v) (.int .i64 x.a) (.int .i64 x.b) (.int .i64 x.c) (.int .i64 x.d)) b x := by
  obtain ⟨⟨z0, c0, f0⟩, ⟨z1, c1, f1⟩, ⟨z2, c2, f2⟩, ⟨z3, c3, f3⟩, ⟨z4, c4, f4⟩, ⟨z5, c5, f5⟩, _⟩ := h
  obtain ⟨d0, d1, d2, d3, d4, d5⟩ := set6 (W := W) (B := b) (u0 := .int .i64 x.t) (u1 := .int .i64 x.v) (u2 := .int .i64 x.a) (u3 := .int .i64 x.b) (u4 := .int .i64 x.c) (u5 := .int .i64 x.d) c0 c1 c2 c3 c4 c5
  have hz : b < (put6 W b (.int .i64 x.t) (.int .i64 x.v) (.int .i64 x.a) (.int .i64 x.b) (.int .i64 x.c) (.int .i64 x.d)).heap.size := by unfold put6; simpa using z0
  have hf : ∀ o, (put6 W b (.int .i64 x.t) (.int .i64 x.v) (.int .i64 x.a) (.int .i64 x.b) (.int .i64 x.c) (.int .i64 x.d)).frozen? ⟨b, o, none⟩ = W.frozen? ⟨b, o, none⟩ := fun o => by unfold put6; simp only [World.frozen?_setCell]
  exact ⟨⟨hz, d0, (hf 0).trans f0⟩, ⟨hz, d1, (hf 1).trans f1⟩, ⟨hz, d2, (hf 2).trans f2⟩, ⟨hz, d3, (hf 3).trans f3⟩, ⟨hz, d4, (hf 4).trans f4⟩, ⟨hz, d5, (hf 5).trans f5⟩, trivial⟩
theorem round_told (w W1 w3 WF : World) (S : Nat) (hz : S ≤ W1.heap.size) (bb off c : Nat) (x0 : Dr) (m : List Bd) (pre : List (Nat × Dr)) (k : Nat) (y : Dr) (hk : k = pre.length + 1) (hy : y = fD x0 (m.take (pre.length + 1)))
    (hWF : WF = put6 (w3.setCell ⟨w.heap.size + 1, 0, none⟩ (.slice (some ⟨bb, off, none⟩) k k)) (w.heap.size + 2) (.int .i64 y.t) (.int .i64 y.v) (.int .i64 y.a) (.int .i64 y.b) (.int .i64 y.c) (.int .i64 y.d))
    (g1 : Below w.heap.size w w3) (g2 : Boxed w3 w.heap.size 22 (.slice (some ⟨bb, off, none⟩) m.length c)) (g3 : Boxed w3 (w.heap.size + 1) 22 (partV bb off pre.length)) (g4 : DrAt w3 (w.heap.size + 2) (doorX x0 m pre.length))
    (g5 : KeepsC (XP (w.heap.size + 1) (w.heap.size + 2)) W1 w3) (g6 : KeepsOthers W1 w3) (h0 : ∀ p ∈ pre, shutD p.2 = false) (gs : shutD y = false) :
    KeepsFrom S W1 WF.drew ∧ KeepsC (XP (w.heap.size + 1) (w.heap.size + 2)) W1 WF.drew ∧ S ≤ WF.drew.heap.size ∧ (∀ p ∈ pre ++ [(k, y)], shutD p.2 = false) ∧ Told w w.heap.size (w.heap.size + 1) (w.heap.size + 2) bb off c x0 m (pre ++ [(k, y)]).length WF.drew := by
  obtain ⟨WA, hWA⟩ : ∃ WA, WA = w3.setCell ⟨w.heap.size + 1, 0, none⟩ (.slice (some ⟨bb, off, none⟩) k k) := ⟨_, rfl⟩
  have a1 : KeepsOthers w3 WA := by rw [hWA]; exact KeepsOthers.setCell _ _ _
  have a2 : KeepsC (XP (w.heap.size + 1) (w.heap.size + 2)) w3 WA := by rw [hWA]; exact KeepsC.setOf _ _ _ _ (.inl rfl)
  have a3 : Below w.heap.size w WA := by rw [hWA]; exact g1.setCell (p := ⟨w.heap.size + 1, 0, none⟩) (by simp) _
  have a4 : WA.heap[w.heap.size]? = w3.heap[w.heap.size]? := by rw [hWA]; exact Below.heap_setCell _ ⟨w.heap.size + 1, 0, none⟩ _ w.heap.size (by simp)
  have a5 : Boxed WA (w.heap.size + 1) 22 (.slice (some ⟨bb, off, none⟩) k k) := by rw [hWA]; exact g3.set _
  have a6 : DrAt WA (w.heap.size + 2) (doorX x0 m pre.length) := by rw [hWA]; exact Cells.set (p := ⟨w.heap.size + 1, 0, none⟩) g4 (by simp) _
  rw [← hWA] at hWF
  have b1 : KeepsOthers WA WF := by rw [hWF]; exact others_put6 _ _ _ _ _ _ _ _
  have b2 : KeepsC (XP (w.heap.size + 1) (w.heap.size + 2)) WA WF := by rw [hWF]; exact keeps_put6 _ _ _ _ _ _ _ _ (.inr rfl)
  have b3 : Below w.heap.size w WF := by rw [hWF]; exact below_put6 a3 (by omega) _ _ _ _ _ _
  have b4 : ∀ j, j ≠ w.heap.size + 2 → WF.heap[j]? = WA.heap[j]? := fun j hj => by rw [hWF]; exact heap_put6 _ _ _ _ _ _ _ _ _ hj
  have b6 : DrAt WF (w.heap.size + 2) y := by rw [hWF]; exact dr_put6 a6 y
  clear hWF hWA
  have kc : KeepsC (XP (w.heap.size + 1) (w.heap.size + 2)) W1 WF := (g5.trans a2).trans b2
  have hlen : (pre ++ [(k, y)]).length = k := by rw [hk]; simp
  have i2 : ¬ k = 0 := by omega
  have hd : doorX x0 m k = y := by rw [doorX, if_neg i2, hy, hk]
  refine ⟨((g6.trans a1).trans (b1.trans (KeepsOthers.drew _))).from _, ⟨kc.1, kc.2.1, kc.2.2⟩, Nat.le_trans hz kc.1, ?_, ?_⟩
  · intro p hp
    rcases List.mem_append.1 hp with hp | hp
    · exact h0 p hp
    · rw [List.mem_singleton.1 hp]; exact gs
  · rw [hlen]
    refine ⟨b3.drew, (b4 _ (by omega)).trans (a4.trans g2), ?_, ?_⟩
    · rw [partV, if_neg i2]
      exact (b4 _ (by omega)).trans a5
    · rw [hd]
      exact b6.drew
theorem first_end (w W1 WF : World) (D : Nat) (hD : w.heap.size + 3 ≤ D) (u u' : Value) (y : Dr) (hWF : WF = put6 (W1.setCell ⟨w.heap.size + 1, 0, none⟩ u) (w.heap.size + 2) (.int .i64 y.t) (.int .i64 y.v) (.int .i64 y.a) (.int .i64 y.b) (.int .i64 y.c) (.int .i64 y.d))
    (g1 : Below w.heap.size w W1) (g3 : Boxed W1 (w.heap.size + 1) 22 u') {y' : Dr} (g4 : DrAt W1 (w.heap.size + 2) y') (hK : W1.heap[D]? = some (.deferred (some []))) :
    WF.drew.heap[D]? = some (.deferred (some [])) ∧ (WF.drew.putObj D (.deferred none)).cell? ⟨w.heap.size + 1, 0, none⟩ = some u ∧
      (WF.drew.putObj D (.deferred none)).cell? ⟨w.heap.size + 2, 0, none⟩ = some (.int .i64 y.t) ∧ (WF.drew.putObj D (.deferred none)).cell? ⟨w.heap.size + 2, 1, none⟩ = some (.int .i64 y.v) ∧ (WF.drew.putObj D (.deferred none)).cell? ⟨w.heap.size + 2, 2, none⟩ = some (.int .i64 y.a) ∧
      (WF.drew.putObj D (.deferred none)).cell? ⟨w.heap.size + 2, 3, none⟩ = some (.int .i64 y.b) ∧ (WF.drew.putObj D (.deferred none)).cell? ⟨w.heap.size + 2, 4, none⟩ = some (.int .i64 y.c) ∧ (WF.drew.putObj D (.deferred none)).cell? ⟨w.heap.size + 2, 5, none⟩ = some (.int .i64 y.d) ∧
      Below w.heap.size w (WF.drew.putObj D (.deferred none)) := by
  obtain ⟨WA, hWA⟩ : ∃ WA, WA = W1.setCell ⟨w.heap.size + 1, 0, none⟩ u := ⟨_, rfl⟩
  have a3 : Below w.heap.size w WA := by rw [hWA]; exact g1.setCell (p := ⟨w.heap.size + 1, 0, none⟩) (by simp) _
  have a4 : WA.heap[D]? = W1.heap[D]? := by rw [hWA]; exact Below.heap_setCell _ ⟨w.heap.size + 1, 0, none⟩ _ D (by simp; omega)
  have a5 : Boxed WA (w.heap.size + 1) 22 u := by rw [hWA]; exact g3.set _
  have a6 : DrAt WA (w.heap.size + 2) y' := by rw [hWA]; exact Cells.set (p := ⟨w.heap.size + 1, 0, none⟩) g4 (by simp) _
  rw [← hWA] at hWF
  have b3 : Below w.heap.size w WF := by rw [hWF]; exact below_put6 a3 (by omega) _ _ _ _ _ _
  have b4 : ∀ j, j ≠ w.heap.size + 2 → WF.heap[j]? = WA.heap[j]? := fun j hj => by rw [hWF]; exact heap_put6 _ _ _ _ _ _ _ _ _ hj
  have b6 : DrAt WF (w.heap.size + 2) y := by rw [hWF]; exact dr_put6 a6 y
  clear hWF hWA
  have hk : WF.drew.heap[D]? = some (.deferred (some [])) := (b4 D (by omega)).trans (a4.trans hK)
  have hbx : Boxed (WF.drew.putObj D (.deferred none)) (w.heap.size + 1) 22 u := (World.putObj_heap_other (by omega)).trans ((b4 _ (by omega)).trans a5)
  have hdr : DrAt (WF.drew.putObj D (.deferred none)) (w.heap.size + 2) y := cells_block (W := WF.drew) (B := w.heap.size + 2) (World.putObj_heap_other (by omega)) (by simp) b6.drew (by simp)
  obtain ⟨⟨_, c0, _⟩, ⟨_, c1, _⟩, ⟨_, c2, _⟩, ⟨_, c3, _⟩, ⟨_, c4, _⟩, ⟨_, c5, _⟩, _⟩ := hdr
  have hbb := b3.drew
  exact ⟨hk, hbx.cell, c0, c1, c2, c3, c4, c5, ⟨hbb.os, hbb.tape, hbb.output, by simpa using hbb.size, fun j hj => (World.putObj_heap_other (by omega)).trans (hbb.block j hj)⟩⟩
set_option maxRecDepth 100000 in
set_option maxHeartbeats 2000000 in
theorem first_walk (m : List Bd) (hm : 1 ≤ m.length) (hl : m.length ≤ 1000000) (hR : ∀ r ∈ m, BdOk r) (x0 : Dr) (hx0 : DrOk x0) (n : Nat) (hn : n = goS x0 m) (hn1 : 1 ≤ n) (bb off c : Nat) (w : World) (h : ReadsD w (.slice (some ⟨bb, off, none⟩) m.length c) m)
    (OP : ∀ W, Below w.heap.size w W → Calls Tryz.prog 66 #[.slice (some ⟨bb, off, none⟩) m.length c] W (Ret W (drV x0))) :
    Calls Tryz.prog 47 #[.slice (some ⟨bb, off, none⟩) m.length c] w (Ret w (.tuple #[.slice (some ⟨bb, off, none⟩) n n, drV (fD x0 (m.take n))])) := by
  replace OP := Lib.hid OP
  refine calls_marks Tryz.func47 rfl ?_
  simp only [Tryz.ntmps47, List.size_toArray, List.length_cons, List.length_nil, Nat.reduceAdd, Nat.reduceSub, Array.replicate_succ, Array.replicate_zero, List.push_toArray, List.append_toArray, List.nil_append, List.cons_append]
  have hb0 : Below w.heap.size w (((w.alloc (.cells #[.slice (some ⟨bb, off, none⟩) m.length c] 22)).alloc (.cells #[.slice none 0 0] 22)).alloc (.cells #[.int .i64 0, .int .i64 0, .int .i64 0, .int .i64 0, .int .i64 0, .int .i64 0] 63)) := (((Below.refl _ w).alloc (Nat.le_refl _) _).alloc (by simp) _).alloc (by simp; omega) _
  go_wp2_with (go_step3)
  refine (OP.out _ hb0).mono ?_
  rintro en w1 ⟨rfl, hb1⟩
  have hz1 : w.heap.size + 3 ≤ w1.heap.size := by have := hb1.size; simp at this; omega
  have hHeld : Keeps w [(w.heap.size, 0, .slice (some ⟨bb, off, none⟩) m.length c)] w1 := Keeps.next (by refine ⟨hb0, ?_⟩; simp [Cells, go_sem]) hb1
  have b1 : Boxed w1 w.heap.size 22 (.slice (some ⟨bb, off, none⟩) m.length c) := (hb1.block _ (by simp; omega)).trans (((Boxed.new w _ _).alloc _).alloc _)
  have b2 : Boxed w1 (w.heap.size + 1) 22 (.slice none 0 0) := by
    have := Boxed.new (w.alloc (.cells #[.slice (some ⟨bb, off, none⟩) m.length c] 22)) 22 (.slice none 0 0)
    rw [World.size_alloc] at this
    exact (hb1.block _ (by simp)).trans (this.alloc _)
  have b3 : DrAt w1 (w.heap.size + 2) ⟨0, 0, 0, 0, 0, 0⟩ := by
    refine Cells.next (W := ((w.alloc (.cells #[.slice (some ⟨bb, off, none⟩) m.length c] 22)).alloc (.cells #[.slice none 0 0] 22)).alloc (.cells #[.int .i64 0, .int .i64 0, .int .i64 0, .int .i64 0, .int .i64 0, .int .i64 0] 63)) ?_ hb1
    simp [Cells, go_sem]
  have hB1 := under hb0 hb1
  obtain ⟨⟨kz0, kc0, kf0⟩, _⟩ := hHeld.2
  clear hHeld hb0 hb1 OP
  have HBX := Lib.hid (And.intro b1 (And.intro b2 (And.intro b3 hB1)))
  clear b1 b2 b3 hB1
  have hmf := makes_func
  go_wp2_with (first | go_step3 | (go_at_call 67; refine (doors_any _ _ _ _ _ _ rfl).mono ?_; rintro e w' ⟨rfl, rfl⟩))
  obtain ⟨W2, hW2⟩ : ∃ W2, W2 = (((w1.alloc (.cells #[.int .i64 x0.t, .int .i64 x0.v, .int .i64 x0.a, .int .i64 x0.b, .int .i64 x0.c, .int .i64 x0.d] 63)).alloc (.cells #[.slice (some ⟨bb, off, none⟩) m.length c] 22)).alloc (.cells #[takeV w1.heap.size] 121)) := ⟨_, rfl⟩
  rw [← hW2]
  have hs2 : W2.heap.size = w1.heap.size + 3 := by rw [hW2]; simp
  have hb2 : Below w1.heap.size w1 W2 := by rw [hW2]; exact (((Below.refl _ w1).alloc (Nat.le_refl _) _).alloc (by simp) _).alloc (by simp; omega) _
  have hTx : DrAt W2 w1.heap.size x0 := by
    rw [hW2]
    simp [Cells, go_sem]
  have hBl : Boxed W2 (w1.heap.size + 1) 22 (.slice (some ⟨bb, off, none⟩) m.length c) := by
    rw [hW2]
    have := Boxed.new (w1.alloc (.cells #[.int .i64 x0.t, .int .i64 x0.v, .int .i64 x0.a, .int .i64 x0.b, .int .i64 x0.c, .int .i64 x0.d] 63)) 22 (.slice (some ⟨bb, off, none⟩) m.length c)
    rw [World.size_alloc] at this
    exact this.alloc _
  have hBt : Boxed W2 (w1.heap.size + 2) 121 (takeV w1.heap.size) := by
    rw [hW2]
    have := Boxed.new ((w1.alloc (.cells #[.int .i64 x0.t, .int .i64 x0.v, .int .i64 x0.a, .int .i64 x0.b, .int .i64 x0.c, .int .i64 x0.d] 63)).alloc (.cells #[.slice (some ⟨bb, off, none⟩) m.length c] 22)) 121 (takeV w1.heap.size)
    rwa [World.size_alloc, World.size_alloc] at this
  have hTo : Told w w.heap.size (w.heap.size + 1) (w.heap.size + 2) bb off c x0 m 0 W2 :=
    ⟨under HBX.out.2.2.2 hb2, (hb2.block _ (by omega)).trans HBX.out.1, (hb2.block _ (by omega)).trans HBX.out.2.1, HBX.out.2.2.1.next hb2⟩
  have hrd : ReadsD W2 (.slice (some ⟨bb, off, none⟩) m.length c) m := (h.below HBX.out.2.2.2).below hb2
  have hbw : bb < w.heap.size ∧ m.length ≤ c ∧ ∃ o : Obj, w.heap[bb]? = some o ∧ o.isCells = true := by
    obtain ⟨_, _, e', hc', hk⟩ := h
    cases e'
    obtain ⟨b', off', e1, e2, e3, _⟩ := hk 0 _ (List.getElem?_eq_getElem (by omega))
    cases e1
    exact ⟨e2, hc', cells_of_cell e3⟩
  obtain ⟨hbw, hmc, oo, hoo, hoc⟩ := hbw
  have hbse : Base (w.heap.size + 1) (w.heap.size + 2) w1.heap.size bb off c m (w1.heap.size + 1) (w1.heap.size + 2) W2 := by
    refine ⟨⟨hrd, ?_, ⟨oo, ?_, hoc⟩, ?_, hBl, ?_⟩, hBt, ?_⟩
    · omega
    · exact (hb2.block bb (by omega)).trans ((HBX.out.2.2.2.block bb hbw).trans hoo)
    · simp only [XQ]; omega
    · simp only [XQ]; omega
    · simp only [XQ]; omega
  have hseq := doors1_turns (w.heap.size + 1) (w.heap.size + 2) w1.heap.size ⟨by omega, by omega⟩ m hl hR bb off c x0 hx0 (w1.heap.size + 1) (w1.heap.size + 2) W2 hbse hTx
  clear hW2 hBl hBt hrd hbse hoo hoc hbw HBX kz0 kc0 kf0 hmf h
  have hi3 : W2.heap.size = w1.heap.size + 3 := hs2
  refine wp_rangeT (T := w1.heap.size) (by omega) (gf := 90) (lb := #[.pointer (some ⟨w1.heap.size + 1, 0, none⟩), .pointer (some ⟨w1.heap.size + 1 + 1, 0, none⟩)]) rfl (enters_of Tryz.func90 (by kernel_rfl) rfl)
    hseq (fun _ => rfl) (fun h k => KeepsC.trans h k)
    (fun W r r' hr => ⟨by simp, fun _ hk => .inl hk, fun k o ho hc _ => (World.putObj_heap_other (fun e => by subst e; rw [hr] at ho; cases ho; cases hc)).trans ho⟩)
    (fun pre W => W2.heap.size ≤ W.heap.size ∧ (∀ p ∈ pre, shutD p.2 = false) ∧ Told w w.heap.size (w.heap.size + 1) (w.heap.size + 2) bb off c x0 m pre.length W)
    (fun cd pre W => cd = .exit 0 ∧ ∃ p0 q, pre = p0 ++ [q] ∧ shutD q.2 = true ∧ (∀ p ∈ p0, shutD p.2 = false) ∧ Told w w.heap.size (w.heap.size + 1) (w.heap.size + 2) bb off c x0 m p0.length W)
    (fun s A A' hs k => ⟨Nat.le_trans hs.1 k.size, hs.2.1, hs.2.2.mild k (by omega) (by omega) (by omega) (by omega) (by omega)⟩)
    (fun cd s A A' hs k => by
      obtain ⟨h1, p0, q, h2, h3, h4, h5⟩ := hs
      exact ⟨h1, p0, q, h2, h3, h4, h5.mild k (by omega) (by omega) (by omega) (by omega) (by omega)⟩)
    ⟨Nat.le_refl _, by simp, hTo⟩
    (fun x a' W' => ∃ B, a' = { tmps := #[Value.slice (some ⟨bb, off, none⟩) m.length c, Value.pointer (some ⟨w.heap.size, 0, none⟩), Value.pointer (some ⟨w.heap.size + 1, 0, none⟩), Value.pointer (some ⟨w.heap.size + 1 + 1, 0, none⟩), Value.pointer (some ⟨w1.heap.size, 0, none⟩), .int .i64 x.1, Value.pointer (some ⟨B, 0, none⟩), Value.slice (some ⟨bb, off, none⟩) m.length c, drV x0, Value.slice (some ⟨bb, off, none⟩) m.length c, Value.func (Fn.func 68) #[Value.pointer (some ⟨w1.heap.size, 0, none⟩)] #[], Value.func (Fn.func 90) #[] #[Value.pointer (some ⟨w1.heap.size + 1, 0, none⟩), Value.pointer (some ⟨w1.heap.size + 1 + 1, 0, none⟩)], .int .i64 x.1, drV x.2, undef, undef, undef, undef, undef, undef, undef, undef, undef, undef], defers := [] } ∧ DrAt W' B x.2 ∧ w.heap.size + 3 ≤ B ∧ B ≠ w1.heap.size)
    (fun x a' A A' hs k => by
      obtain ⟨B, h1, h2, h3, h4⟩ := hs
      exact ⟨B, h1, cells_mild k h4 h2 (by simp) (by simp), h3, h4⟩)
    ?assign ?body ?done ?stop
  case assign =>
    rintro l' pre ⟨k, y⟩ W K ⟨hz, h0, h1⟩ hsp hK
    have H1 := Lib.hid h1
    clear h1 hseq hTo hTx
    simp only [encD]
    gi_wp2
    have hb := below_alloc W (.cells #[.int .i64 y.t, .int .i64 y.v, .int .i64 y.a, .int .i64 y.b, .int .i64 y.c, .int .i64 y.d] 63)
    have hn1 := H1.out.2.2.2.lt
    refine hK _ _ ((KeepsOthers.alloc W _).from _) ⟨hb.size, fun _ h => .inl h, fun k o ho _ _ => (hb.block k (Array.getElem?_eq_some_iff.1 ho).1).trans ho⟩ ⟨Nat.le_trans hz hb.size, h0, H1.out.mild (Mild.alloc (T := W.heap.size + 1) W _ (Nat.le_refl _)) (by omega) (by omega) (by omega) (by omega) (by omega)⟩ ⟨W.heap.size, rfl, by simp [Cells, go_sem], by omega, by omega⟩
  case body =>
    rintro l' pre ⟨k, y⟩ a' W1 ⟨hz, h0, h1⟩ ⟨B, rfl, hB, hBl, hBT⟩ hsp
    have H1 := Lib.hid h1
    have HB := Lib.hid hB
    obtain ⟨hlt, hp⟩ := seqD_next hsp
    simp only [Prod.mk.injEq] at hp
    obtain ⟨hk, hy⟩ := hp
    have hyo : DrOk y := by rw [hy]; exact fD_ok _ hx0 (fun b hb => hR b (List.mem_of_mem_take hb))
    have SH := Lib.hid (fun W' => shut_any y (by simp [slopesB, hyo.lo, hyo.hi]) W')
    obtain ⟨⟨bz0, bc0, bf0⟩, ⟨bz1, bc1, bf1⟩, ⟨bz2, bc2, bf2⟩, ⟨bz3, bc3, bf3⟩, ⟨bz4, bc4, bf4⟩, ⟨bz5, bc5, bf5⟩, _⟩ := hB
    simp only at bc0 bc1 bc2 bc3 bc4 bc5
    have HKY := Lib.hid (And.intro hk (And.intro hy hlt))
    have i0 : (0 : Int) ≤ (k : Int) := by omega
    have i1 : (k : Int) ≤ (c : Int) := by omega
    have i2 : ¬ k = 0 := by omega
    have bx := h1.2.1.cell
    clear h1 hseq hTo hTx hsp hyo hk hy hlt
    cases gs : shutD y
    · rw [gs] at SH
      simp only
      gi_wp2_with fail
      refine ⟨trivial, ?_⟩
      refine (CallsIn.inRound l' (callsIn_wide.2 (SH.out _))).mono ?_
      rintro en w3 ⟨rfl, hb3⟩
      gi_wp2_with fail
      have hX3 := HB.out.next hb3
      have hbx3 : Boxed w3 w.heap.size 22 (.slice (some ⟨bb, off, none⟩) m.length c) := (hb3.block _ H1.out.2.1.lt).trans H1.out.2.1
      have bp3 : Boxed w3 (w.heap.size + 1) 22 (partV bb off pre.length) := (hb3.block _ H1.out.2.2.1.lt).trans H1.out.2.2.1
      have bo3 : DrAt w3 (w.heap.size + 2) (doorX x0 m pre.length) := H1.out.2.2.2.next hb3
      have hk3 : KeepsC (XP (w.heap.size + 1) (w.heap.size + 2)) W1 w3 := ⟨hb3.size, fun _ hk => .inl hk, fun k _ ho _ _ => (hb3.block k (Array.getElem?_eq_some_iff.1 ho).1).trans ho⟩
      have HH3 := Lib.hid (And.intro (under H1.out.1 hb3) (And.intro hbx3 (And.intro bp3 (And.intro bo3 (And.intro hk3 (KeepsOthers.of_below hb3))))))
      have bx3 := hbx3.cell
      have bp4 := bp3.cell
      have bpf := bp3.frozen
      obtain ⟨⟨oz0, oc0, of0⟩, ⟨oz1, oc1, of1⟩, ⟨oz2, oc2, of2⟩, ⟨oz3, oc3, of3⟩, ⟨oz4, oc4, of4⟩, ⟨oz5, oc5, of5⟩, _⟩ := bo3
      clear bc0 bc1 bc2 bc3 bc4 bc5 bf0 bf1 bf2 bf3 bf4 bf5 bz0 bz1 bz2 bz3 bz4 bz5 bp3 bx hbx3 hk3
      obtain ⟨⟨bz0, bc0, bf0⟩, ⟨bz1, bc1, bf1⟩, ⟨bz2, bc2, bf2⟩, ⟨bz3, bc3, bf3⟩, ⟨bz4, bc4, bf4⟩, ⟨bz5, bc5, bf5⟩, _⟩ := hX3
      have hne : B ≠ w.heap.size + 1 := by omega
      have q0 : ∀ u, (w3.drew.setCell ⟨w.heap.size + 1, 0, none⟩ u).cell? ⟨B, 0, none⟩ = some (.int .i64 y.t) := fun u => off_cell (by first | (simp; done) | (simp; omega)) bc0
      have q1 : ∀ u, (w3.drew.setCell ⟨w.heap.size + 1, 0, none⟩ u).cell? ⟨B, 1, none⟩ = some (.int .i64 y.v) := fun u => off_cell (by first | (simp; done) | (simp; omega)) bc1
      have q2 : ∀ u, (w3.drew.setCell ⟨w.heap.size + 1, 0, none⟩ u).cell? ⟨B, 2, none⟩ = some (.int .i64 y.a) := fun u => off_cell (by first | (simp; done) | (simp; omega)) bc2
      have q3 : ∀ u, (w3.drew.setCell ⟨w.heap.size + 1, 0, none⟩ u).cell? ⟨B, 3, none⟩ = some (.int .i64 y.b) := fun u => off_cell (by first | (simp; done) | (simp; omega)) bc3
      have q4 : ∀ u, (w3.drew.setCell ⟨w.heap.size + 1, 0, none⟩ u).cell? ⟨B, 4, none⟩ = some (.int .i64 y.c) := fun u => off_cell (by first | (simp; done) | (simp; omega)) bc4
      have q5 : ∀ u, (w3.drew.setCell ⟨w.heap.size + 1, 0, none⟩ u).cell? ⟨B, 5, none⟩ = some (.int .i64 y.d) := fun u => off_cell (by first | (simp; done) | (simp; omega)) bc5
      have hmx : Tryz.prog.follows .mixedOrders = true := by kernel_rfl
      clear hb3 hne SH
      obtain ⟨WF, hWF⟩ : ∃ WF, WF = put6 (w3.setCell ⟨w.heap.size + 1, 0, none⟩ (.slice (some ⟨bb, off, none⟩) k k)) (w.heap.size + 2) (.int .i64 y.t) (.int .i64 y.v) (.int .i64 y.a) (.int .i64 y.b) (.int .i64 y.c) (.int .i64 y.d) := ⟨_, rfl⟩
      have HF := Lib.hid (round_told w W1 w3 WF W2.heap.size hz bb off c x0 m pre k y HKY.out.1 HKY.out.2.1 hWF HH3.out.1 HH3.out.2.1 HH3.out.2.2.1 HH3.out.2.2.2.1 HH3.out.2.2.2.2.1 HH3.out.2.2.2.2.2 h0 gs)
      unfold put6 at hWF
      subst hWF
      clear h0 H1 HB HKY HH3
      gi_region
      all_goals
        gi_wp2
        exact HF.out
    · rw [gs] at SH
      simp only
      gi_wp2_with fail
      refine ⟨trivial, ?_⟩
      refine (CallsIn.inRound l' (callsIn_wide.2 (SH.out _))).mono ?_
      rintro en w3 ⟨rfl, hb3⟩
      gi_wp2_with fail
      exact ⟨(KeepsOthers.of_below hb3).from _, rfl, pre, _, rfl, gs, h0, under H1.out.1 hb3, (hb3.block _ H1.out.2.1.lt).trans H1.out.2.1, (hb3.block _ H1.out.2.2.1.lt).trans H1.out.2.2.1, H1.out.2.2.2.next hb3⟩
  case done =>
    rintro xs W1 rfl ⟨hz, h0, h1⟩ hK
    have hnl : n = (seqD 0 x0 m).length := by rw [seqD_length, hn, goS_all h0]
    rw [← hnl] at h1
    clear h0 hnl
    have hn0 : ¬ n = 0 := by omega
    obtain ⟨t1, _, t3, t4⟩ := h1
    rw [partV, if_neg hn0] at t3
    rw [doorX, if_neg hn0] at t4
    have HT := Lib.hid (And.intro t1 (And.intro t3 t4))
    have pc := t3.cell
    have pf := t3.frozen
    obtain ⟨⟨oz0, oc0, of0⟩, ⟨oz1, oc1, of1⟩, ⟨oz2, oc2, of2⟩, ⟨oz3, oc3, of3⟩, ⟨oz4, oc4, of4⟩, ⟨oz5, oc5, of5⟩, _⟩ := t4
    clear t1 t3 hseq hTo hTx hn hn0 hn1
    generalize fD x0 (m.take n) = y at *
    have hmx : Tryz.prog.follows .mixedOrders = true := by kernel_rfl
    obtain ⟨WF, hWF⟩ : ∃ WF, WF = put6 (W1.setCell ⟨w.heap.size + 1, 0, none⟩ (.slice (some ⟨bb, off, none⟩) n n)) (w.heap.size + 2) (.int .i64 y.t) (.int .i64 y.v) (.int .i64 y.a) (.int .i64 y.b) (.int .i64 y.c) (.int .i64 y.d) := ⟨_, rfl⟩
    have HE := Lib.hid (first_end w W1 WF W2.heap.size (by omega) _ _ _ hWF HT.out.1 HT.out.2.1 HT.out.2.2 hK)
    unfold put6 at hWF
    subst hWF
    clear hK
    go_wp2_with fail
    go_region
    all_goals
      go_wp2_with fail
      rw [Exit.noGoto_ret]
      refine ⟨by simp, .inl ⟨_, _, rfl, run_takeDeferred HE.out.1, ?_⟩⟩
      obtain ⟨_, ec, e0, e1, e2, e3, e4, e5, eb⟩ := HE.out
      exact ⟨.tuple #[.slice (some ⟨bb, off, none⟩) n n, drV y], by simp [results, Tryz.results47, go_sem, ec, e0, e1, e2, e3, e4, e5], by simp, eb⟩
  case stop =>
    rintro cd pre W1 hpre ⟨rfl, p0, q, rfl, hq, h0, h1⟩ hK
    have hnl : n = p0.length := by rw [hn, goS_stop hpre h0 hq]
    rw [← hnl] at h1
    clear h0 hnl hpre hq
    have hn0 : ¬ n = 0 := by omega
    obtain ⟨t1, _, t3, t4⟩ := h1
    rw [partV, if_neg hn0] at t3
    rw [doorX, if_neg hn0] at t4
    have HT := Lib.hid (And.intro t1 (And.intro t3 t4))
    have pc := t3.cell
    have pf := t3.frozen
    obtain ⟨⟨oz0, oc0, of0⟩, ⟨oz1, oc1, of1⟩, ⟨oz2, oc2, of2⟩, ⟨oz3, oc3, of3⟩, ⟨oz4, oc4, of4⟩, ⟨oz5, oc5, of5⟩, _⟩ := t4
    clear t1 t3 hseq hTo hTx hn hn0 hn1
    generalize fD x0 (m.take n) = y at *
    have hmx : Tryz.prog.follows .mixedOrders = true := by kernel_rfl
    obtain ⟨WF, hWF⟩ : ∃ WF, WF = put6 (W1.setCell ⟨w.heap.size + 1, 0, none⟩ (.slice (some ⟨bb, off, none⟩) n n)) (w.heap.size + 2) (.int .i64 y.t) (.int .i64 y.v) (.int .i64 y.a) (.int .i64 y.b) (.int .i64 y.c) (.int .i64 y.d) := ⟨_, rfl⟩
    have HE := Lib.hid (first_end w W1 WF W2.heap.size (by omega) _ _ _ hWF HT.out.1 HT.out.2.1 HT.out.2.2 hK)
    unfold put6 at hWF
    subst hWF
    clear hK
    go_wp2_with fail
    go_region
    all_goals
      go_wp2_with fail
      rw [Exit.noGoto_ret]
      refine ⟨by simp, .inl ⟨_, _, rfl, run_takeDeferred HE.out.1, ?_⟩⟩
      obtain ⟨_, ec, e0, e1, e2, e3, e4, e5, eb⟩ := HE.out
      exact ⟨.tuple #[.slice (some ⟨bb, off, none⟩) n n, drV y], by simp [results, Tryz.results47, go_sem, ec, e0, e1, e2, e3, e4, e5], by simp, eb⟩
/-- The first part of bands, and its door. -/
theorem first_any (l : List Bd) (hne : l ≠ []) (hl : l.length ≤ 1000000) (hR : ∀ r ∈ l, BdOk r) (bb off c : Nat) (w : World) (h : ReadsD w (.slice (some ⟨bb, off, none⟩) l.length c) l) :
    Calls Tryz.prog 47 #[.slice (some ⟨bb, off, none⟩) l.length c] w (Ret w (.tuple #[.slice (some ⟨bb, off, none⟩) (firN l) (firN l), drV (firX l)])) := by
  cases l with
  | nil => exact absurd rfl hne
  | cons b l =>
    have hb := hR b (List.mem_cons_self ..)
    exact first_walk (b :: l) (by simp) hl hR (open0 b) (open_ok hb) _ rfl (goS_one b l) bb off c w h (fun W hW => opened_any b l hb _ W (h.below hW))
end Go.Proofs.YtoephkglpbophaaGreat.P9
