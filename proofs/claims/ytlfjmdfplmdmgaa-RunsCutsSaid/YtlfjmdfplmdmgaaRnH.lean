/-
  Layer 7: runs: rows of runs of the call's own; a row that grows, with the run that is open still. Conditions: those written at each fact.
-/
import Derived.Test.YtlfjmdfplmdmgaaRnG
import Derived.Test.YtlfjmdfplmdmgaaRnE
import Derived.Maps.AppendAt
import Derived.Laws.Rows
namespace Go.Proofs.Ytlfjmdfplmdmgaa
open Go.RowKit Go.Shelf

theorem infoRun : (Try.prog.info? 36).map (fun i => (i.zero, i.size, i.bytes)) = some (some (.agg #[.int .i64 0, .int .i64 0, .int .i64 0]), 3, 24) := by kernel_rfl
theorem infoI64 : (Try.prog.info? 2).map (fun i => (i.zero, i.size, i.bytes)) = some (some (.int .i64 0), 1, 8) := by kernel_rfl
theorem if_wanted {o : Oper} {ops : Array Oper} {tm : Array Value} {A B : Prop} (hg : o.guard = none) (h : A) : if Region.wanted o (yielded ops tm) = true then A else B := by
  rw [if_pos (by simp [Region.wanted, hg])]; exact h
theorem wp_append_own_at {P : Program} (w : World) {o : Oper} {a : Act} {K : Act → World → Prop} {Q : Exit → Act → World → Prop} (s x : Operand) (t : TypeId)
    (ho : o.op = .call { callee := .builtin .append, args := #[s, x], argTypes := #[t, t] })
    (base : Nat) (e : TypeId) (i : TypeInfo) (z : Value) (size bytes : Nat) (ht : P.underlying t = some (.slice e)) (hi : P.info? e = some i) (hz : i.zero = some z)
    (hsize : i.size = size) (hby : i.bytes = bytes) (hzs : z.cells.size = size) (hsz : 0 < size)
    (v : Value) (n : Nat) (xs : List Value) (hs : a.eval s = v) (hown : w.ownsRow base e size v n xs)
    (ad : Addr) (m c : Nat) (news : List Value) (hx : a.eval x = .slice (some ad) m c) (hl : news.length = m * size) (hnews : ∀ j u, news[j]? = some u → w.cell? (ad.add j) = some u) (h1 : ∀ u ∈ news, u.oneCell' = true)
    (h63 : n + m ≤ maxLen) (hbytes : (n + m) * bytes ≤ 140737488355328) (hbase : base ≤ w.heap.size)
    (h : ∀ v' w', w'.ownsRow base e size v' (n + m) (xs ++ news) → w.grownBy w' v.ownBlock → (v'.ownBlock = v.ownBlock ∨ v'.ownBlock = some w.heap.size) → K (a.put o.dst v') w') : o.wp P a w K Q := by
  obtain ⟨v', w', hr, h2, h3, _, h5⟩ := run_append_own_at (P := P) w base t o.type e i z size bytes ht hi hz hsize hby hzs hsz v n xs hown ad m c news hl hnews h1 h63 hbytes hbase
  unfold Oper.wp execOp
  simp only [ho, resolve, invoke, builtin, Sem.run_bind, Sem.run_pure, Result.andThen_ok, List.map_toArray, List.map_cons, List.map_nil, hs, hx, hr]
  exact h v' w' h2 h3 h5
theorem new_cells3 {W : World} {a b c : Value} {t : TypeId} {n : Nat} (hn : n = W.heap.size) : ∀ (j : Nat) (u : Value), [a, b, c][j]? = some u → (W.alloc (.cells #[a, b, c] t)).cell? ((⟨n, 0, none⟩ : Addr).add j) = some u := by
  subst hn
  intro j u h
  match j, h with
  | 0, h => cases h; simp [Addr.add, go_sem]
  | 1, h => cases h; simp [Addr.add, go_sem]
  | 2, h => cases h; simp [Addr.add, go_sem]
  | j + 3, h => simp at h
/-- The cells of runs. -/
def flatR : List Rn → List Value
  | [] => []
  | r :: l => .int .i64 r.f :: .int .i64 r.s :: .int .i64 r.c :: flatR l
theorem flatR_app : ∀ l m : List Rn, flatR (l ++ m) = flatR l ++ flatR m
  | [], _ => rfl
  | s :: l, m => by simp [flatR, flatR_app l m]
theorem flatR_length : ∀ l : List Rn, (flatR l).length = l.length * 3
  | [] => rfl
  | s :: l => by simp [flatR, flatR_length l]; omega
theorem flatR_at : ∀ (l : List Rn) (i : Nat) (r : Rn), l[i]? = some r → (flatR l)[i * 3]? = some (.int .i64 r.f) ∧ (flatR l)[i * 3 + 1]? = some (.int .i64 r.s) ∧ (flatR l)[i * 3 + 2]? = some (.int .i64 r.c)
  | [], i, s, h => by simp at h
  | x :: l, 0, s, h => by simp at h; subst h; exact ⟨rfl, rfl, rfl⟩
  | x :: l, i + 1, s, h => by
    have := flatR_at l i s (by simpa using h)
    rw [show (i + 1) * 3 = i * 3 + 3 by omega]
    exact this
/-- Runs in a row of the call's own read. -/
theorem readsR_own {w : World} {B : Nat} {t : TypeId} {v : Value} {l : List Rn} (h : w.ownsRow B t 3 v l.length (flatR l)) : ReadsR w v l := by
  obtain ⟨hl, h⟩ := h
  rcases h with ⟨rfl, h0⟩ | ⟨g, cap, cur, rfl, hB, hg, hn, _, hs, ht⟩
  · rw [List.eq_nil_of_length_eq_zero h0]
    exact ⟨none, 0, rfl, Nat.le_refl _, fun i r hi => by simp at hi⟩
  · refine ⟨_, _, rfl, hn, fun i r hi => ⟨g, 0, rfl, (Array.getElem?_eq_some_iff.1 hg).1, ?_⟩⟩
    have hi' : i < l.length := (List.getElem?_eq_some_iff.1 hi).1
    obtain ⟨e1, e2, e3⟩ := flatR_at l i r hi
    rw [← ht, List.getElem?_take, if_pos (by omega)] at e1
    rw [← ht, List.getElem?_take, if_pos (by omega)] at e2
    rw [← ht, List.getElem?_take, if_pos (by omega)] at e3
    refine ⟨?_, ?_, ?_⟩
    · simp [World.cell?, hg]; simpa using e1
    · simp [World.cell?, hg]; simpa using e2
    · simp [World.cell?, hg]; simpa using e3

/-- A row that grows, at block g: the run that is open still, and those that are shut. -/
def GrowAt (W : World) (g : Nat) (o : Rn) (v : Value) : Prop := W.heap[g]? = some (.cells #[.int .i64 o.f, .int .i64 o.s, .int .i64 o.c, v] 88 (0, 0))
theorem GrowAt.lt {W : World} {g : Nat} {o : Rn} {v : Value} (h : GrowAt W g o v) : g < W.heap.size := (Array.getElem?_eq_some_iff.1 h).1
theorem GrowAt.cells {W : World} {g : Nat} {o : Rn} {v : Value} (h : GrowAt W g o v) : W.cell? ⟨g, 0, none⟩ = some (.int .i64 o.f) ∧ W.cell? ⟨g, 1, none⟩ = some (.int .i64 o.s) ∧ W.cell? ⟨g, 2, none⟩ = some (.int .i64 o.c) ∧ W.cell? ⟨g, 3, none⟩ = some v ∧
    (∀ j, W.frozen? ⟨g, j, none⟩ = false) := by
  have e : W.heap[g]? = _ := h
  simp [World.cell?, World.frozen?, e]
/-- The blocks that a row that grows may turn. -/
def XG (g : Nat) (W : World) (k : Nat) : Prop := k = g ∨ ∃ off n c s, W.cell? ⟨g, 3, none⟩ = some (.slice (some ⟨k, off, s⟩) n c)
theorem XG_hangs (g : Nat) : Hangs (XG g) g := by
  intro W W' k h hx
  rcases hx with rfl | ⟨off, n, c, s, e⟩
  · exact .inl rfl
  · exact .inr ⟨off, n, c, s, by rw [← e]; exact (World.cell?_of_block (w := W) h).symm⟩
/-- Of the world that was: what lies below B stays, what is no cells stays, and of cells those of a row that grows turn alone. -/
structure Took (B g : Nat) (W W' : World) : Prop where
  below : Below B W W'
  others : KeepsOthers W W'
  cells : KeepsC (XG g) W W'
theorem Took.trans {B g : Nat} {X Y Z : World} (h : Took B g X Y) (k : Took B g Y Z) : Took B g X Z := ⟨h.below.trans k.below, h.others.trans k.others, h.cells.trans k.cells⟩
theorem Took.of_below {B g : Nat} {W W' : World} (hg : g < W.heap.size) (hB : B ≤ W.heap.size) (h : Below W.heap.size W W') : Took B g W W' :=
  ⟨h.mono hB, ⟨h.size, fun k _ ho _ => (h.block k (Array.getElem?_eq_some_iff.1 ho).1).trans ho⟩, KeepsC.of_below (XG_hangs g) hg h⟩
/-- A field of the open run is stored. -/
theorem Took.set {B g i : Nat} {W : World} {o : Rn} {v : Value} (h : GrowAt W g o v) (hB : B ≤ g) (hi : i < 3) (u : Value) : Took B g W (W.setCell ⟨g, i, none⟩ u) := by
  have hs : (W.setCell ⟨g, i, none⟩ u).heap.size = W.heap.size := by simp [World.setCell]
  refine ⟨(Below.refl _ _).setCell (p := ⟨g, i, none⟩) hB _, KeepsOthers.setCell _ _ _, ⟨by omega, fun k hk => .inl ?_, fun k o' ho hc hx => ?_⟩⟩
  · rcases hk with rfl | ⟨off, n, c, s, e⟩
    · exact .inl rfl
    · rw [World.cell?_setCell_other _ _ _ _ (by intro e'; cases e'; omega)] at e
      exact .inr ⟨off, n, c, s, e⟩
  · exact (Below.heap_setCell W ⟨g, i, none⟩ u k (fun e => hx (.inl e))).trans ho
/-- The shut runs are stored anew: in the block where they lay, or in a new one. -/
theorem Took.setRow {B g : Nat} {W W5 W8 : World} {o : Rn} {v v8 : Value} (h : GrowAt W g o v) (hB : B ≤ g) (hBW : B ≤ W.heap.size) (hb : Below W.heap.size W W5) (hv : ∀ k, v.ownBlock = some k → B ≤ k ∧ k ≠ g ∧ k < W.heap.size) (hvs : v.ownBlock ≠ none → ∃ off n c s k, v = .slice (some ⟨k, off, s⟩) n c ∧ v.ownBlock = some k ∧ (∃ cur t f, W.heap[k]? = some (.cells cur t f)))
    (hg : W5.grownBy W8 v.ownBlock) (h8 : v8.ownBlock = v.ownBlock ∨ v8.ownBlock = some W5.heap.size) (h8l : ∀ k, v8.ownBlock = some k → k < W8.heap.size) (h8s : ∀ k off s n c, v8 = .slice (some ⟨k, off, s⟩) n c → v8.ownBlock = some k)
    : Took B g W (W8.setCell ⟨g, 3, none⟩ v8) ∧ GrowAt (W8.setCell ⟨g, 3, none⟩ v8) g o v8 := by
  have hgl := h.lt
  have hg5 : GrowAt W5 g o v := (hb.block g hgl).trans h
  have hne : v.ownBlock ≠ some g := fun e => (hv g e).2.1 rfl
  have hg8 : GrowAt W8 g o v := (hg.block g hg5.lt (fun e => hne e.symm)).trans hg5
  have hs : (W8.setCell ⟨g, 3, none⟩ v8).heap.size = W8.heap.size := by simp [World.setCell]
  have hG : GrowAt (W8.setCell ⟨g, 3, none⟩ v8) g o v8 := by
    have := heap_setCell_same W8 g 3 _ _ v8 hg8
    simpa [GrowAt] using this
  have hcell : ∀ k, v.ownBlock = some k → XG g W k := by
    intro k hk
    obtain ⟨off, n, c, s, k2, e1, e2, _⟩ := hvs (by rw [hk]; simp)
    rw [e2] at hk
    cases hk
    exact .inr ⟨off, n, c, s, by rw [h.cells.2.2.2.1, e1]⟩
  have hkeep : ∀ (k : Nat) (o' : Obj), W.heap[k]? = some o' → k ≠ g → v.ownBlock ≠ some k → (W8.setCell ⟨g, 3, none⟩ v8).heap[k]? = some o' := by
    intro k o' ho h1 h2
    have hk := (Array.getElem?_eq_some_iff.1 ho).1
    exact (Below.heap_setCell W8 ⟨g, 3, none⟩ v8 k h1).trans ((hg.block k (Nat.lt_of_lt_of_le hk hb.size) (fun e => h2 e.symm)).trans ((hb.block k hk).trans ho))
  refine ⟨⟨?_, ⟨by rw [hs]; exact Nat.le_trans hb.size hg.size, ?_⟩, ⟨by rw [hs]; exact Nat.le_trans hb.size hg.size, ?_, ?_⟩⟩, hG⟩
  · refine Below.setCell (p := ⟨g, 3, none⟩) ?_ hB _
    exact ((hb.mono hBW)).grown hg (Nat.le_trans hBW hb.size) (fun k e => (hv k e).1)
  · intro k o' ho hc
    refine hkeep k o' ho (fun e => ?_) (fun e => ?_)
    · subst e; rw [show W.heap[k]? = _ from h] at ho; cases ho; cases hc
    · obtain ⟨off, n, c, s, k2, e1, e2, cur, t, f, e3⟩ := hvs (by rw [e]; simp)
      rw [e2] at e
      cases e
      rw [e3] at ho; cases ho; cases hc
  · intro k hk
    rcases hk with rfl | ⟨off, n, c, s, e⟩
    · exact .inl (.inl rfl)
    · rw [hG.cells.2.2.2.1] at e
      have hk8 := h8s k off s n c (Option.some.inj e)
      rcases h8 with h8 | h8
      · rw [h8] at hk8
        exact .inl (hcell k hk8)
      · rw [h8] at hk8
        cases hk8
        exact .inr ⟨hb.size, by rw [hs]; exact h8l _ h8⟩
  · intro k o' ho _ hx
    exact hkeep k o' ho (fun e => hx (.inl e)) (fun e => hx (hcell k e))
end Go.Proofs.Ytlfjmdfplmdmgaa
