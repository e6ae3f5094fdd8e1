/-
  Layer 7: runs: all times of runs, in a row of their own. Conditions: those written at each fact.
-/
import Derived.Test.YtlfjmdfplmdmgaaRnN
import Derived.Test.YtlfjmdfplmdmgaaRnK
import Derived.Test.YtlfjmdfplmdmgaaRnD
import Derived.Maps.OwnIn
namespace Go.Proofs.Ytlfjmdfplmdmgaa
open Go.RowKit Go.Shelf
attribute [local go_sem] Oper.semAt_some

/-- The blocks that a row of a variable's own may turn. -/
def XT (g : Nat) (W : World) (k : Nat) : Prop := k = g ∨ ∃ off n c s, W.cell? ⟨g, 0, none⟩ = some (.slice (some ⟨k, off, s⟩) n c)
theorem XT_hangs (g : Nat) : Hangs (XT g) g := by
  intro W W' k h hx
  rcases hx with rfl | ⟨off, n, c, s, e⟩
  · exact .inl rfl
  · exact .inr ⟨off, n, c, s, by rw [← e]; exact (World.cell?_of_block (w := W) h).symm⟩
/-- A row grows, and its variable. -/
theorem row_step {B g : Nat} {W W5 W8 : World} {t e : TypeId} {size n m : Nat} {v v8 : Value} {xs ys : List Value} (hte : t ≠ e) (h : Boxed W g t v) (hB : B ≤ g) (hBW : B ≤ W.heap.size) (hb : Below W.heap.size W W5) (hown : W.ownsRow B e size v n xs)
    (hg : W5.grownBy W8 v.ownBlock) (h8 : v8.ownBlock = v.ownBlock ∨ v8.ownBlock = some W5.heap.size) (hown8 : W8.ownsRow B e size v8 m ys) :
    Below B W (W8.setCell ⟨g, 0, none⟩ v8) ∧ KeepsOthers W (W8.setCell ⟨g, 0, none⟩ v8) ∧ KeepsC (XT g) W (W8.setCell ⟨g, 0, none⟩ v8) ∧ Boxed (W8.setCell ⟨g, 0, none⟩ v8) g t v8 ∧ (W8.setCell ⟨g, 0, none⟩ v8).ownsRow B e size v8 m ys := by
  have hgl := h.lt
  have hg5 : Boxed W5 g t v := (hb.block g hgl).trans h
  have hne : v.ownBlock ≠ some g := fun e2 => (Boxed.not_row h hte hown) e2.symm
  have hg8 : Boxed W8 g t v := (hg.block g hg5.lt (fun e2 => hne e2.symm)).trans hg5
  have hs : (W8.setCell ⟨g, 0, none⟩ v8).heap.size = W8.heap.size := by simp [World.setCell]
  have hG : Boxed (W8.setCell ⟨g, 0, none⟩ v8) g t v8 := hg8.set v8
  have hlow : ∀ k, v.ownBlock = some k → B ≤ k ∧ k < W.heap.size := hown.lt
  have hform : ∀ k, v.ownBlock = some k → (∃ off n c s, v = .slice (some ⟨k, off, s⟩) n c) ∧ ∃ cur t f, W.heap[k]? = some (.cells cur t f) := by
    intro k hk
    rcases hown.2 with ⟨rfl, _⟩ | ⟨g', cap, cur, rfl, _, e3, _⟩
    · simp [Value.ownBlock] at hk
    · simp [Value.ownBlock] at hk
      subst hk
      exact ⟨⟨0, _, _, none, rfl⟩, _, _, _, e3⟩
  have hcell : ∀ k, v.ownBlock = some k → XT g W k := by
    intro k hk
    obtain ⟨⟨off, n, c, s, e1⟩, _⟩ := hform k hk
    exact .inr ⟨off, n, c, s, by rw [h.cell, e1]⟩
  have hkeep : ∀ (k : Nat) (o' : Obj), W.heap[k]? = some o' → k ≠ g → v.ownBlock ≠ some k → (W8.setCell ⟨g, 0, none⟩ v8).heap[k]? = some o' := by
    intro k o' ho h1 h2
    have hk := (Array.getElem?_eq_some_iff.1 ho).1
    exact (Below.heap_setCell W8 ⟨g, 0, none⟩ v8 k h1).trans ((hg.block k (Nat.lt_of_lt_of_le hk hb.size) (fun e => h2 e.symm)).trans ((hb.block k hk).trans ho))
  refine ⟨?_, ⟨by rw [hs]; exact Nat.le_trans hb.size hg.size, ?_⟩, ⟨by rw [hs]; exact Nat.le_trans hb.size hg.size, ?_, ?_⟩, hG, ?_⟩
  · refine Below.setCell (p := ⟨g, 0, none⟩) ?_ hB _
    exact ((hb.mono hBW)).grown hg (Nat.le_trans hBW hb.size) (fun k e => (hlow k e).1)
  · intro k o' ho hc
    refine hkeep k o' ho (fun e => ?_) (fun e => ?_)
    · subst e; rw [show W.heap[k]? = _ from h] at ho; cases ho; cases hc
    · obtain ⟨_, cur, t, f, e3⟩ := hform k e
      rw [e3] at ho; cases ho; cases hc
  · intro k hk
    rcases hk with rfl | ⟨off, n, c, s, e⟩
    · exact .inl (.inl rfl)
    · rw [hG.cell] at e
      have hk8 := own_block k off s n c (Option.some.inj e)
      rcases h8 with h8 | h8
      · rw [h8] at hk8
        exact .inl (hcell k hk8)
      · have hl := (hown8.lt k hk8).2
        rw [h8] at hk8
        cases hk8
        exact .inr ⟨hb.size, by rw [hs]; exact hl⟩
  · intro k o' ho _ hx
    exact hkeep k o' ho (fun e => hx (.inl e)) (fun e => hx (hcell k e))
  · refine ⟨hown8.1, ?_⟩
    rcases hown8.2 with h2 | ⟨g', cap, cur, e1, e2, e3, e4⟩
    · exact .inl h2
    · refine .inr ⟨g', cap, cur, e1, e2, (Below.heap_setCell W8 ⟨g, 0, none⟩ v8 g' (fun e => ?_)).trans e3, e4⟩
      replace e : g' = g := e
      subst e
      rw [show W8.heap[g']? = _ from hg8] at e3
      cases e3
      exact hte rfl
theorem owns_kept {W W' : World} {row : Option Nat} {B : Nat} {e : TypeId} {size n : Nat} {v : Value} {xs : List Value} (h : W.ownsRow B e size v n xs) (hgr : W.grownBy W' row) (hr : ∀ r, row = some r → ∃ o : Obj, W.heap[r]? = some o ∧ o.isCells = false) : W'.ownsRow B e size v n xs := by
  refine ⟨h.1, ?_⟩
  rcases h.2 with h3 | ⟨g', cap, cur, e1, e2, e3, e4⟩
  · exact .inl h3
  · exact .inr ⟨g', cap, cur, e1, e2, cells_kept hgr hr e3 rfl, e4⟩
theorem below_grown {W0 W W' : World} {row : Option Nat} {C : Nat} (hC : W0.heap.size ≤ C) (h : Below W0.heap.size W0 W) (hgr : W.grownBy W' row) (hr : ∀ r, row = some r → C ≤ r) : Below W0.heap.size W0 W' :=
  h.grown hgr h.size (fun r e => by have := hr r e; omega)
theorem new_cells1 {W : World} {a : Value} {t : TypeId} {n : Nat} (hn : n = W.heap.size) : ∀ (j : Nat) (u : Value), [a][j]? = some u → (W.alloc (.cells #[a] t)).cell? ((⟨n, 0, none⟩ : Addr).add j) = some u := by
  subst hn
  intro j u h
  match j, h with
  | 0, h => cases h; simp [Addr.add, go_sem]
  | j + 1, h => simp at h
/-- A row of numbers of the call's own, from B on. -/
def RowI (B : Nat) (l : List Int) (v : Value) (W : World) : Prop := W.ownsRow B 2 1 v l.length (l.map (Value.int .i64))

set_option maxRecDepth 100000 in
set_option maxHeartbeats 2000000 in
theorem times1_any (l : List Rn) (hl : l.length ≤ 1000000) (Bl : Nat) (w : World) (v : Value) (h : ReadsR w v l) (hbl : Boxed w Bl 22 v) :
    Calls Try.prog 37 #[.pointer (some ⟨Bl, 0, none⟩)] w (fun e w' => Below w.heap.size w w' ∧ if okB l then ∃ v, e = .returned v ∧ RowI w.heap.size (timesR l) v w' else e = thrown 170) := by
  have CA := Lib.hid (count_any l (by omega) v w h)
  have hcl := hbl.cell
  obtain ⟨A, c, rfl, hc, hk⟩ := h
  have hrd : ReadsR w (.slice A l.length c) l := ⟨A, c, rfl, hc, hk⟩
  cases gk : okB l
  · have HK := Lib.hid gk
    clear gk
    refine calls_marks Try.func37 rfl ?_
    simp only [Try.ntmps37, List.size_toArray, List.length_cons, List.length_nil, Nat.reduceAdd, Nat.reduceSub, Array.replicate_succ, Array.replicate_zero, List.push_toArray, List.append_toArray, List.nil_append, List.cons_append]
    go_wp2_with (go_at_call 38; refine CA.out.mono ?_; rintro e w1 ⟨he, hb⟩; rw [HK.out] at he; replace he : e = thrown 170 := he; subst he)
    exact ⟨hb, by simp⟩
  obtain ⟨hne, hR, hT, hl2⟩ := okB_facts gk
  have HK := Lib.hid gk
  have CB : Hid (Calls Try.prog 38 #[.slice A l.length c] w (Ret w (.int .i64 (totalR l)))) := Lib.hid (CA.out.mono fun e w' he => ⟨by rw [he.1, gk]; rfl, he.2⟩)
  simp only [if_true]
  clear gk CA
  have hTL := timesR_length (l := l) (fun r hr => by have := (hR r hr).1; omega)
  obtain ⟨N, hN⟩ : ∃ N : Nat, totalR l = (N : Int) := ⟨_, hTL.symm⟩
  rw [hN] at CB hTL hT
  obtain ⟨i0, hi, hz0, hz1, hz2⟩ := info_parts infoI64
  have hmk : ∀ W : World, (Instr.makeSlice 26 (.int .i64 0) (.int .i64 (N : Int))).run Try.prog W = .ok (.slice (some ⟨W.heap.size, 0, none⟩) 0 N) (W.alloc (.cells (madeCells #[.int .i64 0] N) 2)) := by
    intro W
    have := run_make (P := Try.prog) W 26 2 i0 (.int .i64 0) Try.underlying26 hi hz0 .i64 .i64 0 (N : Int) (by omega) (by omega) (by rw [hz2]; omega) (by omega)
    simpa [Value.cells, hz1] using this
  refine calls_marks Try.func37 rfl ?_
  simp only [Try.ntmps37, List.size_toArray, List.length_cons, List.length_nil, Nat.reduceAdd, Nat.reduceSub, Array.replicate_succ, Array.replicate_zero, List.push_toArray, List.append_toArray, List.nil_append, List.cons_append]
  go_wp2_with fail
  refine CB.out.mono ?_
  rintro e w1 ⟨rfl, hb1⟩
  have hs1 := hb1.size
  have hrd1 := hrd.below hb1
  have hbl1 : Boxed w1 Bl 22 (.slice A l.length c) := (hb1.block Bl hbl.lt).trans hbl
  obtain ⟨W2, hW2⟩ : ∃ W2, (w1.alloc (.cells (madeCells #[.int .i64 0] N) 2)).alloc (.cells #[.slice (some ⟨w1.heap.size, 0, none⟩) 0 N] 26) = W2 := ⟨_, rfl⟩
  have hb12 : Below w1.heap.size w1 W2 := by rw [← hW2]; exact ((Below.refl _ w1).alloc (Nat.le_refl _) _).alloc (by simp) _
  have hs2 : W2.heap.size = w1.heap.size + 2 := by rw [← hW2]; simp
  have hbT : Boxed W2 (w1.heap.size + 1) 26 (.slice (some ⟨w1.heap.size, 0, none⟩) 0 N) := by
    rw [← hW2]; have := Boxed.new (w1.alloc (.cells (madeCells #[.int .i64 0] N) 2)) 26 (.slice (some ⟨w1.heap.size, 0, none⟩) 0 N); rwa [World.size_alloc] at this
  have hoT : W2.ownsRow w.heap.size 2 1 (.slice (some ⟨w1.heap.size, 0, none⟩) 0 N) 0 [] := by
    rw [← hW2]
    exact (World.ownsRow_made w1 (madeCells #[.int .i64 0] N) N hs1 (by unfold maxLen; omega) (by rw [size_madeCells]; omega)).alloc _
  have hcl2 := (hb12.cell (p := ⟨Bl, 0, none⟩) hbl1.lt).trans hbl1.cell
  have hrd2 := hrd1.below hb12
  clear hcl
  go_wp2_with (go_at_call 39; refine (all_any _ _ _ _ _ rfl).mono ?_; rintro e w' ⟨rfl, rfl⟩)
  have hbL := Boxed.new W2 22 (.slice A l.length c)
  have hb3 := below_alloc W2 (.cells #[.slice A l.length c] 22)
  have hs3 : (W2.alloc (.cells #[.slice A l.length c] 22)).heap.size = w1.heap.size + 3 := by simp [hs2]
  have hbT3 := hbT.alloc (.cells #[.slice A l.length c] 22)
  have hoT3 := hoT.alloc (.cells #[.slice A l.length c] 22)
  have hrd3 := hrd2.below hb3
  have hB3 : Below w.heap.size w (W2.alloc (.cells #[.slice A l.length c] 22)) := (hb1.trans (hb12.mono hs1)).trans (hb3.mono (by omega))
  rw [hs2] at hbL
  generalize W2.alloc (.cells #[.slice A l.length c] 22) = W3 at *
  have hXs : ∀ k, XT (w1.heap.size + 1) W3 k → k = w1.heap.size + 1 ∨ k = w1.heap.size := by
    intro k hk
    rcases hk with rfl | ⟨off, n, c, s, e⟩
    · exact .inl rfl
    · rw [hbT3.cell] at e
      cases e
      exact .inr rfl
  have hst : Stand (XT (w1.heap.size + 1)) A c l W3 := ⟨hrd3, fun b off hne' e hx => by
      obtain ⟨r, l', rfl⟩ := List.exists_cons_of_ne_nil hne'
      obtain ⟨b', off', e1, e2, _⟩ := hk 0 r rfl
      rw [e] at e1
      cases e1
      have := hXs _ hx
      omega, fun k hk => by have := hXs k hk; omega⟩
  have hseq := all1_stops (α := Int × Int) id (numR 0 (timesR l)) (XT (w1.heap.size + 1)) (w1.heap.size + 1) (XT_hangs _) l hl hR (List.map_id _) (by rw [numR_length]; omega) A c (w1.heap.size + 2) W3 (by omega) hst hbL
  have hNL := numR_length 0 (timesR l)
  have hNM := numR_map 0 (timesR l)
  have HNM := Lib.hid hNM
  clear hst hbL hrd3 hrd2 hrd1 hrd hk hR hXs hcl2 hbT hoT hW2 hb12 hbl1 hbl hb3 hmk hNM
  refine wp_rangeC (X := XT (w1.heap.size + 1)) (b := w1.heap.size + 1) (XT_hangs _) (by omega) (gf := 66) (lb := #[.pointer (some ⟨w1.heap.size + 2, 0, none⟩)]) rfl (enters_of Try.func66 (by kernel_rfl) rfl)
    hseq (fun _ => rfl)
    (fun pre W' => ∃ v, Boxed W' (w1.heap.size + 1) 26 v ∧ RowI w.heap.size (pre.map (·.2)) v W' ∧ Below w.heap.size w W') (fun _ _ _ => False)
    ?oI (fun _ _ _ _ _ hs _ _ => hs) ⟨_, hbT3, hoT3, hB3⟩
    (fun d => { tmps := #[Value.pointer (some ⟨Bl, 0, none⟩), Value.slice none 0 0, Value.pointer (some ⟨w1.heap.size + 1, 0, none⟩), undef, .int .i64 d.2, Value.slice A l.length c, Value.int .i64 N, Value.slice (some ⟨w1.heap.size, 0, none⟩) 0 N, Value.slice A l.length c, Value.func (Fn.func 66) #[] #[Value.pointer (some ⟨w1.heap.size + 2, 0, none⟩)], .int .i64 d.1, .int .i64 d.2, undef, undef, undef, undef, undef], defers := [] }) ?assign ?body ?done ?stop
  case oI =>
    intro pre W1 W1' row ⟨v, h1, h2, h3⟩ hgr hr
    have hr2 : ∀ r, row = some r → ∃ o : Obj, W1.heap[r]? = some o ∧ o.isCells = false := fun r e => (hr r e).2
    exact ⟨v, cells_kept hgr hr2 h1 rfl, owns_kept h2 hgr hr2, below_grown (C := W3.heap.size) hB3.size h3 hgr (fun r e => (hr r e).1)⟩
  case assign =>
    intro l' d W K hK
    gi_wp2
    simpa using hK
  case body =>
    rintro l' pre ⟨p, t⟩ W1 ⟨v, h1, h2, h3⟩ hlt
    have hpl : pre.length ≤ 256 := by omega
    have hc1 := h1.cell
    have hf1 := h1.frozen
    have h1s := h3.size
    have hgl := h1.lt
    have H1 := Lib.hid h1
    have h2' : W1.ownsRow w.heap.size 2 1 v pre.length ((pre.map (·.2)).map (Value.int .i64)) := by
      have := h2
      unfold RowI at this
      rwa [List.length_map] at this
    have H2 := Lib.hid h2'
    have H3 := Lib.hid h3
    clear h1 h2 h2' hlt hseq hbT3 hoT3 hB3 h3
    gi_wp2_with (gi_at_builtin; refine wpListIn_append_own_at _ rfl _ _ 26 rfl w.heap.size 2 i0 (.int .i64 0) 1 8 Try.underlying26 hi hz0 hz1 hz2 rfl (by decide) v _ _ rfl (owns_below H2.out (below_alloc W1 _)) ⟨W1.heap.size, 0, none⟩ 1 1 [.int .i64 t] rfl rfl (new_cells1 rfl) (by intro u hu; simp at hu; subst hu; rfl) (by unfold maxLen; omega) (by omega) (by simp; omega) ?_; intro v8 w8 hown8 hgrow8 _ h8; obtain ⟨g8, cap8, rfl⟩ := ownsRow_succ hown8; have hx8 : Boxed w8 (w1.heap.size + 1) 26 v := (hgrow8.block _ (by simp; omega) (fun e => Boxed.not_row H1.out (by decide) H2.out e)).trans (((below_alloc W1 _).block _ hgl).trans H1.out); have hc8 := hx8.cell; have hf8 := hx8.frozen)
    obtain ⟨q1, q2, q3, q4, q5⟩ := row_step (B := w.heap.size) (by decide) H1.out (by omega) h1s (below_alloc W1 _) H2.out hgrow8 h8 hown8
    refine ⟨q2.from _, q3, _, q4, ?_, H3.out.trans q1⟩
    unfold RowI
    rw [List.map_append, List.map_append, List.length_append, List.length_map]
    simpa using q5
  case done =>
    rintro D ys W1 hD rfl ⟨v, h1, h2, h3⟩ hK
    rw [HNM.out] at h2
    have H2 := Lib.hid h2
    have H3 := Lib.hid h3
    have hc1 := h1.cell
    obtain ⟨A1, n1, c1, hv⟩ : ∃ A1 n1 c1, v = .slice A1 n1 c1 := by
      rcases h2.2 with ⟨rfl, _⟩ | ⟨g', cap, cur, rfl, _⟩
      · exact ⟨_, _, _, rfl⟩
      · exact ⟨_, _, _, rfl⟩
    subst hv
    clear h2 hseq hbT3 hoT3
    go_wp2_with fail
    refine ⟨by simp, .inl ⟨_, _, rfl, run_takeDeferred hK, ?_⟩⟩
    exact ⟨_, results_tmp rfl _ _ _, below_grown (C := W3.heap.size) hB3.size H3.out (grownBy_putObj' W1 D _) (fun r e => by cases e; exact hD), .slice A1 n1 c1, rfl, owns_kept (show World.ownsRow _ _ _ _ _ _ _ from H2.out) (grownBy_putObj' W1 D _) (fun r e => by cases e; exact ⟨_, hK, rfl⟩)⟩
  case stop =>
    rintro D c pre W _ _ h _
    exact h.elim
end Go.Proofs.Ytlfjmdfplmdmgaa
