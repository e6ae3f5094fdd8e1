/-
  Layer 7: runs: the times of runs come to a row that grows, one by one. Conditions: those written at each fact.
-/
import Derived.Test.YtlfjmdfplmdmgaaRnJ
import Derived.Test.YtlfjmdfplmdmgaaRnF
namespace Go.Proofs.Ytlfjmdfplmdmgaa
open Go.RowKit Go.Shelf
attribute [local go_sem] Oper.semAt_some

theorem grownBy_took {B g C : Nat} {W0 W W' : World} {row : Option Nat} (hC : W0.heap.size ≤ C) (hB : B ≤ W0.heap.size) (hg : g < W0.heap.size) (h : Took B g W0 W) (hgr : W.grownBy W' row) (hr : ∀ r, row = some r → C ≤ r ∧ ∃ o : Obj, W.heap[r]? = some o ∧ o.isCells = false) : Took B g W0 W' := by
  have hlow : ∀ k, k < W0.heap.size → W'.heap[k]? = W.heap[k]? := fun k hk => hgr.block k (Nat.lt_of_lt_of_le hk h.below.size) (fun e => by have := (hr k e.symm).1; omega)
  refine ⟨⟨hgr.os.trans h.below.os, hgr.tape.trans h.below.tape, hgr.output.trans h.below.output, Nat.le_trans h.below.size hgr.size, fun k hk => ?_⟩, ⟨Nat.le_trans h.below.size hgr.size, fun k o ho hc => ?_⟩, ⟨Nat.le_trans h.below.size hgr.size, fun k hk => ?_, fun k o ho hc hx => ?_⟩⟩
  · exact (hlow k (Nat.lt_of_lt_of_le hk hB)).trans (h.below.block k hk)
  · exact (hlow k (Array.getElem?_eq_some_iff.1 ho).1).trans (h.others.same k o ho hc)
  · have hxw : XG g W k := XG_hangs g W W' k (hlow g hg) hk
    rcases h.cells.2.1 k hxw with h1 | h1
    · exact .inl h1
    · exact .inr ⟨h1.1, Nat.lt_of_lt_of_le h1.2 hgr.size⟩
  · exact (hlow k (Array.getElem?_eq_some_iff.1 ho).1).trans (h.cells.2.2 k o ho hc hx)
theorem cells_kept {W W' : World} {row : Option Nat} (hgr : W.grownBy W' row) (hr : ∀ r, row = some r → ∃ o : Obj, W.heap[r]? = some o ∧ o.isCells = false) {k : Nat} {o : Obj} (ho : W.heap[k]? = some o) (hc : o.isCells = true) : W'.heap[k]? = some o :=
  (hgr.block k (Array.getElem?_eq_some_iff.1 ho).1 (fun e => by
    obtain ⟨o2, h2, h3⟩ := hr k e.symm
    rw [ho] at h2; cases h2; rw [hc] at h3; cases h3)).trans ho
theorem GrowS.grown {B g : Nat} {W W' : World} {row : Option Nat} {st : Rn × List Rn} (h : GrowS B W g st) (hgr : W.grownBy W' row) (hr : ∀ r, row = some r → ∃ o : Obj, W.heap[r]? = some o ∧ o.isCells = false) : GrowS B W' g st := by
  obtain ⟨v, h1, h2⟩ := h
  refine ⟨v, cells_kept hgr hr h1 rfl, h2.1, ?_⟩
  rcases h2.2 with h3 | ⟨g', cap, cur, e1, e2, e3, e4⟩
  · exact .inl h3
  · exact .inr ⟨g', cap, cur, e1, e2, cells_kept hgr hr e3 rfl, e4⟩
theorem GrowS.small {B g : Nat} {W : World} {st : Rn × List Rn} (h : GrowS B W g st) : ∀ k, XG g W k → k < W.heap.size := by
  obtain ⟨v, h1, h2⟩ := h
  intro k hk
  rcases hk with rfl | ⟨off, n, c, s, e⟩
  · exact h1.lt
  · rw [h1.cells.2.2.2.1] at e
    exact (h2.lt k (own_block k off s n c (Option.some.inj e))).2
theorem GrowS.high {B g : Nat} {W : World} {st : Rn × List Rn} (hB : B ≤ g) (h : GrowS B W g st) : ∀ k, XG g W k → B ≤ k := by
  obtain ⟨v, h1, h2⟩ := h
  intro k hk
  rcases hk with rfl | ⟨off, n, c, s, e⟩
  · exact hB
  · rw [h1.cells.2.2.2.1] at e
    exact (h2.lt k (own_block k off s n c (Option.some.inj e))).1
abbrev takeF (g : Nat) : Value := .func (.func 70) #[.pointer (some ⟨g, 0, none⟩)] #[]
theorem numR_map : ∀ (k : Nat) (l : List Int), (numR k l).map (·.2) = l
  | _, [] => rfl
  | k, t :: l => by simp [numR, numR_map (k + 1) l]

/-- A time with its place. -/
abbrev TM := { z : Int × Int // 0 ≤ z.2 ∧ z.2 ≤ 281474976710656 }
theorem times_lift : ∀ {k : Nat} {l : List Int}, (∀ t ∈ l, 0 ≤ t ∧ t ≤ 281474976710656) → ∃ L : List TM, L.map (·.1) = numR k l
  | _, [], _ => ⟨[], rfl⟩
  | k, z :: l, h => by
    obtain ⟨L, e⟩ := times_lift (k := k + 1) (l := l) (fun y hy => h y (List.mem_cons_of_mem _ hy))
    exact ⟨⟨((k : Int), z), h z (List.mem_cons_self ..)⟩ :: L, by simp [e, numR]⟩
theorem lift_map {L : List TM} {k : Nat} {l : List Int} (h : L.map (·.1) = numR k l) : L.map (·.1.2) = l := by
  have := congrArg (List.map (·.2)) h
  rwa [numR_map, List.map_map] at this

set_option maxRecDepth 100000 in
set_option maxHeartbeats 2000000 in
theorem each_any (w0 : World) (g : Nat) (st : Rn × List Rn) (n : Nat) (hok : OpenOk st.1 n) (hsl : st.2.length ≤ n) (l : List Rn) (hl : l.length ≤ 1000000) (hR : ∀ r ∈ l, RunOk r) (hn : n + (timesR l).length ≤ 900) (htm : ∀ t ∈ timesR l, 0 ≤ t ∧ t ≤ 281474976710656)
    (v : Value) (hv : ReadsR w0 v l) (W : World) (hG0 : GrowS w0.heap.size W g st) (hw0 : Below w0.heap.size w0 W) (hBg : w0.heap.size ≤ g) :
    Calls Try.prog 58 #[v, takeF g] W (fun e w' => e = .returned (.tuple #[]) ∧ Took w0.heap.size g W w' ∧ GrowS w0.heap.size w' g ((timesR l).foldl takeR st)) := by
  obtain ⟨A, c, rfl, hc, hk⟩ := hv
  have HV : ReadsR w0 (.slice A l.length c) l := ⟨A, c, rfl, hc, hk⟩
  have hgl := hG0.low
  have hsm := hG0.small
  have hhi := GrowS.high hBg hG0
  obtain ⟨full, hF⟩ := times_lift (k := 0) htm
  have hfl : full.length = (timesR l).length := by rw [← numR_length 0 (timesR l), ← hF, List.length_map]
  refine calls_marks Try.func58 rfl ?_
  simp only [Try.ntmps58, List.size_toArray, List.length_cons, List.length_nil, Nat.reduceAdd, Nat.reduceSub, Array.replicate_succ, Array.replicate_zero, List.push_toArray, List.append_toArray, List.nil_append, List.cons_append]
  go_wp2_with (go_at_call 39; refine (all_any _ _ _ _ _ rfl).mono ?_; rintro e w' ⟨rfl, rfl⟩)
  obtain ⟨W2, hW2⟩ : ∃ W2, W2 = ((W.alloc (.cells #[takeF g] 70)).alloc (.cells #[.slice A l.length c] 22)) := ⟨_, rfl⟩
  rw [← hW2]
  have hs2 : W2.heap.size = W.heap.size + 2 := by rw [hW2]; simp
  have hb2 : Below W.heap.size W W2 := by rw [hW2]; exact ((Below.refl _ W).alloc (Nat.le_refl _) _).alloc (by simp) _
  have hbT : Boxed W2 W.heap.size 70 (takeF g) := by rw [hW2]; exact (Boxed.new W _ _).alloc _
  have hbL : Boxed W2 (W.heap.size + 1) 22 (.slice A l.length c) := by
    rw [hW2]; have := Boxed.new (W.alloc (.cells #[takeF g] 70)) 22 (.slice A l.length c); rwa [World.size_alloc] at this
  have hT2 : Took w0.heap.size g W W2 := Took.of_below hgl hw0.size hb2
  have hX2 : ∀ k, XG g W2 k → XG g W k := fun k hk => XG_hangs g W W2 k (hb2.block g hgl) hk
  have hst : Stand (XG g) A c l W2 := ⟨HV.below (hw0.trans (hb2.mono hw0.size)), fun b off hne e hx => by
      obtain ⟨r, l', rfl⟩ := List.exists_cons_of_ne_nil hne
      obtain ⟨b', off', e1, e2, _⟩ := hk 0 r rfl
      rw [e] at e1
      cases e1
      have := hhi _ (hX2 _ hx)
      omega, fun k hk => by have := hsm k (hX2 k hk); omega⟩
  have hG2 : GrowS w0.heap.size W2 g st := by
    obtain ⟨u, h1, h2⟩ := hG0
    exact ⟨u, (hb2.block g hgl).trans h1, owns_below h2 hb2⟩
  have hseq := all1_stops (α := TM) (·.1) full (XG g) g (XG_hangs g) l hl hR hF (by omega) A c (W.heap.size + 1) W2 (by omega) hst hbL
  clear hst hbL hc hk HV hR
  have hnx : ¬ XG g W2 W.heap.size := fun h => by have := hsm _ (hX2 _ h); omega
  clear hW2
  refine wp_rangeC (X := XG g) (b := g) (XG_hangs g) (by omega) (gf := 66) (lb := #[.pointer (some ⟨W.heap.size + 1, 0, none⟩)]) rfl (enters_of Try.func66 (by kernel_rfl) rfl)
    hseq (fun _ => rfl)
    (fun pre W' => Took w0.heap.size g W W' ∧ GrowS w0.heap.size W' g ((pre.map (·.1.2)).foldl takeR st) ∧ Boxed W' W.heap.size 70 (takeF g) ∧ ¬ XG g W' W.heap.size) (fun _ _ _ => False)
    ?oI (fun _ _ _ _ _ hs _ _ => hs) ⟨hT2, hG2, hbT, hnx⟩
    (fun d => { tmps := #[Value.slice A l.length c, takeF g, undef, Value.pointer (some ⟨W.heap.size, 0, none⟩), undef, .int .i64 d.1.2, Value.slice A l.length c, Value.func (Fn.func 66) #[] #[Value.pointer (some ⟨W.heap.size + 1, 0, none⟩)], .int .i64 d.1.1, .int .i64 d.1.2, undef, undef, undef], defers := [] }) ?assign ?body ?done ?stop
  case oI =>
    intro pre W1 W1' row ⟨h1, h2, h3, h4⟩ hgr hr
    have hr2 : ∀ r, row = some r → ∃ o : Obj, W1.heap[r]? = some o ∧ o.isCells = false := fun r e => (hr r e).2
    refine ⟨grownBy_took (C := W2.heap.size) hb2.size hw0.size hgl h1 hgr hr, h2.grown hgr hr2, cells_kept hgr hr2 h3 rfl, fun h => h4 (XG_hangs g W1 W1' _ ?_ h)⟩
    obtain ⟨u, h5, _⟩ := h2
    exact (cells_kept hgr hr2 h5 rfl).trans (show W1.heap[g]? = _ from h5).symm
  case assign =>
    intro l' d W K hK
    gi_wp2
    simpa using hK
  case body =>
    rintro l' pre ⟨⟨p, t⟩, ht0, ht1⟩ W1 ⟨h1, h2, h3, h4⟩ hlt
    simp only at ht0 ht1
    have hfo := fold_ok (pre.map (·.1.2)) st n hok hsl (fun x hx => by
      obtain ⟨y, _, rfl⟩ := List.mem_map.1 hx
      exact y.2)
    rw [List.length_map] at hfo
    have TA := Lib.hid (take_any w0 g _ (n + pre.length) (by omega) hfo.1 hfo.2 t ht0 ht1 W1 h2 (hw0.trans h1.below) hBg)
    have hc3 := h3.cell
    have H1 := Lib.hid h1
    have H3 := Lib.hid h3
    have H4 := Lib.hid h4
    clear h1 h2 h3 h4 hfo hlt hseq hT2 hG2 hbT hnx
    gi_wp2_with (refine ⟨trivial, ?_⟩; refine (CallsIn.inRound l' (callsIn_wide.2 TA.out)).mono ?_; rintro e w' ⟨rfl, hT, hG⟩)
    refine ⟨hT.others.from _, hT.cells, H1.out.trans hT, ?_, hT.cells.2.2 _ _ H3.out rfl H4.out, fun h => ?_⟩
    · rw [List.map_append, List.foldl_append]; exact hG
    · rcases hT.cells.2.1 _ h with h5 | h5
      · exact H4.out h5
      · have := H1.out.below.size
        have := H3.out.lt
        omega
  case done =>
    rintro D ys W1 hD rfl ⟨h1, h2, h3, h4⟩ hK
    have hE := lift_map hF
    rw [hE] at h2
    have H1 := Lib.hid h1
    have H2 := Lib.hid h2
    go_wp2_with fail
    refine ⟨by simp, .inl ⟨_, _, rfl, run_takeDeferred hK, ?_⟩⟩
    refine ⟨_, results_none rfl _ _ _, rfl, ?_, ?_⟩
    · exact grownBy_took (C := W2.heap.size) hb2.size hw0.size hgl H1.out (grownBy_putObj' W1 D _) (fun r e => by cases e; exact ⟨hD, _, hK, rfl⟩)
    · exact H2.out.grown (grownBy_putObj' W1 D _) (fun r e => by cases e; exact ⟨_, hK, rfl⟩)
  case stop =>
    rintro D c pre W _ _ h _
    exact h.elim
end Go.Proofs.Ytlfjmdfplmdmgaa
