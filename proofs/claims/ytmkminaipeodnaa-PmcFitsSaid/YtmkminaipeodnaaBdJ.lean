/-
  Layer 8: pmc: Cut. Conditions: those written at each fact.
-/
import Derived.Test.YtmkminaipeodnaaBdI
namespace Go.Proofs.Ytmkminaipeodnaa.P8
open Go.RowKit Go.Shelf
attribute [local go_sem] Oper.semAt_some

theorem infoInt : (Try.prog.info? 3).map (fun i => (i.zero, i.size, i.bytes)) = some (some (.int .i64 0), 1, 8) := by kernel_rfl
theorem info_parts8 {t : TypeId} {z : Value} {s b : Nat} (h : (Try.prog.info? t).map (fun i => (i.zero, i.size, i.bytes)) = some (some z, s, b)) : ∃ i : TypeInfo, Try.prog.info? t = some i ∧ i.zero = some z ∧ i.size = s ∧ i.bytes = b := by
  cases e : Try.prog.info? t with
  | none => rw [e] at h; cases h
  | some i =>
    rw [e] at h
    simp only [Option.map_some, Option.some.injEq, Prod.mk.injEq] at h
    exact ⟨i, rfl, h.1, h.2.1, h.2.2⟩
/-- How many bands each part has. -/
def cutD (l : List Bd) : List Int := (partsD 0 l).map fun p => (p.n : Int)
theorem partsD_length : ∀ (n : Nat) (k : Nat) (l : List Bd), l.length ≤ n → (partsD k l).length ≤ l.length
  | _, _, [], _ => by rw [partsD_nil]; exact Nat.le_refl _
  | 0, _, _ :: _, h => by simp at h
  | n + 1, k, b :: l, h => by
    rw [partsD_cons, List.length_cons]
    simp only [List.length_cons] at h ⊢
    have := partsD_length n (k + ((goM b.lo b.hi l).1 + 1)) (l.drop (goM b.lo b.hi l).1) (by rw [List.length_drop]; omega)
    rw [List.length_drop] at this
    omega
/-- A row of numbers of the call's own, from B on. -/
def RowN (B : Nat) (l : List Int) (v : Value) (W : World) : Prop := W.ownsRow B 3 1 v l.length (l.map (Value.int .i64))
/-- What Cut leaves within. -/
def CutEnd (w : World) (l : List Int) (code : Int) (e : Ending) (w' : World) : Prop := Below w.heap.size w w' ∧ ∃ A n c, e = .returned (.tuple #[.slice A n c, .int .i64 code]) ∧ RowN w.heap.size l (.slice A n c) w'
set_option maxRecDepth 100000 in
set_option maxHeartbeats 2000000 in
theorem cut1_any (l : List Bd) (gk : okD l = true) (Bl : Nat) (w : World) (v : Value) (h : ReadsD w v l) (hbl : Boxed w Bl 22 v) :
    Calls Try.prog 37 #[.pointer (some ⟨Bl, 0, none⟩)] w (CutEnd w (cutD l) 0) := by
  obtain ⟨_, hl2, hR⟩ := okD_facts gk
  have hne := okD_ne gk
  have hcl := hbl.cell
  have hrd := h
  obtain ⟨A, c, rfl, hc, hk⟩ := h
  obtain ⟨bb, off, rfl⟩ := readsD_some hrd hne
  clear hk gk
  obtain ⟨i0, hi, hz0, hz1, hz2⟩ := info_parts8 infoInt
  refine calls_marks Try.func37 rfl ?_
  simp only [Try.ntmps37, List.size_toArray, List.length_cons, List.length_nil, Nat.reduceAdd, Nat.reduceSub, Array.replicate_succ, Array.replicate_zero, List.push_toArray, List.append_toArray, List.nil_append, List.cons_append]
  have hbll := hbl.lt
  go_wp2_with (go_at_call 38; refine (parts_any _ _ _ _ _ rfl).mono ?_; rintro e w' ⟨rfl, rfl⟩)
  obtain ⟨W3, hW3⟩ : ∃ W3, W3 = (w.alloc (.cells #[.slice none 0 0] 43)).alloc (.cells #[.slice (some ⟨bb, off, none⟩) l.length c] 22) := ⟨_, rfl⟩
  rw [← hW3]
  have hs3 : W3.heap.size = w.heap.size + 2 := by rw [hW3]; simp
  have hbT3 : Boxed W3 w.heap.size 43 (.slice none 0 0) := by rw [hW3]; exact (Boxed.new w _ _).alloc _
  have hbL : Boxed W3 (w.heap.size + 1) 22 (.slice (some ⟨bb, off, none⟩) l.length c) := by
    rw [hW3]
    have := Boxed.new (w.alloc (.cells #[.slice none 0 0] 43)) 22 (.slice (some ⟨bb, off, none⟩) l.length c)
    rwa [World.size_alloc] at this
  have hB3 : Below w.heap.size w W3 := by rw [hW3]; exact ((Below.refl _ w).alloc (Nat.le_refl _) _).alloc (by simp) _
  have hoT3 : RowN w.heap.size [] (.slice none 0 0) W3 := World.ownsRow_nil _ _ _ _
  have hXs : ∀ k, XT w.heap.size W3 k → k = w.heap.size := by
    intro k hk
    rcases hk with rfl | ⟨off, n, c, s, e⟩
    · rfl
    · rw [hbT3.cell] at e
      cases e
  obtain ⟨hbb, hst⟩ := stand_of hrd hne hB3 hbL
  have hseq := parts1_stops (XT w.heap.size) w.heap.size (XT_hangs _) l (by omega) hR bb off c (w.heap.size + 1) W3 (by omega) (hst _ (fun hx => by have := hXs _ hx; omega) (fun hx => by have := hXs _ hx; omega))
  have hpl2 := partsD_length l.length 0 l (Nat.le_refl _)
  have HNM : Hid (cutD l = (partsD 0 l).map fun p => (p.n : Int)) := Lib.hid rfl
  clear hst hbL hrd hR hXs hbl hW3 hne
  generalize partsD 0 l = full at *
  refine wp_rangeC (X := XT w.heap.size) (b := w.heap.size) (XT_hangs _) (by omega) (gf := 48) (lb := #[.pointer (some ⟨w.heap.size + 1, 0, none⟩)]) rfl (enters_of Try.func48 (by kernel_rfl) rfl)
    hseq (fun _ => rfl)
    (fun pre W' => ∃ v, Boxed W' w.heap.size 43 v ∧ RowN w.heap.size (pre.map fun p => (p.n : Int)) v W' ∧ Below w.heap.size w W') (fun _ _ _ => False)
    ?oI (fun _ _ _ _ _ hs _ _ => hs) ⟨_, hbT3, hoT3, hB3⟩
    (fun x => { tmps := #[Value.pointer (some ⟨Bl, 0, none⟩), Value.slice none 0 0, Value.int .i64 0, Value.pointer (some ⟨w.heap.size, 0, none⟩), .slice (some ⟨bb, off + x.f * 3, none⟩) x.n x.n, Value.slice (some ⟨bb, off, none⟩) l.length c, Value.func (Fn.func 48) #[] #[Value.pointer (some ⟨w.heap.size + 1, 0, none⟩)], .slice (some ⟨bb, off + x.f * 3, none⟩) x.n x.n, spV x.lo x.hi, undef, undef, undef, undef, undef, undef], defers := [] }) ?assign ?body ?done ?stop
  case oI =>
    intro pre W1 W1' row ⟨v, h1, h2, h3⟩ hgr hr
    have hr2 : ∀ r, row = some r → ∃ o : Obj, W1.heap[r]? = some o ∧ o.isCells = false := fun r e => (hr r e).2
    exact ⟨v, cells_kept hgr hr2 h1 rfl, owns_kept h2 hgr hr2, below_grown (C := W3.heap.size) hB3.size h3 hgr (fun r e => (hr r e).1)⟩
  case assign =>
    rintro l' ⟨f, n, lo, hi⟩ W K hK
    simp only [encP]
    gi_wp2
    simpa using hK
  case body =>
    rintro l' pre ⟨f, n, lo, hi2⟩ W1 ⟨v, h1, h2, h3⟩ hlt
    have hpl : pre.length ≤ 256 := by omega
    have hc1 := h1.cell
    have hf1 := h1.frozen
    have h1s := h3.size
    have hgl := h1.lt
    have H1 := Lib.hid h1
    have h2' : W1.ownsRow w.heap.size 3 1 v pre.length ((pre.map fun p => (p.n : Int)).map (Value.int .i64)) := by
      have := h2
      unfold RowN at this
      rwa [List.length_map] at this
    have H2 := Lib.hid h2'
    have H3 := Lib.hid h3
    clear h1 h2 h2' hlt hseq hbT3 hoT3 hB3 h3
    gi_wp2_with (gi_at_builtin; refine wpListIn_append_own_at _ rfl _ _ 43 rfl w.heap.size 3 i0 (.int .i64 0) 1 8 Try.underlying43 hi hz0 hz1 hz2 rfl (by decide) v _ _ rfl (owns_below H2.out (below_alloc W1 _)) ⟨W1.heap.size, 0, none⟩ 1 1 [.int .i64 (n : Int)] rfl rfl (new_cells1 rfl) (by intro u hu; simp at hu; subst hu; rfl) (by unfold maxLen; omega) (by omega) (by simp; omega) ?_; intro v8 w8 hown8 hgrow8 _ h8; obtain ⟨g8, cap8, rfl⟩ := ownsRow_succ hown8; have hx8 : Boxed w8 w.heap.size 43 v := (hgrow8.block _ (by simp; omega) (fun e => Boxed.not_row H1.out (by decide) H2.out e)).trans (((below_alloc W1 _).block _ hgl).trans H1.out); have hc8 := hx8.cell; have hf8 := hx8.frozen)
    obtain ⟨q1, q2, q3, q4, q5⟩ := row_step (B := w.heap.size) (by decide) H1.out (by omega) h1s (below_alloc W1 _) H2.out hgrow8 h8 hown8
    refine ⟨q2.from _, q3, _, q4, ?_, H3.out.trans q1⟩
    unfold RowN
    rw [List.map_append, List.map_append, List.length_append, List.length_map]
    simpa using q5
  case done =>
    rintro D ys W1 hD rfl ⟨v, h1, h2, h3⟩ hK
    rw [← HNM.out] at h2
    have H2 := Lib.hid h2
    have H3 := Lib.hid h3
    have hc1 := h1.cell
    obtain ⟨A1, n1, c1, hv⟩ : ∃ A1 n1 c1, v = .slice A1 n1 c1 := by
      rcases h2.2 with ⟨rfl, _⟩ | ⟨g', cap, cur, rfl, _⟩
      · exact ⟨_, _, _, rfl⟩
      · exact ⟨_, _, _, rfl⟩
    subst hv
    clear h2 hseq hbT3 hoT3
    go_wp2_with fail
    refine ⟨by simp, .inl ⟨_, _, rfl, run_takeDeferred hK, ?_⟩⟩
    refine ⟨.tuple #[.slice A1 n1 c1, .int .i64 0], by simp [results, Try.results37, go_sem], below_grown (C := W3.heap.size) hB3.size H3.out (grownBy_putObj' W1 D _) (fun r e => by cases e; exact hD), _, _, _, rfl, owns_kept (show World.ownsRow _ _ _ _ _ _ _ from H2.out) (grownBy_putObj' W1 D _) (fun r e => by cases e; exact ⟨_, hK, rfl⟩)⟩
  case stop =>
    rintro D c pre W _ _ h _
    exact h.elim
end Go.Proofs.Ytmkminaipeodnaa.P8
