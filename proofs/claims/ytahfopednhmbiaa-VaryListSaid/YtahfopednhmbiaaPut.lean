/-
  Layer 2: numbers put behind bytes. Conditions: those written at each fact.
-/
import Derived.Test.YtahfopednhmbiaaDig
import Derived.Test.YtahfopednhmbiaaRead
namespace Go.Proofs.Ytahfopednhmbiaa
open Go.RowKit Go.Shelf
attribute [local go_sem] Oper.semAt_some

theorem infoU8 : (Try.prog.info? 5).map (fun i => (i.zero, i.size, i.bytes)) = some (some (.int .u8 0), 1, 1) := by kernel_rfl
theorem sizeU8 : (Try.prog.info? 5).map (·.size) = some 1 := by kernel_rfl

/-- What a function hands back that makes bytes of its own. -/
def MadeB (w : World) (l : List Int) (e : Ending) (w' : World) : Prop :=
  ∃ v, e = .returned v ∧ Below w.heap.size w w' ∧ w'.ownsRow w.heap.size 5 1 v l.length (l.map (Value.int .u8))

/-- The bytes of numbers, one behind the other. -/
def bytesOf (f : Int → Nat) (ms : List Int) : List Int := ms.flatMap (fun z => digs (f z))
theorem bytesOf_len {f : Int → Nat} : ∀ {ms : List Int}, (∀ z ∈ ms, f z < 18446744073709551616) → (bytesOf f ms).length ≤ 10 * ms.length
  | [], _ => by simp [bytesOf]
  | z :: ms, h => by
    have h1 := (digs_ten (h z (List.mem_cons_self ..))).2
    have h2 := bytesOf_len (f := f) (ms := ms) (fun y hy => h y (List.mem_cons_of_mem _ hy))
    simp only [bytesOf, List.flatMap_cons, List.length_append, List.length_cons] at h2 ⊢
    omega
theorem bytesOf_snoc {f : Int → Nat} {ms : List Int} {k : Nat} {z : Int} (h : ms[k]? = some z) : bytesOf f (ms.take (k + 1)) = bytesOf f (ms.take k) ++ digs (f z) := by
  obtain ⟨hk, e⟩ := List.getElem?_eq_some_iff.1 h
  rw [List.take_succ_eq_append_getElem hk, e]
  simp [bytesOf]

/-- The box of a slice, and what the slice owns, speak of cells alone. -/
theorem collects_own (w : World) (C B : Nat) (hC : w.heap.size ≤ C) (f : List Int → List Int) : OwnFrom C (fun pre W => (∃ v, Boxed W B 22 v ∧ W.ownsRow w.heap.size 5 1 v (f pre).length ((f pre).map (Value.int .u8)) ∧ True) ∧ Below w.heap.size w W) :=
  OwnFrom.and (Own.from (holdsRow_own w.heap.size B 22 5 1 (fun pre => (f pre).length) (fun pre => (f pre).map (Value.int .u8)) (fun _ _ => True)) _) (ownFrom_below (Nat.le_refl _) hC)

set_option maxHeartbeats 400000 in
theorem asItIs_any (z : Int) (y : Nat) (hy : z.toNat = y) (h0 : 0 ≤ z) (h1 : z < 18446744073709551616) (w : World) : Calls Try.prog 33 #[.int .u64 z] w (fun e w' => e = .returned (.int .u64 y) ∧ w = w') := by
  obtain rfl : z = (y : Int) := by omega
  clear hy h0 h1
  go_enter Try.func33, Try.ntmps33
  go_wp2
  go_ret
  exact ⟨rfl, rfl⟩

set_option maxRecDepth 100000 in
set_option maxHeartbeats 4000000 in
theorem putU_core (l : List Int) (hl : l.length ≤ 100000) (ms : List Int) (hm : ms.length ≤ 1000) (hr : ∀ z ∈ ms, 0 ≤ z ∧ z < 18446744073709551616) (v v2 : Value) (w : World) (h : Reads .u8 w v l) (h2 : Reads .u64 w v2 ms) :
    Calls Try.prog 34 #[v, .func (.func 33) #[] #[], v2] w (MadeB w (l ++ bytesOf Int.toNat ms)) := by
  obtain ⟨i0, hi, hz0, hz1, hz2⟩ := info_parts infoU8
  obtain ⟨A, c, rfl, hc, hk⟩ := h
  obtain ⟨A2, c2, rfl, hc2, hk2⟩ := h2
  have HK := Lib.hid hk
  have HK2 := Lib.hid hk2
  have HR := Lib.hid hr
  clear hk hk2 hr
  have hmk : ∀ W : World, (Instr.makeSlice 22 (.int .i64 l.length) (.int .i64 (l.length + ms.length))).run Try.prog W = .ok (.slice (some ⟨W.heap.size, 0, none⟩) l.length (l.length + ms.length)) (W.alloc (.cells (madeCells #[.int .u8 0] (l.length + ms.length)) 5)) := by
    intro W
    have := run_make (P := Try.prog) W 22 5 i0 (.int .u8 0) Try.underlying22 hi hz0 .i64 .i64 l.length (l.length + ms.length) (by omega) (by omega) (by rw [hz2]; omega) (by omega)
    rw [hz1, show ((l.length : Int) + (ms.length : Int)).toNat = l.length + ms.length from by omega] at this
    simpa [Value.cells] using this
  refine calls_marks Try.func34 rfl ?_
  simp only [Try.ntmps34, List.size_toArray, List.length_cons, List.length_nil, Nat.reduceAdd, Nat.reduceSub, Array.replicate_succ, Array.replicate_zero, List.push_toArray, List.append_toArray, List.nil_append, List.cons_append]
  go_wp2_with fail
  obtain ⟨W0, hW0⟩ : ∃ W0, W0 = ((w.alloc (.cells (madeCells #[.int .u8 0] (l.length + ms.length)) 5)).alloc (.cells #[.slice (some ⟨w.heap.size, 0, none⟩) l.length (l.length + ms.length)] 22)) := ⟨_, rfl⟩
  rw [← hW0]
  have bO : Boxed W0 (w.heap.size + 1) 22 (.slice (some ⟨w.heap.size, 0, none⟩) l.length (l.length + ms.length)) := by
    rw [hW0]; have := Boxed.new (w.alloc (.cells (madeCells #[.int .u8 0] (l.length + ms.length)) 5)) 22 (.slice (some ⟨w.heap.size, 0, none⟩) l.length (l.length + ms.length)); rwa [World.size_alloc] at this
  have hg0 : W0.heap[w.heap.size]? = some (.cells (madeCells #[.int .u8 0] (l.length + ms.length)) 5 (0, 0)) := by
    rw [hW0]; exact (Below.heap_alloc _ _ _ (by simp)).trans (World.alloc_heap_new w _)
  have hB0 : Below w.heap.size w W0 := by rw [hW0]; exact ((Below.refl _ w).alloc (Nat.le_refl _) _).alloc (by simp) _
  have hs0 : W0.heap.size = w.heap.size + 2 := by rw [hW0]; simp
  obtain ⟨w1, hrun, hgr, hown⟩ := run_copy_made (P := Try.prog) (k := .u8) 22 22 3 5 Try.underlying22 sizeU8 w.heap.size (l.length + ms.length) l _
    (Reads.below ⟨A, c, rfl, hc, HK.out⟩ hB0) _ hg0 (size_madeCells _ _) (by omega) (by unfold maxLen; omega) w.heap.size (Nat.le_refl _)
  rw [hrun]
  have bO1 : Boxed w1 (w.heap.size + 1) 22 (.slice (some ⟨w.heap.size, 0, none⟩) l.length (l.length + ms.length)) := bO.kept hgr (by simp)
  have hB1 : Below w.heap.size w w1 := hB0.grown hgr hB0.size (fun k e => by cases e; exact Nat.le_refl _)
  clear hmk hW0 hrun hgr bO hg0 hs0 hB0
  go_wp2_with fail
  refine wp_loop (fun a' w' => ∃ (k : Nat) (ds : List Deferred) (u9 u25 u26 u27 u28 u29 u30 u31 u37 : Value), k ≤ ms.length ∧ Marks w.heap.size ds w' ∧
      (∃ v', Boxed w' (w.heap.size + 1) 22 v' ∧ w'.ownsRow w.heap.size 5 1 v' (l ++ bytesOf Int.toNat (ms.take k)).length ((l ++ bytesOf Int.toNat (ms.take k)).map (Value.int .u8)) ∧ True) ∧ Below w.heap.size w w' ∧
      a' = { tmps := #[Value.slice A l.length c, Value.func (Fn.func 33) #[] #[], Value.slice A2 ms.length c2, undef, undef, undef,
          Value.slice none 0 0, Value.pointer (some ⟨w.heap.size + 1, 0, none⟩), undef, u9, undef,
          Value.slice A l.length c, Value.int .i64 l.length, Value.slice A l.length c,
          Value.int .i64 l.length, Value.slice A2 ms.length c2, Value.int .i64 ms.length,
          Value.int .i64 (l.length + ms.length),
          Value.slice (some ⟨w.heap.size, 0, none⟩) l.length (l.length + ms.length),
          Value.slice (some ⟨w.heap.size, 0, none⟩) l.length (l.length + ms.length),
          Value.slice A l.length c, .int .i64 l.length, Value.slice A2 ms.length c2, .int .i64 ms.length, .int .i64 k, u25, u26, u27, u28, u29, u30, u31, undef,
          undef, undef, undef, undef, u37, undef], defers := ds })
    (fun a' _ => ms.length - (intOf (a'.tmps.getD 24 undef)).toNat) ?start ?round
  case start =>
    refine ⟨0, [], undef, undef, undef, undef, undef, undef, undef, undef, undef, by omega, trivial, ⟨_, bO1, by simpa [bytesOf] using hown, trivial⟩, hB1, rfl⟩
  case round =>
    rintro a' wr ⟨k, ds, u9, u25, u26, u27, u28, u29, u30, u31, u37, hk, hM, ⟨v', hv, hrow, _⟩, hB, rfl⟩
    clear bO1 hown hB1
    have hf64 : ∀ z ∈ ms, Int.toNat z < 18446744073709551616 := fun z hz => by have := HR.out z hz; exact by omega
    have hbl : (bytesOf Int.toNat (ms.take k)).length ≤ 10 * 1000 := by
      have := bytesOf_len (f := Int.toNat) (ms := ms.take k) (fun z hz => hf64 z (List.mem_of_mem_take hz))
      have hl2 : (ms.take k).length ≤ 1000 := by simp; omega
      omega
    by_cases g : k < ms.length
    · obtain ⟨z, hz⟩ : ∃ z, ms[k]? = some z := ⟨_, List.getElem?_eq_getElem g⟩
      obtain ⟨b, off, rfl, hbw, hcell⟩ := HK2.out k z hz
      have hc1 := (hB.cell (p := ⟨b, off + k, none⟩) hbw).trans hcell
      have hzr := HR.out z (List.mem_of_getElem? hz)
      obtain ⟨y, hy⟩ : ∃ y, Int.toNat z = y := ⟨_, rfl⟩
      have hy64 : y < 18446744073709551616 := by rw [← hy]; exact hf64 z (List.mem_of_getElem? hz)
      have hsn := bytesOf_snoc (f := Int.toNat) hz
      rw [hy] at hsn
      have HS := Lib.hid hsn
      have HY := Lib.hid hy
      have hd10 := digs_ten hy64
      clear hcell hz hsn hy hf64
      generalize bytesOf Int.toNat (ms.take k) = K at *
      go_wp2_with (first | (go_at_call 33; refine (asItIs_any z y HY.out hzr.1 hzr.2 _).mono ?_; rintro e w' ⟨rfl, rfl⟩) | (go_at_call 38; refine (digits_any y _).mono ?_; rintro e w' ⟨rfl, rfl⟩))
      have bN := Boxed.new wr 23 (.int .u64 y)
      have hB2 : Below w.heap.size w (wr.alloc (.cells #[.int .u64 y] 23)) := hB.alloc hB.size _
      have hM2 : Marks w.heap.size ds (wr.alloc (.cells #[.int .u64 y] 23)) := hM.kept (fun D o hD _ => (Below.heap_alloc _ _ _ (Array.getElem?_eq_some_iff.1 hD).1).trans hD)
      have hsz := hB2.size
      refine wp_range (n₀ := w.heap.size) (gf := 46) (lb := #[.pointer (some ⟨wr.heap.size, 0, none⟩)]) rfl (enters_of Try.func46 (by kernel_rfl) rfl)
        (digits1_stops y hy64 wr.heap.size w.heap.size _ (by simp) bN.cell) hsz (fun _ => rfl)
        (fun pre W => ((∃ v', Boxed W (w.heap.size + 1) 22 v' ∧ W.ownsRow w.heap.size 5 1 v' (l ++ K ++ pre).length ((l ++ K ++ pre).map (Value.int .u8)) ∧ True) ∧ Below w.heap.size w W) ∧ Marks w.heap.size ds W) (fun _ _ _ => False)
        (OwnFrom.and (collects_own w _ _ hsz (fun pre => l ++ K ++ pre)) (marks_own hM2 (Nat.le_refl _))) (fun _ _ _ _ _ hs _ _ => hs)
        ⟨⟨⟨v', hv.alloc _, by rw [List.append_nil]; exact hrow.alloc _, trivial⟩, hB2⟩, hM2⟩
        (fun d => { tmps := #[Value.slice A l.length c, Value.func (Fn.func 33) #[] #[], Value.slice (some ⟨b, off, none⟩) ms.length c2, undef, undef, undef,
          Value.slice none 0 0, Value.pointer (some ⟨w.heap.size + 1, 0, none⟩), undef, .int .u64 z, .int .u8 d,
          Value.slice A l.length c, Value.int .i64 l.length, Value.slice A l.length c,
          Value.int .i64 l.length, Value.slice (some ⟨b, off, none⟩) ms.length c2, Value.int .i64 ms.length,
          Value.int .i64 (l.length + ms.length),
          Value.slice (some ⟨w.heap.size, 0, none⟩) l.length (l.length + ms.length),
          Value.slice (some ⟨w.heap.size, 0, none⟩) l.length (l.length + ms.length),
          Value.slice A l.length c, .int .i64 l.length, Value.slice (some ⟨b, off, none⟩) ms.length c2, .int .i64 ms.length, .int .i64 k, .bool true, .pointer (some ⟨b, off + k, none⟩), .int .u64 z, Value.func (Fn.func 33) #[] #[], .int .u64 z, .int .u64 y, .func (.func 46) #[] #[.pointer (some ⟨wr.heap.size, 0, none⟩)], .int .u8 d,
          undef, undef, undef, undef, u37, undef], defers := [] }) ?assign ?body ?done ?stop
      case assign =>
        intro l' d W K' hK
        gi_wp2
        simpa using hK
      case body =>
        rintro l' pre d W ⟨⟨⟨v2, hv2, hrow2, _⟩, hBw⟩, hMw⟩ hlt
        have hcc := hv2.cell
        have hpl : (l ++ K ++ pre).length ≤ 200000 := by simp; omega
        generalize hLL : l ++ K ++ pre = LL at *
        have HLL := Lib.hid hLL
        clear hLL hc1
        gi_wp2_with (gi_at_builtin; refine wpListIn_append_own _ rfl _ _ 22 rfl w.heap.size 5 i0 (.int .u8 0) 1 1 Try.underlying22 hi hz0 hz1 hz2 rfl (by decide) _ _ _ rfl (hrow2.alloc _) ⟨W.heap.size, 0, none⟩ 1 1 [.int .u8 d] rfl rfl (cell_one_new _ _ _) (by simp [Value.oneCell']) (by unfold maxLen; omega) (by omega) (by have := hBw.size; simp; omega) ?_; intro v3 w3 hown3 hgrow3 _; obtain ⟨g3, cap3, rfl⟩ := ownsRow_succ hown3; obtain ⟨hv4, hv5, hr5, hk5, hb5⟩ := hv2.appended (by decide) hrow2 hBw.size (by omega) hown3 hgrow3; have hc4 := hv4.cell; have hf4 := hv4.frozen)
        refine ⟨hk5.from _, hb5, ⟨⟨_, hv5, ?_, trivial⟩, hBw.trans hb5⟩, hMw.kept (fun D o hD ho => hk5.same D o hD ho)⟩
        rw [← List.append_assoc, HLL.out]
        simpa using hr5
      case done =>
        rintro D ys W hD rfl ⟨⟨⟨v2, hv2, hrow2, _⟩, hBw⟩, hMw⟩ hKD
        clear hc1
        go_wp2_with fail
        refine ⟨⟨k + 1, _, _, _, _, _, _, _, _, _, _, by omega, hMw.cons hM2 hD (by omega) hKD, ⟨v2, hv2, by rw [HS.out, ← List.append_assoc]; exact hrow2, trivial⟩, hBw, rfl⟩, by simp [intOf]; omega⟩
      case stop =>
        rintro D c pre W _ _ h _
        exact h.elim
    · have hkl : k = ms.length := by omega
      subst hkl
      rw [List.take_of_length_le (Nat.le_refl _)] at hrow
      have hc1 := hv.cell
      have HO := Lib.hid hrow
      clear hrow g hk hbl
      go_wp2_with fail
      refine hM.leaves hB.size (fun w' hb hk => ?_)
      exact ⟨_, results_tmp rfl _ _ _, v', rfl, hB.trans hb, ownsRow_cells HO.out hk⟩

theorem fold_any2 (z : Int) (y : Nat) (hy : Lib.zigzag z = y) (h0 : -9223372036854775808 ≤ z) (h1 : z ≤ 9223372036854775807) (w : World) : Calls Try.prog 36 #[.int .i64 z] w (fun e w' => e = .returned (.int .u64 y) ∧ w = w') := hy ▸ fold_any z h0 h1 w

set_option maxRecDepth 100000 in
set_option maxHeartbeats 4000000 in
theorem put_core (l : List Int) (hl : l.length ≤ 100000) (ms : List Int) (hm : ms.length ≤ 1000) (hr : ∀ z ∈ ms, -9223372036854775808 ≤ z ∧ z ≤ 9223372036854775807) (v v2 : Value) (w : World) (h : Reads .u8 w v l) (h2 : Reads .i64 w v2 ms) :
    Calls Try.prog 35 #[v, .func (.func 36) #[] #[], v2] w (MadeB w (l ++ bytesOf Lib.zigzag ms)) := by
  obtain ⟨i0, hi, hz0, hz1, hz2⟩ := info_parts infoU8
  obtain ⟨A, c, rfl, hc, hk⟩ := h
  obtain ⟨A2, c2, rfl, hc2, hk2⟩ := h2
  have HK := Lib.hid hk
  have HK2 := Lib.hid hk2
  have HR := Lib.hid hr
  clear hk hk2 hr
  have hmk : ∀ W : World, (Instr.makeSlice 22 (.int .i64 l.length) (.int .i64 (l.length + ms.length))).run Try.prog W = .ok (.slice (some ⟨W.heap.size, 0, none⟩) l.length (l.length + ms.length)) (W.alloc (.cells (madeCells #[.int .u8 0] (l.length + ms.length)) 5)) := by
    intro W
    have := run_make (P := Try.prog) W 22 5 i0 (.int .u8 0) Try.underlying22 hi hz0 .i64 .i64 l.length (l.length + ms.length) (by omega) (by omega) (by rw [hz2]; omega) (by omega)
    rw [hz1, show ((l.length : Int) + (ms.length : Int)).toNat = l.length + ms.length from by omega] at this
    simpa [Value.cells] using this
  refine calls_marks Try.func35 rfl ?_
  simp only [Try.ntmps35, List.size_toArray, List.length_cons, List.length_nil, Nat.reduceAdd, Nat.reduceSub, Array.replicate_succ, Array.replicate_zero, List.push_toArray, List.append_toArray, List.nil_append, List.cons_append]
  go_wp2_with fail
  obtain ⟨W0, hW0⟩ : ∃ W0, W0 = ((w.alloc (.cells (madeCells #[.int .u8 0] (l.length + ms.length)) 5)).alloc (.cells #[.slice (some ⟨w.heap.size, 0, none⟩) l.length (l.length + ms.length)] 22)) := ⟨_, rfl⟩
  rw [← hW0]
  have bO : Boxed W0 (w.heap.size + 1) 22 (.slice (some ⟨w.heap.size, 0, none⟩) l.length (l.length + ms.length)) := by
    rw [hW0]; have := Boxed.new (w.alloc (.cells (madeCells #[.int .u8 0] (l.length + ms.length)) 5)) 22 (.slice (some ⟨w.heap.size, 0, none⟩) l.length (l.length + ms.length)); rwa [World.size_alloc] at this
  have hg0 : W0.heap[w.heap.size]? = some (.cells (madeCells #[.int .u8 0] (l.length + ms.length)) 5 (0, 0)) := by
    rw [hW0]; exact (Below.heap_alloc _ _ _ (by simp)).trans (World.alloc_heap_new w _)
  have hB0 : Below w.heap.size w W0 := by rw [hW0]; exact ((Below.refl _ w).alloc (Nat.le_refl _) _).alloc (by simp) _
  have hs0 : W0.heap.size = w.heap.size + 2 := by rw [hW0]; simp
  obtain ⟨w1, hrun, hgr, hown⟩ := run_copy_made (P := Try.prog) (k := .u8) 22 22 3 5 Try.underlying22 sizeU8 w.heap.size (l.length + ms.length) l _
    (Reads.below ⟨A, c, rfl, hc, HK.out⟩ hB0) _ hg0 (size_madeCells _ _) (by omega) (by unfold maxLen; omega) w.heap.size (Nat.le_refl _)
  rw [hrun]
  have bO1 : Boxed w1 (w.heap.size + 1) 22 (.slice (some ⟨w.heap.size, 0, none⟩) l.length (l.length + ms.length)) := bO.kept hgr (by simp)
  have hB1 : Below w.heap.size w w1 := hB0.grown hgr hB0.size (fun k e => by cases e; exact Nat.le_refl _)
  clear hmk hW0 hrun hgr bO hg0 hs0 hB0
  go_wp2_with fail
  refine wp_loop (fun a' w' => ∃ (k : Nat) (ds : List Deferred) (u9 u25 u26 u27 u28 u29 u30 u31 u37 : Value), k ≤ ms.length ∧ Marks w.heap.size ds w' ∧
      (∃ v', Boxed w' (w.heap.size + 1) 22 v' ∧ w'.ownsRow w.heap.size 5 1 v' (l ++ bytesOf Lib.zigzag (ms.take k)).length ((l ++ bytesOf Lib.zigzag (ms.take k)).map (Value.int .u8)) ∧ True) ∧ Below w.heap.size w w' ∧
      a' = { tmps := #[Value.slice A l.length c, Value.func (Fn.func 36) #[] #[], Value.slice A2 ms.length c2, undef, undef, undef,
          Value.slice none 0 0, Value.pointer (some ⟨w.heap.size + 1, 0, none⟩), undef, u9, undef,
          Value.slice A l.length c, Value.int .i64 l.length, Value.slice A l.length c,
          Value.int .i64 l.length, Value.slice A2 ms.length c2, Value.int .i64 ms.length,
          Value.int .i64 (l.length + ms.length),
          Value.slice (some ⟨w.heap.size, 0, none⟩) l.length (l.length + ms.length),
          Value.slice (some ⟨w.heap.size, 0, none⟩) l.length (l.length + ms.length),
          Value.slice A l.length c, .int .i64 l.length, Value.slice A2 ms.length c2, .int .i64 ms.length, .int .i64 k, u25, u26, u27, u28, u29, u30, u31, undef,
          undef, undef, undef, undef, u37, undef], defers := ds })
    (fun a' _ => ms.length - (intOf (a'.tmps.getD 24 undef)).toNat) ?start ?round
  case start =>
    refine ⟨0, [], undef, undef, undef, undef, undef, undef, undef, undef, undef, by omega, trivial, ⟨_, bO1, by simpa [bytesOf] using hown, trivial⟩, hB1, rfl⟩
  case round =>
    rintro a' wr ⟨k, ds, u9, u25, u26, u27, u28, u29, u30, u31, u37, hk, hM, ⟨v', hv, hrow, _⟩, hB, rfl⟩
    clear bO1 hown hB1
    have hf64 : ∀ z ∈ ms, Lib.zigzag z < 18446744073709551616 := fun z hz => by have := HR.out z hz; exact Lib.zigzag_lt this.1 this.2
    have hbl : (bytesOf Lib.zigzag (ms.take k)).length ≤ 10 * 1000 := by
      have := bytesOf_len (f := Lib.zigzag) (ms := ms.take k) (fun z hz => hf64 z (List.mem_of_mem_take hz))
      have hl2 : (ms.take k).length ≤ 1000 := by simp; omega
      omega
    by_cases g : k < ms.length
    · obtain ⟨z, hz⟩ : ∃ z, ms[k]? = some z := ⟨_, List.getElem?_eq_getElem g⟩
      obtain ⟨b, off, rfl, hbw, hcell⟩ := HK2.out k z hz
      have hc1 := (hB.cell (p := ⟨b, off + k, none⟩) hbw).trans hcell
      have hzr := HR.out z (List.mem_of_getElem? hz)
      obtain ⟨y, hy⟩ : ∃ y, Lib.zigzag z = y := ⟨_, rfl⟩
      have hy64 : y < 18446744073709551616 := by rw [← hy]; exact hf64 z (List.mem_of_getElem? hz)
      have hsn := bytesOf_snoc (f := Lib.zigzag) hz
      rw [hy] at hsn
      have HS := Lib.hid hsn
      have HY := Lib.hid hy
      have hd10 := digs_ten hy64
      clear hcell hz hsn hy hf64
      generalize bytesOf Lib.zigzag (ms.take k) = K at *
      go_wp2_with (first | (go_at_call 36; refine (fold_any2 z y HY.out hzr.1 hzr.2 _).mono ?_; rintro e w' ⟨rfl, rfl⟩) | (go_at_call 38; refine (digits_any y _).mono ?_; rintro e w' ⟨rfl, rfl⟩))
      have bN := Boxed.new wr 23 (.int .u64 y)
      have hB2 : Below w.heap.size w (wr.alloc (.cells #[.int .u64 y] 23)) := hB.alloc hB.size _
      have hM2 : Marks w.heap.size ds (wr.alloc (.cells #[.int .u64 y] 23)) := hM.kept (fun D o hD _ => (Below.heap_alloc _ _ _ (Array.getElem?_eq_some_iff.1 hD).1).trans hD)
      have hsz := hB2.size
      refine wp_range (n₀ := w.heap.size) (gf := 46) (lb := #[.pointer (some ⟨wr.heap.size, 0, none⟩)]) rfl (enters_of Try.func46 (by kernel_rfl) rfl)
        (digits1_stops y hy64 wr.heap.size w.heap.size _ (by simp) bN.cell) hsz (fun _ => rfl)
        (fun pre W => ((∃ v', Boxed W (w.heap.size + 1) 22 v' ∧ W.ownsRow w.heap.size 5 1 v' (l ++ K ++ pre).length ((l ++ K ++ pre).map (Value.int .u8)) ∧ True) ∧ Below w.heap.size w W) ∧ Marks w.heap.size ds W) (fun _ _ _ => False)
        (OwnFrom.and (collects_own w _ _ hsz (fun pre => l ++ K ++ pre)) (marks_own hM2 (Nat.le_refl _))) (fun _ _ _ _ _ hs _ _ => hs)
        ⟨⟨⟨v', hv.alloc _, by rw [List.append_nil]; exact hrow.alloc _, trivial⟩, hB2⟩, hM2⟩
        (fun d => { tmps := #[Value.slice A l.length c, Value.func (Fn.func 36) #[] #[], Value.slice (some ⟨b, off, none⟩) ms.length c2, undef, undef, undef,
          Value.slice none 0 0, Value.pointer (some ⟨w.heap.size + 1, 0, none⟩), undef, .int .i64 z, .int .u8 d,
          Value.slice A l.length c, Value.int .i64 l.length, Value.slice A l.length c,
          Value.int .i64 l.length, Value.slice (some ⟨b, off, none⟩) ms.length c2, Value.int .i64 ms.length,
          Value.int .i64 (l.length + ms.length),
          Value.slice (some ⟨w.heap.size, 0, none⟩) l.length (l.length + ms.length),
          Value.slice (some ⟨w.heap.size, 0, none⟩) l.length (l.length + ms.length),
          Value.slice A l.length c, .int .i64 l.length, Value.slice (some ⟨b, off, none⟩) ms.length c2, .int .i64 ms.length, .int .i64 k, .bool true, .pointer (some ⟨b, off + k, none⟩), .int .i64 z, Value.func (Fn.func 36) #[] #[], .int .i64 z, .int .u64 y, .func (.func 46) #[] #[.pointer (some ⟨wr.heap.size, 0, none⟩)], .int .u8 d,
          undef, undef, undef, undef, u37, undef], defers := [] }) ?assign ?body ?done ?stop
      case assign =>
        intro l' d W K' hK
        gi_wp2
        simpa using hK
      case body =>
        rintro l' pre d W ⟨⟨⟨v2, hv2, hrow2, _⟩, hBw⟩, hMw⟩ hlt
        have hcc := hv2.cell
        have hpl : (l ++ K ++ pre).length ≤ 200000 := by simp; omega
        generalize hLL : l ++ K ++ pre = LL at *
        have HLL := Lib.hid hLL
        clear hLL hc1
        gi_wp2_with (gi_at_builtin; refine wpListIn_append_own _ rfl _ _ 22 rfl w.heap.size 5 i0 (.int .u8 0) 1 1 Try.underlying22 hi hz0 hz1 hz2 rfl (by decide) _ _ _ rfl (hrow2.alloc _) ⟨W.heap.size, 0, none⟩ 1 1 [.int .u8 d] rfl rfl (cell_one_new _ _ _) (by simp [Value.oneCell']) (by unfold maxLen; omega) (by omega) (by have := hBw.size; simp; omega) ?_; intro v3 w3 hown3 hgrow3 _; obtain ⟨g3, cap3, rfl⟩ := ownsRow_succ hown3; obtain ⟨hv4, hv5, hr5, hk5, hb5⟩ := hv2.appended (by decide) hrow2 hBw.size (by omega) hown3 hgrow3; have hc4 := hv4.cell; have hf4 := hv4.frozen)
        refine ⟨hk5.from _, hb5, ⟨⟨_, hv5, ?_, trivial⟩, hBw.trans hb5⟩, hMw.kept (fun D o hD ho => hk5.same D o hD ho)⟩
        rw [← List.append_assoc, HLL.out]
        simpa using hr5
      case done =>
        rintro D ys W hD rfl ⟨⟨⟨v2, hv2, hrow2, _⟩, hBw⟩, hMw⟩ hKD
        clear hc1
        go_wp2_with fail
        refine ⟨⟨k + 1, _, _, _, _, _, _, _, _, _, _, by omega, hMw.cons hM2 hD (by omega) hKD, ⟨v2, hv2, by rw [HS.out, ← List.append_assoc]; exact hrow2, trivial⟩, hBw, rfl⟩, by simp [intOf]; omega⟩
      case stop =>
        rintro D c pre W _ _ h _
        exact h.elim
    · have hkl : k = ms.length := by omega
      subst hkl
      rw [List.take_of_length_le (Nat.le_refl _)] at hrow
      have hc1 := hv.cell
      have HO := Lib.hid hrow
      clear hrow g hk hbl
      go_wp2_with fail
      refine hM.leaves hB.size (fun w' hb hk => ?_)
      exact ⟨_, results_tmp rfl _ _ _, v', rfl, hB.trans hb, ownsRow_cells HO.out hk⟩
end Go.Proofs.Ytahfopednhmbiaa
