/-
  Layer 7: runs: a time comes to a row that grows. Conditions: those written at each fact.
-/
import Derived.Test.YtlfjmdfplmdmgaaRnH
namespace Go.Proofs.Ytlfjmdfplmdmgaa
open Go.RowKit Go.Shelf

/-- A time comes: the open run goes on, or a new one begins. -/
def takeR (st : Rn × List Rn) (t : Int) : Rn × List Rn :=
  if st.1.c = 0 then (⟨t, st.1.s, 1⟩, st.2) else if st.1.c = 1 then (⟨st.1.f, t - st.1.f, 2⟩, st.2)
  else if t = st.1.f + st.1.c * st.1.s then (⟨st.1.f, st.1.s, st.1.c + 1⟩, st.2) else (⟨t, 0, 1⟩, st.2 ++ [st.1])
/-- A row that grows, with its shut runs in a row of its own. -/
def GrowS (B : Nat) (W : World) (g : Nat) (st : Rn × List Rn) : Prop := ∃ v, GrowAt W g st.1 v ∧ W.ownsRow B 36 3 v st.2.length (flatR st.2)
structure OpenOk (o : Rn) (n : Nat) : Prop where
  c0 : 0 ≤ o.c
  c1 : o.c ≤ n
  f0 : 0 ≤ o.f
  f1 : o.f ≤ 281474976710656
  s0 : -281474976710656 ≤ o.s
  s1 : o.s ≤ 281474976710656
theorem GrowAt.set0 {W : World} {g : Nat} {f s c x : Int} {v : Value} (h : GrowAt W g ⟨f, s, c⟩ v) : GrowAt (W.setCell ⟨g, 0, none⟩ (.int .i64 x)) g ⟨x, s, c⟩ v := by
  have := heap_setCell_same W g 0 _ _ (.int .i64 x) h
  simpa [GrowAt] using this
theorem GrowAt.set1 {W : World} {g : Nat} {f s c x : Int} {v : Value} (h : GrowAt W g ⟨f, s, c⟩ v) : GrowAt (W.setCell ⟨g, 1, none⟩ (.int .i64 x)) g ⟨f, x, c⟩ v := by
  have := heap_setCell_same W g 1 _ _ (.int .i64 x) h
  simpa [GrowAt] using this
theorem GrowAt.set2 {W : World} {g : Nat} {f s c x : Int} {v : Value} (h : GrowAt W g ⟨f, s, c⟩ v) : GrowAt (W.setCell ⟨g, 2, none⟩ (.int .i64 x)) g ⟨f, s, x⟩ v := by
  have := heap_setCell_same W g 2 _ _ (.int .i64 x) h
  simpa [GrowAt] using this
/-- The shut runs' row isn't turned by a store into the block of the open one. -/
theorem owns_off {W : World} {B g i : Nat} {o : Rn} {v v2 : Value} {n : Nat} {xs : List Value} (hG : GrowAt W g o v2) (h : W.ownsRow B 36 3 v n xs) (u : Value) : (W.setCell ⟨g, i, none⟩ u).ownsRow B 36 3 v n xs := by
  refine ⟨h.1, ?_⟩
  rcases h.2 with h2 | ⟨g', cap, cur, e1, e2, e3, e4⟩
  · exact .inl h2
  · refine .inr ⟨g', cap, cur, e1, e2, (Below.heap_setCell W ⟨g, i, none⟩ u g' (fun e => ?_)).trans e3, e4⟩
    replace e : g' = g := e
    subst e
    rw [show W.heap[g']? = _ from hG] at e3
    cases e3
theorem owns_ne {W : World} {B g : Nat} {o : Rn} {v v2 : Value} {n : Nat} {xs : List Value} (hG : GrowAt W g o v2) (h : W.ownsRow B 36 3 v n xs) : v.ownBlock ≠ some g := by
  rcases h.2 with ⟨rfl, _⟩ | ⟨g', cap, cur, rfl, e2, e3, e4⟩
  · simp [Value.ownBlock]
  · intro e
    simp [Value.ownBlock] at e
    have e5 : W.heap[g']? = _ := e ▸ (show W.heap[g]? = _ from hG)
    rw [e5] at e3
    cases e3
theorem owns_form {W : World} {B : Nat} {v : Value} {n : Nat} {xs : List Value} (h : W.ownsRow B 36 3 v n xs) : v.ownBlock ≠ none → ∃ off n c s k, v = .slice (some ⟨k, off, s⟩) n c ∧ v.ownBlock = some k ∧ (∃ cur t f, W.heap[k]? = some (.cells cur t f)) := by
  rcases h.2 with ⟨rfl, _⟩ | ⟨g', cap, cur, rfl, e2, e3, e4⟩
  · intro e; simp [Value.ownBlock] at e
  · intro _; exact ⟨0, _, _, none, g', rfl, rfl, _, _, _, e3⟩
theorem own_block {v : Value} (k off : Nat) (s : Option _) (n c : Nat) (h : v = .slice (some ⟨k, off, s⟩) n c) : v.ownBlock = some k := by subst h; rfl

theorem OpenOk.next {st : Rn × List Rn} {n : Nat} (h : OpenOk st.1 n) (hs : st.2.length ≤ n) {t : Int} (ht : 0 ≤ t ∧ t ≤ 281474976710656) : OpenOk (takeR st t).1 (n + 1) ∧ (takeR st t).2.length ≤ n + 1 := by
  obtain ⟨⟨f, s, c⟩, sh⟩ := st
  obtain ⟨a1, a2, a3, a4, a5, a6⟩ := h
  simp only at a1 a2 a3 a4 a5 a6 hs
  unfold takeR
  simp only
  split
  · exact ⟨⟨by simp only; omega, by simp only; omega, ht.1, ht.2, a5, a6⟩, by simp only; omega⟩
  · split
    · exact ⟨⟨by simp only; omega, by simp only; omega, a3, a4, by simp only; omega, by simp only; omega⟩, by simp only; omega⟩
    · split
      · exact ⟨⟨by simp only; omega, by simp only; omega, a3, a4, a5, a6⟩, by simp only; omega⟩
      · exact ⟨⟨by simp only; omega, by simp only; omega, ht.1, ht.2, by simp only; omega, by simp only; omega⟩, by simp only [List.length_append, List.length_singleton]; omega⟩
theorem owns_lt' {W : World} {B : Nat} {v : Value} {n : Nat} {xs : List Value} (h : W.ownsRow B 36 3 v n xs) : ∀ k, v.ownBlock = some k → B ≤ k ∧ k < W.heap.size := h.lt
set_option maxRecDepth 100000 in
set_option maxHeartbeats 2000000 in
theorem take_any (w0 : World) (g : Nat) (st : Rn × List Rn) (n : Nat) (hn : n ≤ 900) (hok : OpenOk st.1 n) (hsl : st.2.length ≤ n) (t : Int) (ht0 : 0 ≤ t) (ht1 : t ≤ 281474976710656) (W : World) (hG0 : GrowS w0.heap.size W g st) (hw0 : Below w0.heap.size w0 W) (hBg : w0.heap.size ≤ g) :
    Calls Try.prog 70 #[.pointer (some ⟨g, 0, none⟩), .int .i64 t] W (fun e w' => e = .returned (.tuple #[]) ∧ Took w0.heap.size g W w' ∧ GrowS w0.heap.size w' g (takeR st t)) := by
  obtain ⟨⟨f, s, c⟩, sh⟩ := st
  obtain ⟨v, hG, hO⟩ := hG0
  obtain ⟨p1, p2, p3, p4, p5, p6⟩ := hok
  simp only at p1 p2 p3 p4 p5 p6 hG hO hsl
  have p7 : c ≤ 900 := by omega
  have p8 : sh.length ≤ 900 := by omega
  clear hsl p2
  have p2 := p7
  obtain ⟨c0, c1, c2, c3, cf⟩ := hG.cells
  simp only at c0 c1 c2
  have hgl := hG.lt
  have HO := Lib.hid hO
  have HG := Lib.hid hG
  have HB := Lib.hid hBg
  clear hO hG
  by_cases g0 : c = 0
  · subst g0
    have E : takeR (⟨f, s, 0⟩, sh) t = (⟨t, s, 1⟩, sh) := by simp [takeR]
    rw [E]
    clear E
    go_enter Try.func70, Try.ntmps70
    go_wp2_with fail
    go_end0
    exact ⟨rfl, (Took.set HG.out HB.out (by decide) _).trans (Took.set HG.out.set0 HB.out (by decide) _), v, HG.out.set0.set2, owns_off HG.out.set0 (owns_off HG.out HO.out _) _⟩
  have h0 : (c == 0) = false := beq_eq_false_iff_ne.2 g0
  by_cases g1 : c = 1
  · subst g1
    have E : takeR (⟨f, s, 1⟩, sh) t = (⟨f, t - f, 2⟩, sh) := by simp [takeR]
    rw [E]
    clear E
    go_enter Try.func70, Try.ntmps70
    go_wp2_with fail
    go_end0
    exact ⟨rfl, (Took.set HG.out HB.out (by decide) _).trans (Took.set HG.out.set1 HB.out (by decide) _), v, HG.out.set1.set2, owns_off HG.out.set1 (owns_off HG.out HO.out _) _⟩
  have h1 : (c == 1) = false := beq_eq_false_iff_ne.2 g1
  have NT := Lib.hid (nth_at f s c c p1 (by omega) p5 p6 p3 p4)
  by_cases gx : t = f + c * s
  · have E : takeR (⟨f, s, c⟩, sh) t = (⟨f, s, c + 1⟩, sh) := by
      simp only [takeR, if_neg g0, if_neg g1, if_pos gx]
    rw [E]
    clear E
    rw [← gx] at NT
    clear gx
    go_enter Try.func70, Try.ntmps70
    go_wp2_with fail
    refine region_keeps (w0 := W) (L := [(g, 0, .int .i64 f), (g, 1, .int .i64 s), (g, 2, .int .i64 c)]) (by kernel_rfl) ⟨Below.refl _ _, ⟨hgl, c0, cf 0⟩, ⟨hgl, c1, cf 1⟩, ⟨hgl, c2, cf 2⟩, trivial⟩ (fun hHeld0 => ?_)
    refine wpAnyH_take (i := 0) (oi := ⟨some 61, _, _, _, _, _⟩) (v := ?_) rfl (by kernel_rfl) (by kernel_rfl) (by kernel_rfl) (fun _ _ _ h => h) (Or.inl ⟨by rfl, ?_⟩) (by assumption) ?_
    rotate_left
    · intro wq hSw; go_simp; (try with_reducible rfl)
    try simp only [Act.put, List.setIfInBounds_toArray, List.set_cons_zero, List.set_cons_succ]
    refine wpAnyH_take (i := 1) (oi := ⟨some 62, _, _, _, _, _⟩) (v := ?_) rfl (by kernel_rfl) (by kernel_rfl) (by kernel_rfl) (fun _ _ _ h => h) (Or.inl ⟨by rfl, ?_⟩) (by assumption) ?_
    rotate_left
    · intro wq hSw; go_simp; (try with_reducible rfl)
    try simp only [Act.put, List.setIfInBounds_toArray, List.set_cons_zero, List.set_cons_succ]
    refine wpAnyH_take (i := 2) (oi := ⟨some 63, _, _, _, _, _⟩) (v := ?_) rfl (by kernel_rfl) (by kernel_rfl) (by kernel_rfl) (fun _ _ _ h => h) (Or.inl ⟨by rfl, ?_⟩) (by assumption) ?_
    rotate_left
    · intro wq hSw; go_simp; (try with_reducible rfl)
    try simp only [Act.put, List.setIfInBounds_toArray, List.set_cons_zero, List.set_cons_succ]
    refine wpAnyH_take (i := 3) (oi := ⟨some 64, _, _, _, _, _⟩) (v := ?_) rfl (by kernel_rfl) (by kernel_rfl) (by kernel_rfl) (fun _ _ _ h => h) (Or.inl ⟨by rfl, ?_⟩) (by assumption) ?_
    rotate_left
    · intro wq hSw; go_simp; (try with_reducible rfl)
    try simp only [Act.put, List.setIfInBounds_toArray, List.set_cons_zero, List.set_cons_succ]
    refine wpAnyH_take (i := 4) (oi := ⟨some 65, _, _, _, _, _⟩) (v := ?_) rfl (by kernel_rfl) (by kernel_rfl) (by kernel_rfl) (fun _ _ _ h => h) (Or.inl ⟨by rfl, ?_⟩) (by assumption) ?_
    rotate_left
    · intro wq hSw; obtain ⟨⟨qz0, qc0, qf0⟩, ⟨qz1, qc1, qf1⟩, ⟨qz2, qc2, qf2⟩, _⟩ := hSw.2; go_simp; (try with_reducible rfl)
    try simp only [Act.put, List.setIfInBounds_toArray, List.set_cons_zero, List.set_cons_succ]
    refine wpAnyH_take (i := 5) (oi := ⟨some 66, _, _, _, _, _⟩) (v := ?_) rfl (by kernel_rfl) (by kernel_rfl) (by kernel_rfl) (fun _ _ _ h => h) (Or.inl ⟨by rfl, ?_⟩) (by assumption) ?_
    rotate_left
    · intro wq hSw; go_simp; (try with_reducible rfl)
    try simp only [Act.put, List.setIfInBounds_toArray, List.set_cons_zero, List.set_cons_succ]
    refine wpAnyH_take (i := 6) (oi := ⟨some 67, _, _, _, _, _⟩) (v := ?_) rfl (by kernel_rfl) (by kernel_rfl) (by kernel_rfl) (fun _ _ _ h => h) (Or.inl ⟨by rfl, ?_⟩) (by assumption) ?_
    rotate_left
    · intro wq hSw; go_simp; (try with_reducible rfl)
    try simp only [Act.put, List.setIfInBounds_toArray, List.set_cons_zero, List.set_cons_succ]
    refine wpAnyH_take (i := 7) (oi := ⟨some 68, _, _, _, _, _⟩) (v := ?_) rfl (by kernel_rfl) (by kernel_rfl) (by kernel_rfl) (fun _ _ _ h => h) (Or.inl ⟨by rfl, ?_⟩) (by assumption) ?_
    rotate_left
    · intro wq hSw; go_simp; (try with_reducible rfl)
    try simp only [Act.put, List.setIfInBounds_toArray, List.set_cons_zero, List.set_cons_succ]
    refine wpAnyH_take (i := 8) (oi := ⟨some 69, _, _, _, _, _⟩) (v := ?_) rfl (by kernel_rfl) (by kernel_rfl) (by kernel_rfl) (fun _ _ _ h => h) (Or.inl ⟨by rfl, ?_⟩) (by assumption) ?_
    rotate_left
    · intro wq hSw; go_simp; (try with_reducible rfl)
    try simp only [Act.put, List.setIfInBounds_toArray, List.set_cons_zero, List.set_cons_succ]
    refine wpAnyH_take (i := 9) (oi := ⟨some 70, _, _, _, _, _⟩) (v := ?_) rfl (by kernel_rfl) (by kernel_rfl) (by kernel_rfl) (fun _ _ _ h => h) (Or.inl ⟨by rfl, ?_⟩) (by assumption) ?_
    rotate_left
    · intro wq hSw; obtain ⟨⟨qz0, qc0, qf0⟩, ⟨qz1, qc1, qf1⟩, ⟨qz2, qc2, qf2⟩, _⟩ := hSw.2; go_simp; (try with_reducible rfl)
    try simp only [Act.put, List.setIfInBounds_toArray, List.set_cons_zero, List.set_cons_succ]
    refine wpAnyH_ready (rs := [10]) (by kernel_rfl) (by simp) ?_
    refine AllReadyH.cons (o := ⟨some 71, _, _, _, _, _⟩) rfl (fun K hK => ?_) AllReadyH.nil
    go_simp
    ((with_reducible refine (NT.out _).mono ?_); rintro e w5 ⟨rfl, hb⟩)
    refine hK.out _ _ (hHeld0.next hb) (fun hHeld1 => ?_)
    clear hK K
    try clear hb
    try simp only [Act.put, List.setIfInBounds_toArray, List.set_cons_zero, List.set_cons_succ]
    refine wpAnyH_take (i := 11) (oi := ⟨some 72, _, _, _, _, _⟩) (v := ?_) rfl (by kernel_rfl) (by kernel_rfl) (by kernel_rfl) (fun _ _ _ h => h) (Or.inl ⟨by rfl, ?_⟩) (by assumption) ?_
    rotate_left
    · intro wq hSw; go_simp; (try with_reducible rfl)
    try simp only [Act.put, List.setIfInBounds_toArray, List.set_cons_zero, List.set_cons_succ]
    refine wpAnyH_take (i := 12) (oi := ⟨some 60, _, _, _, _, _⟩) (v := ?_) rfl (by kernel_rfl) (by kernel_rfl) (by kernel_rfl) (fun _ _ _ h => h) (Or.inl ⟨by rfl, ?_⟩) (by assumption) ?_
    rotate_left
    · intro wq hSw; go_simp; (try with_reducible rfl)
    try simp only [Act.put, List.setIfInBounds_toArray, List.set_cons_zero, List.set_cons_succ]
    refine wpAnyH_done (by kernel_rfl) ?_ _
    have hHeld := hHeld1
    obtain ⟨⟨kz0, kc0, kf0⟩, ⟨kz1, kc1, kf1⟩, ⟨kz2, kc2, kf2⟩, _⟩ := hHeld.2
    all_goals
      have HG5 := Lib.hid (show GrowAt w5 g ⟨f, s, c⟩ v from (hHeld.1.block g hgl).trans HG.out)
      have hT5 := Took.of_below (B := w0.heap.size) hgl (Nat.le_trans HB.out (Nat.le_of_lt hgl)) hHeld.1
      have HO5 := Lib.hid (owns_below HO.out hHeld.1)
      clear hHeld hHeld0 hHeld1
      go_wp2_with fail
      go_end0
      exact ⟨rfl, hT5.trans (Took.set HG5.out HB.out (by decide) _), v, GrowAt.set2 HG5.out, owns_off HG5.out HO5.out _⟩
  · have E : takeR (⟨f, s, c⟩, sh) t = (⟨t, 0, 1⟩, sh ++ [⟨f, s, c⟩]) := by
      simp only [takeR, if_neg g0, if_neg g1, if_neg gx]
    rw [E]
    clear E
    generalize f + c * s = x at NT gx
    have hx : (t == x) = false := beq_eq_false_iff_ne.2 gx
    obtain ⟨i0, hi, hz0, hz1, hz2⟩ := info_parts infoRun
    have HGX := Lib.hid gx
    clear gx
    go_enter Try.func70, Try.ntmps70
    go_wp2_with fail
    have hx : (t == x) = false := beq_eq_false_iff_ne.2 HGX.out
    refine region_keeps (w0 := W) (L := [(g, 0, .int .i64 f), (g, 1, .int .i64 s), (g, 2, .int .i64 c)]) (by kernel_rfl) ⟨Below.refl _ _, ⟨hgl, c0, cf 0⟩, ⟨hgl, c1, cf 1⟩, ⟨hgl, c2, cf 2⟩, trivial⟩ (fun hHeld0 => ?_)
    refine wpAnyH_take (i := 0) (oi := ⟨some 61, _, _, _, _, _⟩) (v := ?_) rfl (by kernel_rfl) (by kernel_rfl) (by kernel_rfl) (fun _ _ _ h => h) (Or.inl ⟨by rfl, ?_⟩) (by assumption) ?_
    rotate_left
    · intro wq hSw; go_simp; (try with_reducible rfl)
    try simp only [Act.put, List.setIfInBounds_toArray, List.set_cons_zero, List.set_cons_succ]
    refine wpAnyH_take (i := 1) (oi := ⟨some 62, _, _, _, _, _⟩) (v := ?_) rfl (by kernel_rfl) (by kernel_rfl) (by kernel_rfl) (fun _ _ _ h => h) (Or.inl ⟨by rfl, ?_⟩) (by assumption) ?_
    rotate_left
    · intro wq hSw; go_simp; (try with_reducible rfl)
    try simp only [Act.put, List.setIfInBounds_toArray, List.set_cons_zero, List.set_cons_succ]
    refine wpAnyH_take (i := 2) (oi := ⟨some 63, _, _, _, _, _⟩) (v := ?_) rfl (by kernel_rfl) (by kernel_rfl) (by kernel_rfl) (fun _ _ _ h => h) (Or.inl ⟨by rfl, ?_⟩) (by assumption) ?_
    rotate_left
    · intro wq hSw; go_simp; (try with_reducible rfl)
    try simp only [Act.put, List.setIfInBounds_toArray, List.set_cons_zero, List.set_cons_succ]
    refine wpAnyH_take (i := 3) (oi := ⟨some 64, _, _, _, _, _⟩) (v := ?_) rfl (by kernel_rfl) (by kernel_rfl) (by kernel_rfl) (fun _ _ _ h => h) (Or.inl ⟨by rfl, ?_⟩) (by assumption) ?_
    rotate_left
    · intro wq hSw; go_simp; (try with_reducible rfl)
    try simp only [Act.put, List.setIfInBounds_toArray, List.set_cons_zero, List.set_cons_succ]
    refine wpAnyH_take (i := 4) (oi := ⟨some 65, _, _, _, _, _⟩) (v := ?_) rfl (by kernel_rfl) (by kernel_rfl) (by kernel_rfl) (fun _ _ _ h => h) (Or.inl ⟨by rfl, ?_⟩) (by assumption) ?_
    rotate_left
    · intro wq hSw; obtain ⟨⟨qz0, qc0, qf0⟩, ⟨qz1, qc1, qf1⟩, ⟨qz2, qc2, qf2⟩, _⟩ := hSw.2; go_simp; (try with_reducible rfl)
    try simp only [Act.put, List.setIfInBounds_toArray, List.set_cons_zero, List.set_cons_succ]
    refine wpAnyH_take (i := 5) (oi := ⟨some 66, _, _, _, _, _⟩) (v := ?_) rfl (by kernel_rfl) (by kernel_rfl) (by kernel_rfl) (fun _ _ _ h => h) (Or.inl ⟨by rfl, ?_⟩) (by assumption) ?_
    rotate_left
    · intro wq hSw; go_simp; (try with_reducible rfl)
    try simp only [Act.put, List.setIfInBounds_toArray, List.set_cons_zero, List.set_cons_succ]
    refine wpAnyH_take (i := 6) (oi := ⟨some 67, _, _, _, _, _⟩) (v := ?_) rfl (by kernel_rfl) (by kernel_rfl) (by kernel_rfl) (fun _ _ _ h => h) (Or.inl ⟨by rfl, ?_⟩) (by assumption) ?_
    rotate_left
    · intro wq hSw; go_simp; (try with_reducible rfl)
    try simp only [Act.put, List.setIfInBounds_toArray, List.set_cons_zero, List.set_cons_succ]
    refine wpAnyH_take (i := 7) (oi := ⟨some 68, _, _, _, _, _⟩) (v := ?_) rfl (by kernel_rfl) (by kernel_rfl) (by kernel_rfl) (fun _ _ _ h => h) (Or.inl ⟨by rfl, ?_⟩) (by assumption) ?_
    rotate_left
    · intro wq hSw; go_simp; (try with_reducible rfl)
    try simp only [Act.put, List.setIfInBounds_toArray, List.set_cons_zero, List.set_cons_succ]
    refine wpAnyH_take (i := 8) (oi := ⟨some 69, _, _, _, _, _⟩) (v := ?_) rfl (by kernel_rfl) (by kernel_rfl) (by kernel_rfl) (fun _ _ _ h => h) (Or.inl ⟨by rfl, ?_⟩) (by assumption) ?_
    rotate_left
    · intro wq hSw; go_simp; (try with_reducible rfl)
    try simp only [Act.put, List.setIfInBounds_toArray, List.set_cons_zero, List.set_cons_succ]
    refine wpAnyH_take (i := 9) (oi := ⟨some 70, _, _, _, _, _⟩) (v := ?_) rfl (by kernel_rfl) (by kernel_rfl) (by kernel_rfl) (fun _ _ _ h => h) (Or.inl ⟨by rfl, ?_⟩) (by assumption) ?_
    rotate_left
    · intro wq hSw; obtain ⟨⟨qz0, qc0, qf0⟩, ⟨qz1, qc1, qf1⟩, ⟨qz2, qc2, qf2⟩, _⟩ := hSw.2; go_simp; (try with_reducible rfl)
    try simp only [Act.put, List.setIfInBounds_toArray, List.set_cons_zero, List.set_cons_succ]
    refine wpAnyH_ready (rs := [10]) (by kernel_rfl) (by simp) ?_
    refine AllReadyH.cons (o := ⟨some 71, _, _, _, _, _⟩) rfl (fun K hK => ?_) AllReadyH.nil
    go_simp
    ((with_reducible refine (NT.out _).mono ?_); rintro e w5 ⟨rfl, hb⟩)
    refine hK.out _ _ (hHeld0.next hb) (fun hHeld1 => ?_)
    clear hK K
    try clear hb
    try simp only [Act.put, List.setIfInBounds_toArray, List.set_cons_zero, List.set_cons_succ]
    refine wpAnyH_take (i := 11) (oi := ⟨some 72, _, _, _, _, _⟩) (v := ?_) rfl (by kernel_rfl) (by kernel_rfl) (by kernel_rfl) (fun _ _ _ h => h) (Or.inl ⟨by rfl, ?_⟩) (by assumption) ?_
    rotate_left
    · intro wq hSw; go_simp; (try with_reducible rfl)
    try simp only [Act.put, List.setIfInBounds_toArray, List.set_cons_zero, List.set_cons_succ]
    refine wpAnyH_take (i := 12) (oi := ⟨some 60, _, _, _, _, _⟩) (v := ?_) rfl (by kernel_rfl) (by kernel_rfl) (by kernel_rfl) (fun _ _ _ h => h) (Or.inl ⟨by rfl, ?_⟩) (by assumption) ?_
    rotate_left
    · intro wq hSw; go_simp; (try with_reducible rfl)
    try simp only [Act.put, List.setIfInBounds_toArray, List.set_cons_zero, List.set_cons_succ]
    refine wpAnyH_done (by kernel_rfl) ?_ _
    have hHeld := hHeld1
    obtain ⟨⟨kz0, kc0, kf0⟩, ⟨kz1, kc1, kf1⟩, ⟨kz2, kc2, kf2⟩, _⟩ := hHeld.2
    all_goals
      have HG5 := Lib.hid (show GrowAt w5 g ⟨f, s, c⟩ v from (hHeld.1.block g hgl).trans HG.out)
      have HT5 := Lib.hid (Took.of_below (B := w0.heap.size) hgl (Nat.le_trans HB.out (Nat.le_of_lt hgl)) hHeld.1)
      have HO5 := Lib.hid (owns_below HO.out hHeld.1)
      have hB5 : Below w0.heap.size w0 w5 := hw0.trans (hHeld.1.mono hw0.size)
      obtain ⟨d0, d1, d2, d3, df⟩ := HG5.out.cells
      simp only at d0 d1 d2
      have hl5 := HG5.out.lt
      have HLN := Lib.hid (owns_lt' HO5.out)
      clear hHeld hHeld0 hHeld1 c0 c1 c2 c3 cf
      have HD := Lib.hid d3
      go_wp2_with fail
      refine region_keeps (w0 := w0) (L := []) (by kernel_rfl) ⟨hB5, trivial⟩ (fun hHeld0 => ?_)
      refine wpAnyH_take (i := 0) (oi := ⟨some 4, _, _, _, _, _⟩) (v := ?_) rfl (by kernel_rfl) (by kernel_rfl) (by kernel_rfl) (fun _ _ _ h => h) (Or.inl ⟨by rfl, ?_⟩) (by assumption) ?_
      rotate_left
      · intro wq hSw; go_simp; (try with_reducible rfl)
      try simp only [Act.put, List.setIfInBounds_toArray, List.set_cons_zero, List.set_cons_succ]
      refine wpAnyH_take (i := 1) (oi := ⟨some 5, _, _, _, _, _⟩) (v := ?_) rfl (by kernel_rfl) (by kernel_rfl) (by kernel_rfl) (fun _ _ _ h => h) (Or.inl ⟨by rfl, ?_⟩) (by assumption) ?_
      rotate_left
      · intro wq hSw; go_simp; (try with_reducible rfl)
      try simp only [Act.put, List.setIfInBounds_toArray, List.set_cons_zero, List.set_cons_succ]
      refine wpAnyH_take (i := 2) (oi := ⟨some 6, _, _, _, _, _⟩) (v := ?_) rfl (by kernel_rfl) (by kernel_rfl) (by kernel_rfl) (fun _ _ _ h => h) (Or.inl ⟨by rfl, ?_⟩) (by assumption) ?_
      rotate_left
      · intro wq hSw; go_simp; (try with_reducible rfl)
      try simp only [Act.put, List.setIfInBounds_toArray, List.set_cons_zero, List.set_cons_succ]
      refine wpAnyH_take (i := 3) (oi := ⟨some 7, _, _, _, _, _⟩) (v := ?_) rfl (by kernel_rfl) (by kernel_rfl) (by kernel_rfl) (fun _ _ _ h => h) (Or.inl ⟨by rfl, ?_⟩) (by assumption) ?_
      rotate_left
      · intro wq hSw; go_simp; (try with_reducible rfl)
      try simp only [Act.put, List.setIfInBounds_toArray, List.set_cons_zero, List.set_cons_succ]
      refine wpAnyH_take (i := 5) (oi := ⟨some 9, _, _, _, _, _⟩) (v := ?_) rfl (by kernel_rfl) (by kernel_rfl) (by kernel_rfl) (fun _ _ _ h => h) (Or.inl ⟨by rfl, ?_⟩) (by assumption) ?_
      rotate_left
      · intro wq hSw; go_simp; (try with_reducible rfl)
      try simp only [Act.put, List.setIfInBounds_toArray, List.set_cons_zero, List.set_cons_succ]
      refine wpAnyH_take (i := 6) (oi := ⟨some 10, _, _, _, _, _⟩) (v := ?_) rfl (by kernel_rfl) (by kernel_rfl) (by kernel_rfl) (fun _ _ _ h => h) (Or.inl ⟨by rfl, ?_⟩) (by assumption) ?_
      rotate_left
      · intro wq hSw; go_simp; (try with_reducible rfl)
      try simp only [Act.put, List.setIfInBounds_toArray, List.set_cons_zero, List.set_cons_succ]
      refine wpAnyH_take (i := 7) (oi := ⟨some 11, _, _, _, _, _⟩) (v := ?_) rfl (by kernel_rfl) (by kernel_rfl) (by kernel_rfl) (fun _ _ _ h => h) (Or.inl ⟨by rfl, ?_⟩) (by assumption) ?_
      rotate_left
      · intro wq hSw; go_simp; (try with_reducible rfl)
      try simp only [Act.put, List.setIfInBounds_toArray, List.set_cons_zero, List.set_cons_succ]
      refine wpAnyH_ready (rs := [4, 8]) (by kernel_rfl) (by simp) ?_
      refine AllReadyH.cons (o := ⟨some 8, _, _, _, _, _⟩) rfl (fun K hK => ?_) ?_
      go_simp
      refine hK.out _ _ (by first | exact hHeld0 | (first | exact hHeld | (refine ⟨by go_grown, ?_⟩; simp [Cells, go_sem]; done))) (fun hHeld1 => ?_)
      clear hK K
      try clear hb
      try simp only [Act.put, List.setIfInBounds_toArray, List.set_cons_zero, List.set_cons_succ]
      refine wpAnyH_ready (rs := [8]) (by kernel_rfl) (by simp) ?_
      refine AllReadyH.cons (o := ⟨some 12, _, _, _, _, _⟩) rfl (fun K hK => ?_) AllReadyH.nil
      go_simp
      refine hK.out _ _ (by first | exact hHeld1 | (first | exact hHeld | (refine ⟨by go_grown, ?_⟩; simp [Cells, go_sem]; done))) (fun hHeld2 => ?_)
      clear hK K
      try clear hb
      try simp only [Act.put, List.setIfInBounds_toArray, List.set_cons_zero, List.set_cons_succ]
      refine wpAnyH_ready (rs := [9]) (by kernel_rfl) (by simp) ?_
      refine AllReadyH.cons (o := ⟨some 13, _, _, _, _, _⟩) rfl (fun K hK => ?_) AllReadyH.nil
      go_simp
      refine hK.out _ _ (by first | exact hHeld2.alloc _ | exact (hHeld2.alloc _).drew) (fun hHeld3 => ?_)
      clear hK K
      try clear hb
      try simp only [Act.put, List.setIfInBounds_toArray, List.set_cons_zero, List.set_cons_succ]
      refine wpAnyH_ready (rs := [10]) (by kernel_rfl) (by simp) ?_
      refine AllReadyH.cons (o := ⟨some 14, _, _, _, _, _⟩) rfl (fun K hK => ?_) AllReadyH.nil
      (refine if_wanted rfl ?_; refine wp_append_own_at _ (.tmp 8) (.tmp 13) 22 rfl w0.heap.size 36 i0 (.agg #[.int .i64 0, .int .i64 0, .int .i64 0]) 3 24 Try.underlying22 hi hz0 hz1 hz2 rfl (by decide) v _ _ rfl (owns_below HO5.out (below_alloc w5 _).drew) ⟨w5.heap.size, 0, none⟩ 1 1 [.int .i64 f, .int .i64 s, .int .i64 c] rfl rfl (new_cells3 rfl) (by intro u hu; simp at hu; rcases hu with rfl | rfl | rfl <;> rfl) (by unfold maxLen; omega) (by omega) (hHeld3).1.size (fun v8 w8 hown8 hgrow8 h8 => ?_); have hG8 : GrowAt w8 g ⟨f, s, c⟩ v := (hgrow8.block g (by simp; omega) (fun e => owns_ne HG5.out HO5.out e.symm)).trans (((below_alloc w5 _).drew.block g hl5).trans HG5.out); have hl8 := hG8.lt; obtain ⟨g8, cap8, rfl⟩ := ownsRow_succ hown8; have q3 := hG8.cells.2.2.2.1; have qf := hG8.cells.2.2.2.2)
      refine hK.out _ _ (⟨((hHeld3).1).grown hgrow8 (hHeld3).1.size (fun j hj => (HLN.out j hj).1), trivial⟩) (fun hHeld4 => ?_)
      clear hK K
      try clear hb
      try simp only [Act.put, List.setIfInBounds_toArray, List.set_cons_zero, List.set_cons_succ]
      refine wpAnyH_take (i := 11) (oi := ⟨some 15, _, _, _, _, _⟩) (v := ?_) rfl (by kernel_rfl) (by kernel_rfl) (by kernel_rfl) (fun _ _ _ h => h) (Or.inl ⟨by rfl, ?_⟩) (by assumption) ?_
      rotate_left
      · intro wq hSw; go_simp; (try with_reducible rfl)
      try simp only [Act.put, List.setIfInBounds_toArray, List.set_cons_zero, List.set_cons_succ]
      refine wpAnyH_take (i := 12) (oi := ⟨some 16, _, _, _, _, _⟩) (v := ?_) rfl (by kernel_rfl) (by kernel_rfl) (by kernel_rfl) (fun _ _ _ h => h) (Or.inl ⟨by rfl, ?_⟩) (by assumption) ?_
      rotate_left
      · intro wq hSw; go_simp; (try with_reducible rfl)
      try simp only [Act.put, List.setIfInBounds_toArray, List.set_cons_zero, List.set_cons_succ]
      refine wpAnyH_ready (rs := [13]) (by kernel_rfl) (by simp) ?_
      refine AllReadyH.cons (o := ⟨none, _, _, _, _, _⟩) rfl (fun K hK => ?_) AllReadyH.nil
      go_simp
      refine hK.out _ _ (by first | exact hHeld4.alloc _ | (repeat (first | (with_reducible exact hHeld4) | (with_reducible exact (Keeps.undrewR hHeld4)) | (refine Keeps.set ?_ (by simp <;> omega) (by simp <;> omega) _) | (with_reducible refine Keeps.drew ?_)))) (fun hHeld5 => ?_)
      clear hK K
      try clear hb
      try simp only [Act.put, List.setIfInBounds_toArray, List.set_cons_zero, List.set_cons_succ]
      refine wpAnyH_done (by kernel_rfl) ?_ _
      have hHeld := hHeld5
      rotate_left 1
      refine AllReadyH.cons (o := ⟨some 12, _, _, _, _, _⟩) rfl (fun K hK => ?_) ?_
      go_simp
      refine hK.out _ _ (by first | exact hHeld0 | (first | exact hHeld | (refine ⟨by go_grown, ?_⟩; simp [Cells, go_sem]; done))) (fun hHeld6 => ?_)
      clear hK K
      try clear hb
      try simp only [Act.put, List.setIfInBounds_toArray, List.set_cons_zero, List.set_cons_succ]
      refine wpAnyH_ready (rs := [4, 9]) (by kernel_rfl) (by simp) ?_
      refine AllReadyH.cons (o := ⟨some 8, _, _, _, _, _⟩) rfl (fun K hK => ?_) ?_
      go_simp
      refine hK.out _ _ (by first | exact hHeld6 | (first | exact hHeld | (refine ⟨by go_grown, ?_⟩; simp [Cells, go_sem]; done))) (fun hHeld7 => ?_)
      clear hK K
      try clear hb
      try simp only [Act.put, List.setIfInBounds_toArray, List.set_cons_zero, List.set_cons_succ]
      refine wpAnyH_ready (rs := [9]) (by kernel_rfl) (by simp) ?_
      refine AllReadyH.cons (o := ⟨some 13, _, _, _, _, _⟩) rfl (fun K hK => ?_) AllReadyH.nil
      go_simp
      refine hK.out _ _ (by first | exact hHeld7.alloc _ | exact (hHeld7.alloc _).drew) (fun hHeld8 => ?_)
      clear hK K
      try clear hb
      try simp only [Act.put, List.setIfInBounds_toArray, List.set_cons_zero, List.set_cons_succ]
      refine wpAnyH_ready (rs := [10]) (by kernel_rfl) (by simp) ?_
      refine AllReadyH.cons (o := ⟨some 14, _, _, _, _, _⟩) rfl (fun K hK => ?_) AllReadyH.nil
      (refine if_wanted rfl ?_; refine wp_append_own_at _ (.tmp 8) (.tmp 13) 22 rfl w0.heap.size 36 i0 (.agg #[.int .i64 0, .int .i64 0, .int .i64 0]) 3 24 Try.underlying22 hi hz0 hz1 hz2 rfl (by decide) v _ _ rfl (owns_below HO5.out (below_alloc w5 _).drew) ⟨w5.heap.size, 0, none⟩ 1 1 [.int .i64 f, .int .i64 s, .int .i64 c] rfl rfl (new_cells3 rfl) (by intro u hu; simp at hu; rcases hu with rfl | rfl | rfl <;> rfl) (by unfold maxLen; omega) (by omega) (hHeld8).1.size (fun v8 w8 hown8 hgrow8 h8 => ?_); have hG8 : GrowAt w8 g ⟨f, s, c⟩ v := (hgrow8.block g (by simp; omega) (fun e => owns_ne HG5.out HO5.out e.symm)).trans (((below_alloc w5 _).drew.block g hl5).trans HG5.out); have hl8 := hG8.lt; obtain ⟨g8, cap8, rfl⟩ := ownsRow_succ hown8; have q3 := hG8.cells.2.2.2.1; have qf := hG8.cells.2.2.2.2)
      refine hK.out _ _ (⟨((hHeld8).1).grown hgrow8 (hHeld8).1.size (fun j hj => (HLN.out j hj).1), trivial⟩) (fun hHeld9 => ?_)
      clear hK K
      try clear hb
      try simp only [Act.put, List.setIfInBounds_toArray, List.set_cons_zero, List.set_cons_succ]
      refine wpAnyH_take (i := 11) (oi := ⟨some 15, _, _, _, _, _⟩) (v := ?_) rfl (by kernel_rfl) (by kernel_rfl) (by kernel_rfl) (fun _ _ _ h => h) (Or.inl ⟨by rfl, ?_⟩) (by assumption) ?_
      rotate_left
      · intro wq hSw; go_simp; (try with_reducible rfl)
      try simp only [Act.put, List.setIfInBounds_toArray, List.set_cons_zero, List.set_cons_succ]
      refine wpAnyH_take (i := 12) (oi := ⟨some 16, _, _, _, _, _⟩) (v := ?_) rfl (by kernel_rfl) (by kernel_rfl) (by kernel_rfl) (fun _ _ _ h => h) (Or.inl ⟨by rfl, ?_⟩) (by assumption) ?_
      rotate_left
      · intro wq hSw; go_simp; (try with_reducible rfl)
      try simp only [Act.put, List.setIfInBounds_toArray, List.set_cons_zero, List.set_cons_succ]
      refine wpAnyH_ready (rs := [13]) (by kernel_rfl) (by simp) ?_
      refine AllReadyH.cons (o := ⟨none, _, _, _, _, _⟩) rfl (fun K hK => ?_) AllReadyH.nil
      go_simp
      refine hK.out _ _ (by first | exact hHeld9.alloc _ | (repeat (first | (with_reducible exact hHeld9) | (with_reducible exact (Keeps.undrewR hHeld9)) | (refine Keeps.set ?_ (by simp <;> omega) (by simp <;> omega) _) | (with_reducible refine Keeps.drew ?_)))) (fun hHeld10 => ?_)
      clear hK K
      try clear hb
      try simp only [Act.put, List.setIfInBounds_toArray, List.set_cons_zero, List.set_cons_succ]
      refine wpAnyH_done (by kernel_rfl) ?_ _
      have hHeld := hHeld10
      rotate_left 1
      refine AllReadyH.cons (o := ⟨some 13, _, _, _, _, _⟩) rfl (fun K hK => ?_) ?_
      go_simp
      refine hK.out _ _ (by first | exact hHeld6.alloc _ | exact (hHeld6.alloc _).drew) (fun hHeld11 => ?_)
      clear hK K
      try clear hb
      try simp only [Act.put, List.setIfInBounds_toArray, List.set_cons_zero, List.set_cons_succ]
      refine wpAnyH_ready (rs := [4]) (by kernel_rfl) (by simp) ?_
      refine AllReadyH.cons (o := ⟨some 8, _, _, _, _, _⟩) rfl (fun K hK => ?_) AllReadyH.nil
      go_simp
      refine hK.out _ _ (by first | exact hHeld11 | (first | exact hHeld | (refine ⟨by go_grown, ?_⟩; simp [Cells, go_sem]; done))) (fun hHeld12 => ?_)
      clear hK K
      try clear hb
      try simp only [Act.put, List.setIfInBounds_toArray, List.set_cons_zero, List.set_cons_succ]
      refine wpAnyH_ready (rs := [10]) (by kernel_rfl) (by simp) ?_
      refine AllReadyH.cons (o := ⟨some 14, _, _, _, _, _⟩) rfl (fun K hK => ?_) AllReadyH.nil
      (refine if_wanted rfl ?_; refine wp_append_own_at _ (.tmp 8) (.tmp 13) 22 rfl w0.heap.size 36 i0 (.agg #[.int .i64 0, .int .i64 0, .int .i64 0]) 3 24 Try.underlying22 hi hz0 hz1 hz2 rfl (by decide) v _ _ rfl (owns_below HO5.out (below_alloc w5 _).drew) ⟨w5.heap.size, 0, none⟩ 1 1 [.int .i64 f, .int .i64 s, .int .i64 c] rfl rfl (new_cells3 rfl) (by intro u hu; simp at hu; rcases hu with rfl | rfl | rfl <;> rfl) (by unfold maxLen; omega) (by omega) (hHeld12).1.size (fun v8 w8 hown8 hgrow8 h8 => ?_); have hG8 : GrowAt w8 g ⟨f, s, c⟩ v := (hgrow8.block g (by simp; omega) (fun e => owns_ne HG5.out HO5.out e.symm)).trans (((below_alloc w5 _).drew.block g hl5).trans HG5.out); have hl8 := hG8.lt; obtain ⟨g8, cap8, rfl⟩ := ownsRow_succ hown8; have q3 := hG8.cells.2.2.2.1; have qf := hG8.cells.2.2.2.2)
      refine hK.out _ _ (⟨((hHeld12).1).grown hgrow8 (hHeld12).1.size (fun j hj => (HLN.out j hj).1), trivial⟩) (fun hHeld13 => ?_)
      clear hK K
      try clear hb
      try simp only [Act.put, List.setIfInBounds_toArray, List.set_cons_zero, List.set_cons_succ]
      refine wpAnyH_take (i := 11) (oi := ⟨some 15, _, _, _, _, _⟩) (v := ?_) rfl (by kernel_rfl) (by kernel_rfl) (by kernel_rfl) (fun _ _ _ h => h) (Or.inl ⟨by rfl, ?_⟩) (by assumption) ?_
      rotate_left
      · intro wq hSw; go_simp; (try with_reducible rfl)
      try simp only [Act.put, List.setIfInBounds_toArray, List.set_cons_zero, List.set_cons_succ]
      refine wpAnyH_take (i := 12) (oi := ⟨some 16, _, _, _, _, _⟩) (v := ?_) rfl (by kernel_rfl) (by kernel_rfl) (by kernel_rfl) (fun _ _ _ h => h) (Or.inl ⟨by rfl, ?_⟩) (by assumption) ?_
      rotate_left
      · intro wq hSw; go_simp; (try with_reducible rfl)
      try simp only [Act.put, List.setIfInBounds_toArray, List.set_cons_zero, List.set_cons_succ]
      refine wpAnyH_ready (rs := [13]) (by kernel_rfl) (by simp) ?_
      refine AllReadyH.cons (o := ⟨none, _, _, _, _, _⟩) rfl (fun K hK => ?_) AllReadyH.nil
      go_simp
      refine hK.out _ _ (by first | exact hHeld13.alloc _ | (repeat (first | (with_reducible exact hHeld13) | (with_reducible exact (Keeps.undrewR hHeld13)) | (refine Keeps.set ?_ (by simp <;> omega) (by simp <;> omega) _) | (with_reducible refine Keeps.drew ?_)))) (fun hHeld14 => ?_)
      clear hK K
      try clear hb
      try simp only [Act.put, List.setIfInBounds_toArray, List.set_cons_zero, List.set_cons_succ]
      refine wpAnyH_done (by kernel_rfl) ?_ _
      have hHeld := hHeld14
      rotate_left 1
      exact AllReadyH.nil
      exact AllReadyH.nil
      all_goals
        obtain ⟨TK, hG9⟩ := Took.setRow HG5.out HB.out (Nat.le_trans HB.out (Nat.le_of_lt hl5)) (below_alloc w5 _).drew (fun k e => ⟨(HLN.out k e).1, fun e2 => owns_ne HG5.out HO5.out (e2 ▸ e), (HLN.out k e).2⟩) (owns_form HO5.out) hgrow8 h8 (fun k e => (hown8.lt k e).2) own_block
        have HO9 := Lib.hid (owns_off (i := 3) hG8 hown8 (.slice (some ⟨g8, 0, none⟩) (sh.length + 1) cap8))
        have HG9 := Lib.hid hG9
        have HTK := Lib.hid (HT5.out.trans TK)
        have EL := Lib.hid (flatR_app sh [⟨f, s, c⟩])
        (try clear hHeld0); (try clear hHeld1); (try clear hHeld2); (try clear hHeld3); (try clear hHeld4); (try clear hHeld5); (try clear hHeld6); (try clear hHeld7); (try clear hHeld8); (try clear hHeld9); (try clear hHeld10); (try clear hHeld11); (try clear hHeld12); (try clear hHeld13); (try clear hT0); (try clear kz0 kc0 kf0); (try clear kz1 kc1 kf1); (try clear kz2 kc2 kf2); (try clear kz3 kc3 kf3); (try clear kz4 kc4 kf4); (try clear kz5 kc5 kf5); (try clear kz6 kc6 kf6); (try clear kz7 kc7 kf7); (try clear kz8 kc8 kf8); (try clear kz9 kc9 kf9); (try clear kz10 kc10 kf10); (try clear kz11 kc11 kf11); (try clear kz12 kc12 kf12); (try clear kz13 kc13 kf13); (try clear t0z0 t0c0 t0f0); (try clear t0z1 t0c1 t0f1); (try clear kz0 kc0 kf0 kz1 kc1 kf1 kz2 kc2 kf2); clear TK hgrow8 h8 hown8 hG8 d0 d1 d2 d3 df hB5 q3 qf
        have hlz := hG9.lt
        obtain ⟨m0, m1, m2, m3, mf⟩ := hG9.cells
        generalize w8.setCell ⟨g, 3, none⟩ (.slice (some ⟨g8, 0, none⟩) (sh.length + 1) cap8) = w9 at *
        clear hG9
        simp only at m0 m1 m2
        go_wp2_with fail
        go_end0
        refine ⟨rfl, HTK.out.trans ((Took.set HG9.out HB.out (by decide) _).trans ((Took.set HG9.out.set0 HB.out (by decide) _).trans (Took.set HG9.out.set0.set1 HB.out (by decide) _))), _, HG9.out.set0.set1.set2, ?_⟩
        have ho := owns_off (i := 2) (GrowAt.set1 (x := 0) (GrowAt.set0 (x := t) HG9.out)) (owns_off (i := 1) (GrowAt.set0 (x := t) HG9.out) (owns_off (i := 0) HG9.out HO9.out (.int .i64 t)) (.int .i64 0)) (.int .i64 1)
        rw [show flatR (sh ++ [⟨f, s, c⟩]) = _ from EL.out, List.length_append]
        exact ho
end Go.Proofs.Ytlfjmdfplmdmgaa
