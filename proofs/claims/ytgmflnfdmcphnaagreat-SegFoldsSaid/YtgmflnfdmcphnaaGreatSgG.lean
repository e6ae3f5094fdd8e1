/-
  Layer 11: a segment's value at a place. Conditions: the segment may be.
-/
import Derived.Maps.RangeWalk
import Derived.Test.YtgmflnfdmcphnaaGreatSgF
namespace Go.Proofs.YtgmflnfdmcphnaaGreat.P11
open Go.RowKit Go.Shelf Go.Proofs.YtgmflnfdmcphnaaGreat.P7

/-- The functions that a kind says. -/
def hasFn (k : Int) : Nat := if k = 4 then 130 else 125
def valFn (k : Int) : Nat := if k = 4 then 131 else if k = 1 then 128 else 126
def partFn (k : Int) : Nat := if k = 4 then 132 else if k = 1 then 129 else 127
abbrev kindV (k : Int) : Value := .agg #[fnV (hasFn k), fnV (valFn k), fnV (partFn k)]
theorem says_any (s : Sg) (hs : segB s = true) (v u : Value) (w : World) : Calls Tryz.prog 58 #[sgV s.k v s.a s.r s.n s.d u s.e] w (Ret w (kindV s.k)) := by
  have hk : s.k = 1 ∨ s.k = 2 ∨ s.k = 3 ∨ s.k = 4 := by
    rcases segB_kind hs with ⟨h, _⟩ | ⟨h, _⟩ <;> omega
  generalize s.k = k at *
  rcases hk with rfl | rfl | rfl | rfl
  · exact says_flat v s.a s.r s.n s.d u s.e w
  · exact says_tilt v s.a s.r s.n s.d u s.e w
  · exact says_free v s.a s.r s.n s.d u s.e w
  · exact says_raw v s.a s.r s.n s.d u s.e w
theorem flatValue_any (k a r n d e i t : Int) (v u : Value) (w : World) : Calls Tryz.prog 128 #[sgV k v a r n d u e, .int .i64 i, .int .i64 t] w (Ret w (.int .i64 a)) := by
  go_enter Tryz.func128, Tryz.ntmps128
  go_wp2_with fail
  go_ret
  exact ⟨rfl, below_alloc _ _⟩
theorem rawValue_any (k a r n d e t x : Int) (i : Nat) (V : List Int) (hi : V[i]? = some x) (v u : Value) (w : World) (hu : Reads .i64 w u V) : Calls Tryz.prog 131 #[sgV k v a r n d u e, .int .i64 i, .int .i64 t] w (Ret w (.int .i64 x)) := by
  obtain ⟨A, c, rfl, hc, hk⟩ := hu
  obtain ⟨bb, off, rfl, hbw, c0⟩ := hk i x hi
  have hlt := (List.getElem?_eq_some_iff.1 hi).1
  have i0 : (0 : Int) ≤ (i : Int) := by omega
  have i1 : (i : Int) < (V.length : Int) := by omega
  have hW := below_alloc w (sgO 80 k v a r n d (.slice (some ⟨bb, off, none⟩) V.length c) e)
  have c1 := (hW.cell (p := ⟨bb, off + i, none⟩) hbw).trans c0
  clear c0 hk hi
  generalize V.length = N at *
  go_enter Tryz.func131, Tryz.ntmps131
  go_wp2_with fail
  go_ret
  exact ⟨rfl, hW⟩
set_option maxRecDepth 100000 in
set_option maxHeartbeats 2000000 in
theorem lineValue_any (k a r n d e i t y q c : Int) (v u : Value) (w : World) (SI : ∀ W, Below w.heap.size w W → Calls Tryz.prog 144 #[sgV k v a r n d u e, .int .i64 t] W (Ret W (.int .i64 y)))
    (AT : ∀ W, Calls Tryz.prog 145 #[lnV a r n d, .int .i64 y] W (Ret W (.tuple #[.int .i64 q, .int .i64 c]))) :
    Calls Tryz.prog 126 #[sgV k v a r n d u e, .int .i64 i, .int .i64 t] w (Ret w (.int .i64 q)) := by
  replace SI := Lib.hid SI
  replace AT := Lib.hid AT
  go_enter Tryz.func126, Tryz.ntmps126
  go_wp2_with fail
  refine region_keeps (w0 := w) (L := [(w.heap.size, 0, .int .i64 k), (w.heap.size, 1, v), (w.heap.size, 2, .int .i64 a), (w.heap.size, 3, .int .i64 r), (w.heap.size, 4, .int .i64 n), (w.heap.size, 5, .int .i64 d), (w.heap.size, 6, u), (w.heap.size, 7, .int .i64 e)]) (by kernel_rfl) (by first | exact hHeld | (refine ⟨by go_grown, ?_⟩; simp [Cells, go_sem]; done)) (fun hHeld0 => ?_)
  refine wpAnyH_take (i := 0) (oi := ⟨some 10, _, _, _, _, _⟩) (v := ?_) rfl (by kernel_rfl) (by kernel_rfl) (by kernel_rfl) (fun _ _ _ h => h) (Or.inl ⟨by rfl, ?_⟩) (by assumption) ?_
  rotate_left
  · intro wq hSw; go_simp; (try with_reducible rfl)
  try go_frame
  refine wpAnyH_take (i := 1) (oi := ⟨some 11, _, _, _, _, _⟩) (v := ?_) rfl (by kernel_rfl) (by kernel_rfl) (by kernel_rfl) (fun _ _ _ h => h) (Or.inl ⟨by rfl, ?_⟩) (by assumption) ?_
  rotate_left
  · intro wq hSw; go_simp; (try with_reducible rfl)
  try go_frame
  refine wpAnyH_take (i := 2) (oi := ⟨some 12, _, _, _, _, _⟩) (v := ?_) rfl (by kernel_rfl) (by kernel_rfl) (by kernel_rfl) (fun _ _ _ h => h) (Or.inl ⟨by rfl, ?_⟩) (by assumption) ?_
  rotate_left
  · intro wq hSw; obtain ⟨⟨qz0, qc0, qf0⟩, ⟨qz1, qc1, qf1⟩, ⟨qz2, qc2, qf2⟩, ⟨qz3, qc3, qf3⟩, ⟨qz4, qc4, qf4⟩, ⟨qz5, qc5, qf5⟩, ⟨qz6, qc6, qf6⟩, ⟨qz7, qc7, qf7⟩, _⟩ := hSw.2; go_simp; (try with_reducible rfl)
  try go_frame
  refine wpAnyH_take (i := 3) (oi := ⟨some 13, _, _, _, _, _⟩) (v := ?_) rfl (by kernel_rfl) (by kernel_rfl) (by kernel_rfl) (fun _ _ _ h => h) (Or.inl ⟨by rfl, ?_⟩) (by assumption) ?_
  rotate_left
  · intro wq hSw; obtain ⟨⟨qz0, qc0, qf0⟩, ⟨qz1, qc1, qf1⟩, ⟨qz2, qc2, qf2⟩, ⟨qz3, qc3, qf3⟩, ⟨qz4, qc4, qf4⟩, ⟨qz5, qc5, qf5⟩, ⟨qz6, qc6, qf6⟩, ⟨qz7, qc7, qf7⟩, _⟩ := hSw.2; go_simp; (try with_reducible rfl)
  try go_frame
  refine wpAnyH_take (i := 4) (oi := ⟨some 14, _, _, _, _, _⟩) (v := ?_) rfl (by kernel_rfl) (by kernel_rfl) (by kernel_rfl) (fun _ _ _ h => h) (Or.inl ⟨by rfl, ?_⟩) (by assumption) ?_
  rotate_left
  · intro wq hSw; go_simp; (try with_reducible rfl)
  try go_frame
  refine wpAnyH_ready (rs := [5]) (by kernel_rfl) (by simp) ?_
  refine AllReadyH.cons (o := ⟨some 15, _, _, _, _, _⟩) rfl (fun K hK => ?_) AllReadyH.nil
  go_simp
  ((with_reducible refine (SI.out _ (by first | with_reducible exact kbel hHeld0 | with_reducible exact kbel hHeld1 | with_reducible exact kbel hHeld2 | with_reducible exact kbel hHeld3 | with_reducible exact kbel hHeld4 | with_reducible exact kbel hHeld5 | with_reducible exact kbel hHeld6 | with_reducible exact kbel hHeld7 | with_reducible exact kbel hHeld8 | with_reducible exact kbel hHeld9 | with_reducible exact kbel hHeld10 | with_reducible exact kbel hHeld11 | with_reducible exact kbel hHeld12 | with_reducible exact kbel hHeld13 | with_reducible exact kbel hHeld14 | with_reducible exact kbel hHeld15 | with_reducible exact kbel hHeld16 | with_reducible exact kbel hHeld17 | with_reducible exact kbel hHeld18 | with_reducible exact kbel hHeld19 | with_reducible exact kbel hHeld20 | with_reducible exact kbel hHeld21 | with_reducible exact kbel hHeld22 | with_reducible exact kbel hHeld23 | with_reducible exact kbel hHeld24 | with_reducible exact kbel hHeld25 | with_reducible exact kbel hHeld26 | with_reducible exact kbel hHeld27 | with_reducible exact kbel hHeld28 | with_reducible exact kbel hHeld29 | with_reducible exact kbel hHeld30 | with_reducible exact kbel hHeld31 | with_reducible exact kbel hHeld32 | with_reducible exact kbel hHeld33 | with_reducible exact kbel hHeld34 | with_reducible exact kbel hHeld35 | with_reducible exact kbel hHeld36 | with_reducible exact kbel hHeld37 | with_reducible exact kbel hHeld38 | with_reducible exact kbel hHeld39 | with_reducible exact kbel hHeld40 | with_reducible exact kbel hHeld41 | with_reducible exact kbel hHeld42 | with_reducible exact kbel hHeld43 | with_reducible exact kbel hHeld44 | with_reducible exact kbel hHeld45 | with_reducible exact kbel hHeld46 | with_reducible exact kbel hHeld47)).mono ?_); rintro e w1 ⟨rfl, hb⟩)
  refine hK.out _ _ (hHeld0.next hb) (fun hHeld1 => ?_)
  clear hK K
  try clear hb
  try go_frame
  refine wpAnyH_ready (rs := [6]) (by kernel_rfl) (by simp) ?_
  refine AllReadyH.cons (o := ⟨some 16, _, _, _, _, _⟩) rfl (fun K hK => ?_) AllReadyH.nil
  go_simp
  ((with_reducible refine (AT.out _).mono ?_); rintro e w2 ⟨rfl, hb⟩)
  refine hK.out _ _ (hHeld1.next hb) (fun hHeld2 => ?_)
  clear hK K
  try clear hb
  try go_frame
  refine wpAnyH_take (i := 7) (oi := ⟨some 9, _, _, _, _, _⟩) (v := ?_) rfl (by kernel_rfl) (by kernel_rfl) (by kernel_rfl) (fun _ _ _ h => h) (Or.inl ⟨by rfl, ?_⟩) (by assumption) ?_
  rotate_left
  · intro wq hSw; go_simp; (try with_reducible rfl)
  try go_frame
  refine wpAnyH_take (i := 8) (oi := ⟨some 17, _, _, _, _, _⟩) (v := ?_) rfl (by kernel_rfl) (by kernel_rfl) (by kernel_rfl) (fun _ _ _ h => h) (Or.inl ⟨by rfl, ?_⟩) (by assumption) ?_
  rotate_left
  · intro wq hSw; go_simp; (try with_reducible rfl)
  try go_frame
  refine wpAnyH_take (i := 9) (oi := ⟨some 18, _, _, _, _, _⟩) (v := ?_) rfl (by kernel_rfl) (by kernel_rfl) (by kernel_rfl) (fun _ _ _ h => h) (Or.inl ⟨by rfl, ?_⟩) (by assumption) ?_
  rotate_left
  · intro wq hSw; go_simp; (try with_reducible rfl)
  try go_frame
  refine wpAnyH_take (i := 10) (oi := ⟨some 7, _, _, _, _, _⟩) (v := ?_) rfl (by kernel_rfl) (by kernel_rfl) (by kernel_rfl) (fun _ _ _ h => h) (Or.inl ⟨by rfl, ?_⟩) (by assumption) ?_
  rotate_left
  · intro wq hSw; go_simp; (try with_reducible rfl)
  try go_frame
  refine wpAnyH_take (i := 11) (oi := ⟨some 8, _, _, _, _, _⟩) (v := ?_) rfl (by kernel_rfl) (by kernel_rfl) (by kernel_rfl) (fun _ _ _ h => h) (Or.inl ⟨by rfl, ?_⟩) (by assumption) ?_
  rotate_left
  · intro wq hSw; go_simp; (try with_reducible rfl)
  try go_frame
  refine wpAnyH_done (by kernel_rfl) ?_ _
  have hHeld := hHeld2
  obtain ⟨⟨kz0, kc0, kf0⟩, ⟨kz1, kc1, kf1⟩, ⟨kz2, kc2, kf2⟩, ⟨kz3, kc3, kf3⟩, ⟨kz4, kc4, kf4⟩, ⟨kz5, kc5, kf5⟩, ⟨kz6, kc6, kf6⟩, ⟨kz7, kc7, kf7⟩, _⟩ := hHeld.2
  all_goals
    have hB := hHeld.1
    clear hHeld hHeld0
    (try clear hHeld0); (try clear hHeld1); (try clear hHeld2); (try clear hHeld3); (try clear hHeld4); (try clear hHeld5); (try clear hHeld6); (try clear hHeld7); (try clear hHeld8); (try clear hHeld9); (try clear hHeld10); (try clear hHeld11); (try clear hHeld12); (try clear hHeld13); (try clear hT0); (try clear kz0 kc0 kf0); (try clear kz1 kc1 kf1); (try clear kz2 kc2 kf2); (try clear kz3 kc3 kf3); (try clear kz4 kc4 kf4); (try clear kz5 kc5 kf5); (try clear kz6 kc6 kf6); (try clear kz7 kc7 kf7); (try clear kz8 kc8 kf8); (try clear kz9 kc9 kf9); (try clear kz10 kc10 kf10); (try clear kz11 kc11 kf11); (try clear kz12 kc12 kf12); (try clear kz13 kc13 kf13); (try clear t0z0 t0c0 t0f0); (try clear t0z1 t0c1 t0f1)
    go_wp2_with fail
    go_ret
    exact ⟨rfl, hB⟩
/-- The value at a place, as its kind says it. -/
theorem value_any (s : Sg) (hs : segB s = true) (i : Nat) (t x : Int) (hi : (timesR s.R)[i]? = some t) (hx : (vals s)[i]? = some x) (v u : Value) (w : World) (h : ReadsR w v s.R) (hu : Reads .i64 w u s.V) :
    Calls Tryz.prog (valFn s.k) #[sgV s.k v s.a s.r s.n s.d u s.e, .int .i64 i, .int .i64 t] w (Ret w (.int .i64 x)) := by
  obtain ⟨x', hx', hb, h4, h3⟩ := vals_at hs hi
  have e := hx'.symm.trans hx
  injection e with e
  subst e
  have hok := ((segB_iff s).1 hs).1
  have hT := times_ok hok
  rcases segB_kind hs with ⟨hk, _⟩ | ⟨hk, hk4, hlo, _⟩
  · have e : valFn s.k = 131 := by unfold valFn; rw [if_pos hk]
    rw [e]
    exact rawValue_any s.k s.a s.r s.n s.d s.e t x' i s.V (h4 hk) v u w hu
  · obtain ⟨_, hl, hkl⟩ := (lineOk_iff s).1 hlo
    have hv := h3 hk4
    by_cases k1 : s.k = 1
    · have e : valFn s.k = 128 := by unfold valFn; rw [if_neg hk4, if_pos k1]
      have hn : s.n = 0 := by have := kindL_cases s.n s.r; omega
      rw [e, hv, flat_at hl hn]
      exact flatValue_any s.k s.a s.r s.n s.d s.e i t v u w
    · have e : valFn s.k = 126 := by unfold valFn; rw [if_neg hk4, if_neg k1]
      obtain ⟨z1, z2, z3, z4, z5, z6⟩ := since_time hT hi
      have hsw : wrap64 (t - fstT s.R) = t - fstT s.R := i64_keeps (by omega) (by omega)
      rw [e]
      refine lineValue_any s.k s.a s.r s.n s.d s.e i t (t - fstT s.R) x' 0 v u w (fun W hW => ?_) (fun W => ?_)
      · have := since_any s.k s.a s.r s.n s.d s.e t v u s.R W (h.below hW) hT.ne
        rwa [hsw] at this
      · have := at_any s.a s.r s.n s.d (t - fstT s.R) W
        have hbk : backB (exV s.a s.r s.n s.d (t - fstT s.R) / s.d) = true := by rw [hv] at hb; exact hb
        have e1 : tlQ s.a s.r s.n s.d (t - fstT s.R) = x' := by
          unfold tlQ; rw [hl, if_pos rfl, at_value z3 hbk, hv]; rfl
        have e2 : tlE s.a s.r s.n s.d (t - fstT s.R) = 0 := by
          unfold tlE; rw [hl, if_pos rfl, (at_code z3).2 hbk]
        rwa [e1, e2] at this
end Go.Proofs.YtgmflnfdmcphnaaGreat.P11
