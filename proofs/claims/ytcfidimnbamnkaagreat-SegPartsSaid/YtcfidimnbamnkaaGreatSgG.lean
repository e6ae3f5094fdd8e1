/-
 Layer 11: a segment's value at a place. Conditions: the segment may be.
-/
import Derived.Test.YtcfidimnbamnkaaGreatKitV
import Derived.Test.YtcfidimnbamnkaaGreatKitW
import Derived.Maps.RangeWalk
import Derived.Test.YtcfidimnbamnkaaGreatSgF
namespace Go.Proofs.YtcfidimnbamnkaaGreat.P11
open Go.RowKit Go.Shelf Go.Proofs.YtcfidimnbamnkaaGreat.P7

def hasFn (k : Int) : Nat := if k = 4 then 176 else 171
def valFn (k : Int) : Nat := if k = 4 then 177 else if k = 1 then 174 else 172
def partFn (k : Int) : Nat := if k = 4 then 178 else if k = 1 then 175 else 173
abbrev kindV (k : Int) : Value := .agg #[fnV (hasFn k), fnV (valFn k), fnV (partFn k)]
theorem says_any (s : Sg) (hs : segB s = true) (v u : Value) (w : World) : Calls Tryz.prog 74 #[sgV s.k v s.a s.r s.n s.d u s.e] w (Ret w (kindV s.k)) := by
 have hk : s.k = 1 ∨ s.k = 2 ∨ s.k = 3 ∨ s.k = 4 := by
  rcases segB_kind hs with ⟨h, _⟩ | ⟨h, _⟩ <;> omega
 generalize s.k = k at *
 rcases hk with rfl | rfl | rfl | rfl
 ·exact says_flat v s.a s.r s.n s.d u s.e w
 ·exact says_tilt v s.a s.r s.n s.d u s.e w
 ·exact says_free v s.a s.r s.n s.d u s.e w
 ·exact says_raw v s.a s.r s.n s.d u s.e w
theorem flatValue_any (k a r n d e i t : Int) (v u : Value) (w : World) : Calls Tryz.prog 174 #[sgV k v a r n d u e, .int .i64 i, .int .i64 t] w (Ret w (.int .i64 a)) := by
 go_enter Tryz.func174, Tryz.ntmps174
 go_wp2_with fail
 go_ret
 exact ⟨rfl, below_alloc _ _⟩
theorem rawValue_any (k a r n d e t x : Int) (i : Nat) (V : List Int) (hi : V[i]? = some x) (v u : Value) (w : World) (hu : Reads .i64 w u V) : Calls Tryz.prog 177 #[sgV k v a r n d u e, .int .i64 i, .int .i64 t] w (Ret w (.int .i64 x)) := by
 obtain ⟨A, c, rfl, hc, hk⟩ := hu
 obtain ⟨bb, off, rfl, hbw, c0⟩ := hk i x hi
 have hlt := (List.getElem?_eq_some_iff.1 hi).1
 have i0 : (0 : Int) ≤ (i : Int) := by omega
 have i1 : (i : Int) < (V.length : Int) := by omega
 have hW := below_alloc w (sgO 94 k v a r n d (.slice (some ⟨bb, off, none⟩) V.length c) e)
 have c1 := (hW.cell (p := ⟨bb, off + i, none⟩) hbw).trans c0
 clear c0 hk hi
 generalize V.length = N at *
 go_enter Tryz.func177, Tryz.ntmps177
 go_wp2_with fail
 go_ret
 exact ⟨rfl, hW⟩
set_option maxRecDepth 100000 in
set_option maxHeartbeats 2000000 in
theorem lineValue_any (k a r n d e i t y q c : Int) (v u : Value) (w : World) (SI : ∀ W, Below w.heap.size w W → Calls Tryz.prog 199 #[sgV k v a r n d u e, .int .i64 t] W (Ret W (.int .i64 y)))
  (AT : ∀ W, Calls Tryz.prog 200 #[lnV a r n d, .int .i64 y] W (Ret W (.tuple #[.int .i64 q, .int .i64 c]))) :
  Calls Tryz.prog 172 #[sgV k v a r n d u e, .int .i64 i, .int .i64 t] w (Ret w (.int .i64 q)) := by
 replace SI := Lib.hid SI
 replace AT := Lib.hid AT
 go_enter Tryz.func172, Tryz.ntmps172
 go_wp2_with fail
 refine region_keeps (w0 := w) (L := [(w.heap.size, 0, .int .i64 k), (w.heap.size, 1, v), (w.heap.size, 2, .int .i64 a), (w.heap.size, 3, .int .i64 r), (w.heap.size, 4, .int .i64 n), (w.heap.size, 5, .int .i64 d), (w.heap.size, 6, u), (w.heap.size, 7, .int .i64 e)]) (by kernel_rfl) (by first | exact hHeld | (refine ⟨by go_grown, ?_⟩; simp [Cells, go_sem]; done)) (fun hHeld0 => ?_)
 refine tv 0 10 rfl rfl ?_
 try go_frame
 refine tv 1 11 rfl rfl ?_
 try go_frame
 refine tk 2 12 rfl rfl ?_ ?_ ?_
 rotate_left
 ·intro wq hSw; obtain ⟨⟨_,_,_⟩,⟨_,_,_⟩,⟨_,_,_⟩,⟨_,_,_⟩,⟨_,_,_⟩,⟨_,_,_⟩,⟨_,_,_⟩,⟨_,_,_⟩,_⟩ := hSw.2; go_simp; (try with_reducible rfl)
 try go_frame
 refine tk 3 13 rfl rfl ?_ ?_ ?_
 rotate_left
 ·intro wq hSw; obtain ⟨⟨_,_,_⟩,⟨_,_,_⟩,⟨_,_,_⟩,⟨_,_,_⟩,⟨_,_,_⟩,⟨_,_,_⟩,⟨_,_,_⟩,⟨_,_,_⟩,_⟩ := hSw.2; go_simp; (try with_reducible rfl)
 try go_frame
 refine tv 4 14 rfl rfl ?_
 try go_frame
 refine tw 5 rfl fun K hK => ?_
 go_simp
 ((with_reducible refine (SI.out _ (by exact kbel (by assumption))).mono ?_); rintro e w1 ⟨rfl, hb⟩)
 refine hK.out _ _ (hHeld0.next hb) (fun hHeld1 => ?_)
 clear hK K; try clear hb
 try go_frame
 refine tw 6 rfl fun K hK => ?_
 go_simp
 ((with_reducible refine (AT.out _).mono ?_); rintro e w2 ⟨rfl, hb⟩)
 refine hK.out _ _ (hHeld1.next hb) (fun hHeld2 => ?_)
 clear hK K; try clear hb
 try go_frame
 refine tv 7 9 rfl rfl ?_
 try go_frame
 refine tv 8 17 rfl rfl ?_
 try go_frame
 refine tv 9 18 rfl rfl ?_
 try go_frame
 refine tv 10 7 rfl rfl ?_
 try go_frame
 refine tv 11 8 rfl rfl ?_
 try go_frame
 refine wpAnyH_done (by kernel_rfl) ?_ _
 have hHeld := hHeld2
 obtain ⟨⟨kz0,kc0,kf0⟩,⟨kz1,kc1,kf1⟩,⟨kz2,kc2,kf2⟩,⟨kz3,kc3,kf3⟩,⟨kz4,kc4,kf4⟩,⟨kz5,kc5,kf5⟩,⟨kz6,kc6,kf6⟩,⟨kz7,kc7,kf7⟩,_⟩ := hHeld.2
 all_goals
  have hB := hHeld.1
  clear hHeld hHeld0
  (try clear hHeld0); (try clear hHeld1); (try clear hHeld2); (try clear hHeld3); (try clear hHeld4); (try clear hHeld5); (try clear hHeld6); (try clear hHeld7); (try clear hHeld8); (try clear hHeld9); (try clear hHeld10); (try clear hHeld11); (try clear hHeld12); (try clear hHeld13); (try clear kz0 kc0 kf0); (try clear kz1 kc1 kf1); (try clear kz2 kc2 kf2); (try clear kz3 kc3 kf3); (try clear kz4 kc4 kf4); (try clear kz5 kc5 kf5); (try clear kz6 kc6 kf6); (try clear kz7 kc7 kf7)
  go_wp2_with fail
  go_ret
  exact ⟨rfl, hB⟩
theorem value_any (s : Sg) (hs : segB s = true) (i : Nat) (t x : Int) (hi : (timesR s.R)[i]? = some t) (hx : (vals s)[i]? = some x) (v u : Value) (w : World) (h : ReadsR w v s.R) (hu : Reads .i64 w u s.V) :
  Calls Tryz.prog (valFn s.k) #[sgV s.k v s.a s.r s.n s.d u s.e, .int .i64 i, .int .i64 t] w (Ret w (.int .i64 x)) := by
 obtain ⟨x', hx', hb, h4, h3⟩ := vals_at hs hi
 have e := hx'.symm.trans hx
 injection e with e
 subst e
 have hok := ((segB_iff s).1 hs).1
 have hT := times_ok hok
 rcases segB_kind hs with ⟨hk, _⟩ | ⟨hk, hk4, hlo, _⟩
 ·have e : valFn s.k = 177 := by unfold valFn; rw [if_pos hk]
  rw [e]
  exact rawValue_any s.k s.a s.r s.n s.d s.e t x' i s.V (h4 hk) v u w hu
 ·obtain ⟨_, hl, hkl⟩ := (lineOk_iff s).1 hlo
  have hv := h3 hk4
  by_cases k1 : s.k = 1
  ·have e : valFn s.k = 174 := by unfold valFn; rw [if_neg hk4, if_pos k1]
   have hn : s.n = 0 := by have := kindL_cases s.n s.r; omega
   rw [e, hv, flat_at hl hn]
   exact flatValue_any s.k s.a s.r s.n s.d s.e i t v u w
  ·have e : valFn s.k = 172 := by unfold valFn; rw [if_neg hk4, if_neg k1]
   obtain ⟨z1, z2, z3, z4, z5, z6⟩ := since_time hT hi
   have hsw : wrap64 (t - fstT s.R) = t - fstT s.R := i64_keeps (by omega) (by omega)
   rw [e]
   refine lineValue_any s.k s.a s.r s.n s.d s.e i t (t - fstT s.R) x' 0 v u w (fun W hW => ?_) (fun W => ?_)
   ·have := since_any s.k s.a s.r s.n s.d s.e t v u s.R W (h.below hW) hT.ne
    rwa [hsw] at this
   ·have := at_any s.a s.r s.n s.d (t - fstT s.R) W
    have hbk : backB (exV s.a s.r s.n s.d (t - fstT s.R) / s.d) = true := by rw [hv] at hb; exact hb
    have e1 : tlQ s.a s.r s.n s.d (t - fstT s.R) = x' := by
     unfold tlQ; rw [hl, if_pos rfl, at_value z3 hbk, hv]; rfl
    have e2 : tlE s.a s.r s.n s.d (t - fstT s.R) = 0 := by
     unfold tlE; rw [hl, if_pos rfl, (at_code z3).2 hbk]
    rwa [e1, e2] at this
end Go.Proofs.YtcfidimnbamnkaaGreat.P11
