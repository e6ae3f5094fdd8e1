/-
 Layer 11: what the values at some places come to: plain numbers, and a piece's sum. Conditions: those written at each fact.
-/
import Derived.Test.YtcfidimnbamnkaaGreatKitV
import Derived.Test.YtcfidimnbamnkaaGreatKitW
import Derived.Maps.RangeWalk
import Derived.Test.YtcfidimnbamnkaaGreatSgH
import Derived.Test.YtcfidimnbamnkaaGreatNC
import Derived.Test.YtcfidimnbamnkaaGreatFC
import Derived.Test.YtcfidimnbamnkaaGreatKitR
namespace Go.Proofs.YtcfidimnbamnkaaGreat.P11
open Go.RowKit Go.Shelf Go.Proofs.YtcfidimnbamnkaaGreat.P7

theorem steps_snoc (f s : Int) (n : Nat) : stepsR f s (n + 1) = stepsR f s n ++ [f + n * s] := by
 induction n generalizing f with
 | zero => simp [stepsR]
 | succ n ih =>
  rw [stepsR, ih (f + s)]
  have e : f + s + (n : Int) * s = f + ((n + 1 : Nat) : Int) * s := by rw [Int.natCast_add, Int.add_mul]; omega
  rw [e]
  rfl
theorem floor_steps (a r n d f0 f s : Int) (k : Nat) : floorS k (n * s) (exV a r n d (f - f0)) d = sumL ((stepsR f s k).map (fun t => exV a r n d (t - f0) / d)) := by
 induction k with
 | zero => rfl
 | succ k ih =>
  rw [floorS, ih, steps_snoc, List.map_append, sumL_app]
  have e : n * s * (k : Int) + exV a r n d (f - f0) = exV a r n d (f + (k : Int) * s - f0) := by
   unfold exV
   have e1 : n * s * (k : Int) = n * ((k : Int) * s) := by rw [Int.mul_assoc, Int.mul_comm s]
   have e2 : n * (f + (k : Int) * s - f0) = n * ((k : Int) * s) + n * (f - f0) := by rw [← Int.mul_add]; congr 1; omega
   omega
  rw [e]
  simp [sumL]
theorem sum_runs (l : List Rn) (h : Int → Int) : sumL (l.map (fun r => sumL ((stepsR r.f r.s r.c.toNat).map h))) = sumL ((timesR l).map h) := by
 induction l with
 | nil => rfl
 | cons r l ih => rw [List.map_cons, sumL_cons, ih, timesR, List.map_append, sumL_app]
abbrev partV (c lo hi z : Int) : Value := .agg #[.int .i64 c, .int .i64 lo, .int .i64 hi, .int .i64 (rhi z), .int .u64 (rlo z)]
def partL (l : List Int) : Value := partV l.length (minL l) (maxL l) (sumL l)
theorem cutL_length {l : List Int} {i j : Nat} (hj : j ≤ l.length) : (cutL l i j).length = j - i := by
 unfold cutL; rw [List.length_take, List.length_drop]; omega
theorem cutL_get {l : List Int} {i j q : Nat} (h1 : i ≤ q) (h2 : q < j) : (cutL l i j)[q - i]? = l[q]? := by
 unfold cutL
 rw [List.getElem?_take, if_pos (by omega), List.getElem?_drop]
 congr 1; omega
theorem cutL_mem {l : List Int} {i j : Nat} {x : Int} (h : x ∈ cutL l i j) : ∃ q, i ≤ q ∧ q < j ∧ l[q]? = some x := by
 obtain ⟨p, hp⟩ := List.getElem?_of_mem h
 unfold cutL at hp
 rw [List.getElem?_take] at hp
 split at hp
 ·rw [List.getElem?_drop] at hp
  exact ⟨i + p, by omega, by omega, hp⟩
 ·cases hp
theorem cutL_map (l : List Int) (i j : Nat) (h : Int → Int) : cutL (l.map h) i j = (cutL l i j).map h := by
 unfold cutL; rw [← List.map_drop, ← List.map_take]
theorem line_ends {s : Sg} (hs : segB s = true) (hk : s.k ≠ 4) {i j : Nat} (hij : i < j) {t1 t2 : Int} (h1 : (timesR s.R)[i]? = some t1) (h2 : (timesR s.R)[j - 1]? = some t2) :
  minL (cutL (vals s) i j) = min (lnAt s t1) (lnAt s t2) ∧ maxL (cutL (vals s) i j) = max (lnAt s t1) (lnAt s t2) := by
 have hT := times_ok ((segB_iff s).1 hs).1
 have hl : lineB s.a s.r s.n s.d = true := by
  rcases segB_kind hs with ⟨h, _⟩ | ⟨_, _, h, _⟩
  ·exact absurd h hk
  ·exact ((lineOk_iff s).1 h).2.1
 have hv : vals s = (timesR s.R).map (lnAt s) := by unfold vals; rw [if_neg hk]
 rw [hv, cutL_map]
 have m1 : lnAt s t1 ∈ (cutL (timesR s.R) i j).map (lnAt s) := List.mem_map.2 ⟨t1, List.mem_of_getElem? ((cutL_get (Nat.le_refl i) hij).trans h1), rfl⟩
 have m2 : lnAt s t2 ∈ (cutL (timesR s.R) i j).map (lnAt s) := List.mem_map.2 ⟨t2, List.mem_of_getElem? ((cutL_get (q := j - 1) (by omega) (by omega)).trans h2), rfl⟩
 have bt : ∀ x ∈ (cutL (timesR s.R) i j).map (lnAt s), min (lnAt s t1) (lnAt s t2) ≤ x ∧ x ≤ max (lnAt s t1) (lnAt s t2) := by
  intro x hx
  obtain ⟨t, ht, rfl⟩ := List.mem_map.1 hx
  obtain ⟨q, q1, q2, hq⟩ := cutL_mem ht
  exact line_between (line_d hl) (by have := up_get hT.up h1 hq q1; omega) (by have := up_get hT.up hq h2 (by omega); omega)
 constructor
 ·refine minL_is ?_ (fun x hx => (bt x hx).1)
  rcases Int.le_total (lnAt s t1) (lnAt s t2) with g | g
  ·rw [Int.min_eq_left g]; exact m1
  ·rw [Int.min_eq_right g]; exact m2
 ·refine maxL_is ?_ (fun x hx => (bt x hx).2)
  rcases Int.le_total (lnAt s t1) (lnAt s t2) with g | g
  ·rw [Int.max_eq_right g]; exact m2
  ·rw [Int.max_eq_left g]; exact m1
theorem flat_cut {s : Sg} (hs : segB s = true) (hk : s.k = 1) {i j : Nat} (hij : i < j) (hj : j ≤ (vals s).length) :
  minL (cutL (vals s) i j) = s.a ∧ maxL (cutL (vals s) i j) = s.a ∧ sumL (cutL (vals s) i j) = s.a * ((j - i : Nat) : Int) := by
 have hk4 : s.k ≠ 4 := by omega
 obtain ⟨_, hl, hkl⟩ := (lineOk_iff s).1 (by
  rcases segB_kind hs with ⟨h, _⟩ | ⟨_, _, h, _⟩
  ·exact absurd h hk4
  ·exact h)
 have hn : s.n = 0 := by have := kindL_cases s.n s.r; omega
 have hv : vals s = (timesR s.R).map (lnAt s) := by unfold vals; rw [if_neg hk4]
 have hall : ∀ x ∈ cutL (vals s) i j, x = s.a := by
  intro x hx
  rw [hv, cutL_map] at hx
  obtain ⟨t, _, rfl⟩ := List.mem_map.1 hx
  exact flat_at hl hn t
 have hlen := cutL_length (i := i) hj
 generalize cutL (vals s) i j = L at *
 have hm : s.a ∈ L := by
  cases L with
  | nil => simp at hlen; omega
  | cons x L => rw [hall x (List.mem_cons_self ..)] ; exact List.mem_cons_self ..
 have hsum : ∀ (M : List Int), (∀ x ∈ M, x = s.a) → sumL M = s.a * (M.length : Int) := by
  intro M
  induction M with
  | nil => intro _; simp [sumL]
  | cons x M ih =>
   intro h
   rw [sumL_cons, ih (fun y hy => h y (List.mem_cons_of_mem _ hy)), h x (List.mem_cons_self ..), List.length_cons, Int.natCast_add, Int.mul_add]
   omega
 exact ⟨minL_is hm (fun x hx => by have := hall x hx; omega), maxL_is hm (fun x hx => by have := hall x hx; omega), by rw [hsum L hall, hlen]⟩
def pieceS (s : Sg) (r : Rn) : Int := sumL ((stepsR r.f r.s r.c.toNat).map (lnAt s))
structure PieceOk (s : Sg) (r : Rn) : Prop where
 ok : RunOk r
 first : fstT s.R ≤ r.f
 mem : ∀ t ∈ stepsR r.f r.s r.c.toNat, t ∈ timesR s.R
theorem pieces_ok {s : Sg} (hs : segB s = true) {i j : Int} (g1 : 0 ≤ i) (g2 : i < j) (g3 : j ≤ totalR s.R) :
  (∀ r ∈ piecesR s.R i j, PieceOk s r) ∧ sumL ((piecesR s.R i j).map (pieceS s)) = sumL ((cutL (timesR s.R) i.toNat j.toNat).map (lnAt s)) ∧ (piecesR s.R i j).length ≤ 256 := by
 have hT := times_ok ((segB_iff s).1 hs).1
 obtain ⟨p1, p2, p3⟩ := pieces_facts hT.oks g1 g2 g3
 have hsub : ∀ t ∈ timesR (piecesR s.R i j), t ∈ timesR s.R := by
  intro t ht
  rw [p1] at ht
  exact List.mem_of_mem_drop (List.mem_of_mem_take ht)
 have hin : ∀ r ∈ piecesR s.R i j, ∀ t ∈ stepsR r.f r.s r.c.toNat, t ∈ timesR (piecesR s.R i j) := by
  generalize piecesR s.R i j = l
  induction l with
  | nil => intro r hr; cases hr
  | cons x l ih =>
   intro r hr t ht
   rw [timesR]
   rcases List.mem_cons.1 hr with rfl | hr
   ·exact List.mem_append_left _ ht
   ·exact List.mem_append_right _ (ih r hr t ht)
 refine ⟨fun r hr => ⟨p2 r hr, ?_, fun t ht => hsub t (hin r hr t ht)⟩, ?_, by have := hT.runs; omega⟩
 ·have hc := (p2 r hr).1
  obtain ⟨m, hm⟩ : ∃ m, r.c.toNat = m + 1 := ⟨r.c.toNat - 1, by omega⟩
  have : r.f ∈ timesR s.R := hsub _ (hin r hr _ (by rw [hm, stepsR]; exact List.mem_cons_self ..))
  obtain ⟨q, hq⟩ := List.getElem?_of_mem this
  exact up_get hT.up (times_first hT) hq (Nat.zero_le _)
 ·have : pieceS s = fun r => sumL ((stepsR r.f r.s r.c.toNat).map (lnAt s)) := rfl
  rw [this, sum_runs, p1]
  unfold cutL
  have e : (j - i).toNat = j.toNat - i.toNat := by omega
  rw [e]
theorem piece_told {s : Sg} (hs : segB s = true) (hk : s.k ≠ 4) {r : Rn} (hr : PieceOk s r) :
  lwE s.a s.r s.n s.d (r.f - fstT s.R) r.s r.c = 0 ∧ lwQ s.a s.r s.n s.d (r.f - fstT s.R) r.s r.c = pieceS s r ∧ wrap64 (r.f - fstT s.R) = r.f - fstT s.R ∧ -1180591620717411303424 ≤ pieceS s r ∧ pieceS s r ≤ 1180591620717411303424 := by
 obtain ⟨o1, o2, o3, o4, o5, o6, o7⟩ := hr.ok
 have hT := times_ok ((segB_iff s).1 hs).1
 have hl : lineB s.a s.r s.n s.d = true := by
  rcases segB_kind hs with ⟨h, _⟩ | ⟨_, _, h, _⟩
  ·exact absurd h hk
  ·exact ((lineOk_iff s).1 h).2.1
 have hf0 := (hT.times _ (List.mem_of_getElem? (times_first hT))).1
 have hf := hr.first
 have w1 : walkB (r.f - fstT s.R) r.s r.c = true := by
  rw [walkB_iff, timeB_iff, timeB_iff, timeB_iff]
  have h5 : 0 ≤ (r.c - 1) * r.s := Int.mul_nonneg (by omega) o4
  exact ⟨by omega, by omega, by omega, .inr (by omega)⟩
 have e0 : lwE s.a s.r s.n s.d (r.f - fstT s.R) r.s r.c = 0 := by unfold lwE; rw [hl, w1]; rfl
 have e1 : lwQ s.a s.r s.n s.d (r.f - fstT s.R) r.s r.c = pieceS s r := by
  unfold lwQ
  rw [if_pos e0, floor_steps]
  rfl
 have hv : ∀ v ∈ (stepsR r.f r.s r.c.toNat).map (lnAt s), -2305844108725321728 ≤ v ∧ v ≤ 2305844108725321728 := by
  intro v hv
  obtain ⟨t, ht, rfl⟩ := List.mem_map.1 hv
  have hm : lnAt s t ∈ vals s := by unfold vals; rw [if_neg hk]; exact List.mem_map.2 ⟨t, hr.mem t ht, rfl⟩
  exact (backB_iff _).1 (((segB_iff s).1 hs).2.2.2.2 _ hm)
 have hb := sumL_bound hv
 rw [List.length_map, steps_length] at hb
 have hc : ((r.c.toNat : Nat) : Int) * 2305844108725321728 ≤ 256 * 2305844108725321728 := Int.mul_le_mul_of_nonneg_right (by omega) (by omega)
 exact ⟨e0, e1, i64_keeps (by omega) (by omega), by unfold pieceS; omega, by unfold pieceS; omega⟩
set_option maxRecDepth 100000 in
set_option maxHeartbeats 2000000 in
theorem along_walk (k a r n d e f s c y z : Int) (v u : Value) (w : World) (SI : ∀ W, Below w.heap.size w W → Calls Tryz.prog 199 #[sgV k v a r n d u e, .int .i64 f] W (Ret W (.int .i64 y)))
  (LI : ∀ W, Calls Tryz.prog 228 #[lnV a r n d, .int .i64 y, .int .i64 s, .int .i64 c] W (Ret W (.tuple #[wideV (rhi z) (rlo z), .int .i64 0]))) :
  Calls Tryz.prog 203 #[sgV k v a r n d u e, runV ⟨f, s, c⟩] w (Ret w (wideV (rhi z) (rlo z))) := by
 replace SI := Lib.hid SI
 replace LI := Lib.hid LI
 obtain ⟨z0, hz0⟩ : ∃ x, x = rhi z := ⟨_, rfl⟩
 obtain ⟨z1, hz1⟩ : ∃ x, x = rlo z := ⟨_, rfl⟩
 rw [← hz0, ← hz1] at LI ⊢
 clear hz0 hz1
 have hK : Keeps w [(w.heap.size, 0, .int .i64 k), (w.heap.size, 1, v), (w.heap.size, 2, .int .i64 a), (w.heap.size, 3, .int .i64 r), (w.heap.size, 4, .int .i64 n), (w.heap.size, 5, .int .i64 d), (w.heap.size, 6, u), (w.heap.size, 7, .int .i64 e), (w.heap.size + 1, 0, .int .i64 f), (w.heap.size + 1, 1, .int .i64 s), (w.heap.size + 1, 2, .int .i64 c), (w.heap.size + 2, 0, .int .i64 0), (w.heap.size + 2, 1, .int .u64 0)] (((w.alloc (sgO 94 k v a r n d u e)).alloc (.cells #[.int .i64 f, .int .i64 s, .int .i64 c] 44)).alloc (.cells #[.int .i64 0, .int .u64 0] 57)) := by
  refine ⟨by go_grown, ?_⟩
  simp [Cells, go_sem]
 go_enter Tryz.func203, Tryz.ntmps203
 go_wp2_with fail
 generalize ((w.alloc (sgO 94 k v a r n d u e)).alloc (.cells #[.int .i64 f, .int .i64 s, .int .i64 c] 44)).alloc (.cells #[.int .i64 0, .int .u64 0] 57) = wi at *
 refine region_keeps (w0 := w) (L := [(w.heap.size, 0, .int .i64 k), (w.heap.size, 1, v), (w.heap.size, 2, .int .i64 a), (w.heap.size, 3, .int .i64 r), (w.heap.size, 4, .int .i64 n), (w.heap.size, 5, .int .i64 d), (w.heap.size, 6, u), (w.heap.size, 7, .int .i64 e), (w.heap.size + 1, 0, .int .i64 f), (w.heap.size + 1, 1, .int .i64 s), (w.heap.size + 1, 2, .int .i64 c), (w.heap.size + 2, 0, .int .i64 0), (w.heap.size + 2, 1, .int .u64 0)]) (by kernel_rfl) hK (fun hHeld0 => ?_)
 refine tv 0 8 rfl rfl ?_
 try go_frame
 refine tv 1 9 rfl rfl ?_
 try go_frame
 refine tk 2 10 rfl rfl ?_ ?_ ?_
 rotate_left
 ·intro wq hSw; obtain ⟨⟨_,_,_⟩,⟨_,_,_⟩,⟨_,_,_⟩,⟨_,_,_⟩,⟨_,_,_⟩,⟨_,_,_⟩,⟨_,_,_⟩,⟨_,_,_⟩,⟨_,_,_⟩,⟨_,_,_⟩,⟨_,_,_⟩,⟨_,_,_⟩,⟨_,_,_⟩,_⟩ := hSw.2; go_simp; (try with_reducible rfl)
 try go_frame
 refine tk 3 11 rfl rfl ?_ ?_ ?_
 rotate_left
 ·intro wq hSw; obtain ⟨⟨_,_,_⟩,⟨_,_,_⟩,⟨_,_,_⟩,⟨_,_,_⟩,⟨_,_,_⟩,⟨_,_,_⟩,⟨_,_,_⟩,⟨_,_,_⟩,⟨_,_,_⟩,⟨_,_,_⟩,⟨_,_,_⟩,⟨_,_,_⟩,⟨_,_,_⟩,_⟩ := hSw.2; go_simp; (try with_reducible rfl)
 try go_frame
 refine tv 4 12 rfl rfl ?_
 try go_frame
 refine tk 5 13 rfl rfl ?_ ?_ ?_
 rotate_left
 ·intro wq hSw; obtain ⟨⟨_,_,_⟩,⟨_,_,_⟩,⟨_,_,_⟩,⟨_,_,_⟩,⟨_,_,_⟩,⟨_,_,_⟩,⟨_,_,_⟩,⟨_,_,_⟩,⟨_,_,_⟩,⟨_,_,_⟩,⟨_,_,_⟩,⟨_,_,_⟩,⟨_,_,_⟩,_⟩ := hSw.2; go_simp; (try with_reducible rfl)
 try go_frame
 refine tv 7 15 rfl rfl ?_
 try go_frame
 refine tk 8 16 rfl rfl ?_ ?_ ?_
 rotate_left
 ·intro wq hSw; obtain ⟨⟨_,_,_⟩,⟨_,_,_⟩,⟨_,_,_⟩,⟨_,_,_⟩,⟨_,_,_⟩,⟨_,_,_⟩,⟨_,_,_⟩,⟨_,_,_⟩,⟨_,_,_⟩,⟨_,_,_⟩,⟨_,_,_⟩,⟨_,_,_⟩,⟨_,_,_⟩,_⟩ := hSw.2; go_simp; (try with_reducible rfl)
 try go_frame
 refine tv 9 17 rfl rfl ?_
 try go_frame
 refine tk 10 18 rfl rfl ?_ ?_ ?_
 rotate_left
 ·intro wq hSw; obtain ⟨⟨_,_,_⟩,⟨_,_,_⟩,⟨_,_,_⟩,⟨_,_,_⟩,⟨_,_,_⟩,⟨_,_,_⟩,⟨_,_,_⟩,⟨_,_,_⟩,⟨_,_,_⟩,⟨_,_,_⟩,⟨_,_,_⟩,⟨_,_,_⟩,⟨_,_,_⟩,_⟩ := hSw.2; go_simp; (try with_reducible rfl)
 try go_frame
 refine ty [6, 15] ?_
 refine AllReadyH.cons rfl (fun K hK => ?_) ?_
 go_simp
 (first | ((with_reducible refine (SI.out _ (by exact kbel (by assumption))).mono ?_); rintro e wa ⟨rfl, hb⟩) | ((with_reducible refine (LI.out _).mono ?_); rintro e wb ⟨rfl, hb⟩))
 refine hK.out _ _ (hHeld0.next hb) (fun hHeld1 => ?_)
 clear hK K; try clear hb
 try go_frame
 refine ty [11, 15] ?_
 refine AllReadyH.cons rfl (fun K hK => ?_) ?_
 go_simp
 (first | ((with_reducible refine (SI.out _ (by exact kbel (by assumption))).mono ?_); rintro e wa ⟨rfl, hb⟩) | ((with_reducible refine (LI.out _).mono ?_); rintro e wb ⟨rfl, hb⟩))
 refine hK.out _ _ (hHeld1.next hb) (fun hHeld2 => ?_)
 clear hK K; try clear hb
 try go_frame
 refine tv 12 7 rfl rfl ?_
 try go_frame
 refine tv 13 20 rfl rfl ?_
 try go_frame
 refine tv 14 21 rfl rfl ?_
 try go_frame
 refine tw 15 rfl fun K hK => ?_
 have lo5 := hHeld2.1.size
 obtain ⟨⟨a5_z0,_,_⟩,⟨a5_z1,_,_⟩,⟨a5_z2,_,_⟩,⟨a5_z3,_,_⟩,⟨a5_z4,_,_⟩,⟨a5_z5,_,_⟩,⟨a5_z6,_,_⟩,⟨a5_z7,_,_⟩,⟨a5_z8,_,_⟩,⟨a5_z9,_,_⟩,⟨a5_z10,_,_⟩,⟨a5_z11,_,_⟩,⟨a5_z12,_,_⟩,_⟩ := hHeld2.2
 (try simp at lo5); (try simp at a5_z0); (try simp at a5_z1); (try simp at a5_z2); (try simp at a5_z3); (try simp at a5_z4); (try simp at a5_z5); (try simp at a5_z6); (try simp at a5_z7); (try simp at a5_z8); (try simp at a5_z9); (try simp at a5_z10); (try simp at a5_z11); (try simp at a5_z12)
 go_simp
 refine hK.out _ _ (by first | exact hHeld2.alloc _ | exact (hHeld2.alloc _).drew) (fun hHeld3 => ?_)
 first | have hS5 := newK2 hHeld3 | have hS5 := newK2d hHeld3
 clear hK K; try clear hb
 try go_frame
 generalize hGWA1 : World.alloc wb (.cells #[.int .i64 0, .int .u64 0] 57) = WA1 at *
 clear hGWA1
 refine tw 16 rfl fun K hK => ?_
 obtain ⟨⟨s5z0, s5c0, s5f0⟩, ⟨s5z1, s5c1, s5f1⟩, _⟩ := hS5.2
 go_simp
 refine hK.out _ _ (by (repeat (first | (with_reducible exact hHeld3) | (refine Keeps.set ?_ (by simp <;> omega) (by simp <;> omega) _)))) (fun hHeld4 => ?_)
 replace hS5 := hHeld4.add2 s5z0 s5c0 s5f0 s5c1 s5f1
 clear s5z0 s5c0 s5f0 s5z1 s5c1 s5f1
 clear hK K; try clear hb
 try go_frame
 generalize hGWA2 : World.setCell (World.setCell WA1 ⟨wb.heap.size, 0, none⟩ (.int .i64 z0)) ⟨wb.heap.size, 1, none⟩ (.int .u64 z1) = WA2 at *
 clear hGWA2
 refine tv 17 6 rfl rfl ?_
 try go_frame
 refine wpAnyH_done (by kernel_rfl) ?_ _
 have hHeld := hHeld4
 rotate_left 1
 refine AllReadyH.cons rfl (fun K hK => ?_) ?_
 have lo5 := hHeld1.1.size
 obtain ⟨⟨a5_z0,_,_⟩,⟨a5_z1,_,_⟩,⟨a5_z2,_,_⟩,⟨a5_z3,_,_⟩,⟨a5_z4,_,_⟩,⟨a5_z5,_,_⟩,⟨a5_z6,_,_⟩,⟨a5_z7,_,_⟩,⟨a5_z8,_,_⟩,⟨a5_z9,_,_⟩,⟨a5_z10,_,_⟩,⟨a5_z11,_,_⟩,⟨a5_z12,_,_⟩,_⟩ := hHeld1.2
 (try simp at lo5); (try simp at a5_z0); (try simp at a5_z1); (try simp at a5_z2); (try simp at a5_z3); (try simp at a5_z4); (try simp at a5_z5); (try simp at a5_z6); (try simp at a5_z7); (try simp at a5_z8); (try simp at a5_z9); (try simp at a5_z10); (try simp at a5_z11); (try simp at a5_z12)
 go_simp
 refine hK.out _ _ (by first | exact hHeld1.alloc _ | exact (hHeld1.alloc _).drew) (fun hHeld5 => ?_)
 first | have hS5 := newK2 hHeld5 | have hS5 := newK2d hHeld5
 clear hK K; try clear hb
 try go_frame
 generalize hGWA3 : World.alloc wa (.cells #[.int .i64 0, .int .u64 0] 57) = WA3 at *
 clear hGWA3
 refine tw 11 rfl fun K hK => ?_
 go_simp
 (first | ((with_reducible refine (SI.out _ (by exact kbel (by assumption))).mono ?_); rintro e wa ⟨rfl, hb⟩) | ((with_reducible refine (LI.out _).mono ?_); rintro e wb ⟨rfl, hb⟩))
 refine hK.out _ _ (hHeld5.next hb) (fun hHeld6 => ?_)
 replace hS5 := hS5.next hb
 clear hK K; try clear hb
 try go_frame
 refine tv 12 7 rfl rfl ?_
 try go_frame
 refine tv 13 20 rfl rfl ?_
 try go_frame
 refine tv 14 21 rfl rfl ?_
 try go_frame
 refine tw 16 rfl fun K hK => ?_
 obtain ⟨⟨s5z0, s5c0, s5f0⟩, ⟨s5z1, s5c1, s5f1⟩, _⟩ := hS5.2
 go_simp
 refine hK.out _ _ (by (repeat (first | (with_reducible exact hHeld6) | (refine Keeps.set ?_ (by simp <;> omega) (by simp <;> omega) _)))) (fun hHeld7 => ?_)
 replace hS5 := hHeld7.add2 s5z0 s5c0 s5f0 s5c1 s5f1
 clear s5z0 s5c0 s5f0 s5z1 s5c1 s5f1
 clear hK K; try clear hb
 try go_frame
 generalize hGWA4 : World.setCell (World.setCell wb ⟨wa.heap.size, 0, none⟩ (.int .i64 z0)) ⟨wa.heap.size, 1, none⟩ (.int .u64 z1) = WA4 at *
 clear hGWA4
 refine tv 17 6 rfl rfl ?_
 try go_frame
 refine wpAnyH_done (by kernel_rfl) ?_ _
 have hHeld := hHeld7
 rotate_left 1
 exact AllReadyH.nil
 refine AllReadyH.cons rfl (fun K hK => ?_) ?_
 have lo5 := hHeld0.1.size
 obtain ⟨⟨a5_z0,_,_⟩,⟨a5_z1,_,_⟩,⟨a5_z2,_,_⟩,⟨a5_z3,_,_⟩,⟨a5_z4,_,_⟩,⟨a5_z5,_,_⟩,⟨a5_z6,_,_⟩,⟨a5_z7,_,_⟩,⟨a5_z8,_,_⟩,⟨a5_z9,_,_⟩,⟨a5_z10,_,_⟩,⟨a5_z11,_,_⟩,⟨a5_z12,_,_⟩,_⟩ := hHeld0.2
 (try simp at lo5); (try simp at a5_z0); (try simp at a5_z1); (try simp at a5_z2); (try simp at a5_z3); (try simp at a5_z4); (try simp at a5_z5); (try simp at a5_z6); (try simp at a5_z7); (try simp at a5_z8); (try simp at a5_z9); (try simp at a5_z10); (try simp at a5_z11); (try simp at a5_z12)
 go_simp
 refine hK.out _ _ (by first | exact hHeld0.alloc _ | exact (hHeld0.alloc _).drew) (fun hHeld8 => ?_)
 first | have hS5 := newK2 hHeld8 | have hS5 := newK2d hHeld8
 clear hK K; try clear hb
 try go_frame
 generalize hGWA5 : World.alloc wi (.cells #[.int .i64 0, .int .u64 0] 57) = WA5 at *
 clear hGWA5
 refine tw 6 rfl fun K hK => ?_
 go_simp
 (first | ((with_reducible refine (SI.out _ (by exact kbel (by assumption))).mono ?_); rintro e wa ⟨rfl, hb⟩) | ((with_reducible refine (LI.out _).mono ?_); rintro e wb ⟨rfl, hb⟩))
 refine hK.out _ _ (hHeld8.next hb) (fun hHeld9 => ?_)
 replace hS5 := hS5.next hb
 clear hK K; try clear hb
 try go_frame
 refine tw 11 rfl fun K hK => ?_
 go_simp
 (first | ((with_reducible refine (SI.out _ (by exact kbel (by assumption))).mono ?_); rintro e wa ⟨rfl, hb⟩) | ((with_reducible refine (LI.out _).mono ?_); rintro e wb ⟨rfl, hb⟩))
 refine hK.out _ _ (hHeld9.next hb) (fun hHeld10 => ?_)
 replace hS5 := hS5.next hb
 clear hK K; try clear hb
 try go_frame
 refine tv 12 7 rfl rfl ?_
 try go_frame
 refine tv 13 20 rfl rfl ?_
 try go_frame
 refine tv 14 21 rfl rfl ?_
 try go_frame
 refine tw 16 rfl fun K hK => ?_
 obtain ⟨⟨s5z0, s5c0, s5f0⟩, ⟨s5z1, s5c1, s5f1⟩, _⟩ := hS5.2
 go_simp
 refine hK.out _ _ (by (repeat (first | (with_reducible exact hHeld10) | (refine Keeps.set ?_ (by simp <;> omega) (by simp <;> omega) _)))) (fun hHeld11 => ?_)
 replace hS5 := hHeld11.add2 s5z0 s5c0 s5f0 s5c1 s5f1
 clear s5z0 s5c0 s5f0 s5z1 s5c1 s5f1
 clear hK K; try clear hb
 try go_frame
 generalize hGWA6 : World.setCell (World.setCell wb ⟨wi.heap.size, 0, none⟩ (.int .i64 z0)) ⟨wi.heap.size, 1, none⟩ (.int .u64 z1) = WA6 at *
 clear hGWA6
 refine tv 17 6 rfl rfl ?_
 try go_frame
 refine wpAnyH_done (by kernel_rfl) ?_ _
 have hHeld := hHeld11
 rotate_left 1
 exact AllReadyH.nil
 all_goals
  have hB := hHeld.1
  obtain ⟨⟨_, x0, _⟩, ⟨_, x1, _⟩, _⟩ := hS5.2
  obtain ⟨_,_,_,_,_,_,_,_,_,_,_,⟨_,y0,_⟩,⟨_,y1,_⟩,_⟩ := hHeld.2
  obtain ⟨d0, d1⟩ := set2 (u0 := .int .i64 z0) (u1 := .int .u64 z1) y0 y1
  have hB2 := (hB.setCell (p := ⟨w.heap.size + 2, 0, none⟩) (by simp) (.int .i64 z0)).setCell (p := ⟨w.heap.size + 2, 1, none⟩) (by simp) (.int .u64 z1)
  clear hHeld hS5 hB
  (try clear hHeld0); (try clear hHeld1); (try clear hHeld2); (try clear hHeld3); (try clear hHeld4); (try clear hHeld5); (try clear hHeld6); (try clear hHeld7); (try clear hHeld8); (try clear hHeld9); (try clear hHeld10); (try clear hHeld11); (try clear hHeld12); (try clear hHeld13)
  go_wp2_with fail
  refine bodyPost_ret (v := wideV z0 z1) (by simp [results, Tryz.results203, go_sem, d0, d1]) rfl ?_
  exact ⟨rfl, hB2⟩
theorem along_any (s : Sg) (hs : segB s = true) (hk : s.k ≠ 4) (r : Rn) (hr : PieceOk s r) (v u : Value) (w : World) (h : ReadsR w v s.R) :
  Calls Tryz.prog 203 #[sgV s.k v s.a s.r s.n s.d u s.e, runV r] w (Ret w (wz (pieceS s r))) := by
 obtain ⟨e0, e1, e2, _, _⟩ := piece_told hs hk hr
 have hT := times_ok ((segB_iff s).1 hs).1
 obtain ⟨f, st, c⟩ := r
 simp only at e0 e1 e2
 refine along_walk s.k s.a s.r s.n s.d s.e f st c (f - fstT s.R) (pieceS s ⟨f, st, c⟩) v u w (fun W hW => ?_) (fun W => ?_)
 ·have := since_any s.k s.a s.r s.n s.d s.e f v u s.R W (h.below hW) hT.ne
  rwa [e2] at this
 ·have := line6_any s.a s.r s.n s.d (f - fstT s.R) st c W
  rwa [e1, e0] at this
end Go.Proofs.YtcfidimnbamnkaaGreat.P11
