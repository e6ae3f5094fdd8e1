/-
 Layer 11: has a segment what belongs to a kind with a line (hasLine). Conditions: its runs may be, and its kind is from 1 to 3.
-/
import Derived.Test.YtcfidimnbamnkaaGreatKitW
import Derived.Maps.RangeWalk
import Derived.Test.YtcfidimnbamnkaaGreatSgB
import Derived.Test.YtcfidimnbamnkaaGreatNC
import Derived.Test.YtcfidimnbamnkaaGreatLC
namespace Go.Proofs.YtcfidimnbamnkaaGreat.P11
open Go.RowKit Go.Shelf Go.Proofs.YtcfidimnbamnkaaGreat.P7

def lineAll (s : Sg) : Bool := lineOk s && backs (vals s)
theorem at_code {a r n d t : Int} (ht : timeB t = true) : atE a r n d t = 0 ↔ backB (exV a r n d t / d) = true := by
 unfold atE ovE
 rw [ht, if_pos rfl]
 cases backB (exV a r n d t / d) <;> simp
theorem ends_told {s : Sg} (hT : TimesOk s.R) (hl : lineB s.a s.r s.n s.d = true) (hk : s.k ≠ 4) :
  ∃ lo hi c : Int, EndsI 0 (timeAt s.R (totalR s.R - 1) - fstT s.R) (atQ s.a s.r s.n s.d 0) (atE s.a s.r s.n s.d 0) (atQ s.a s.r s.n s.d (timeAt s.R (totalR s.R - 1) - fstT s.R)) (atE s.a s.r s.n s.d (timeAt s.R (totalR s.R - 1) - fstT s.R)) lo hi c ∧ (backs (vals s) = decide (c = 0)) := by
 have hz := last_time hT
 obtain ⟨z1, z2, z3, z4, z5, z6⟩ := since_time hT hz
 have t0 : timeB 0 = true := by decide
 have hv : vals s = (timesR s.R).map (lnAt s) := by unfold vals; rw [if_neg hk]
 have hA : (backs (vals s) = true) ↔ (atE s.a s.r s.n s.d 0 = 0 ∧ atE s.a s.r s.n s.d (timeAt s.R (totalR s.R - 1) - fstT s.R) = 0) := by
  rw [backs_iff, hv, ends_all hT hl hz, at_code t0, at_code z3]
 generalize atQ s.a s.r s.n s.d 0 = p at *
 generalize atE s.a s.r s.n s.d 0 = c1 at *
 generalize timeAt s.R (totalR s.R - 1) - fstT s.R = y at *
 generalize atQ s.a s.r s.n s.d y = q at *
 generalize atE s.a s.r s.n s.d y = c2 at *
 by_cases g1 : c1 = 0
 ·by_cases g2 : c2 = 0
  ·exact ⟨min p q, max p q, 0, .inr ⟨t0, z3, z1, .inr (.inr ⟨g1, g2, rfl, rfl, rfl⟩)⟩, by rw [hA.2 ⟨g1, g2⟩]; rfl⟩
  ·exact ⟨0, 0, c2, .inr ⟨t0, z3, z1, .inr (.inl ⟨g1, g2, rfl, rfl, rfl⟩)⟩, by
    rw [decide_eq_false g2, ← Bool.not_eq_true]; intro h; exact g2 (hA.1 h).2⟩
 ·exact ⟨0, 0, c1, .inr ⟨t0, z3, z1, .inl ⟨g1, rfl, rfl, rfl⟩⟩, by
    rw [decide_eq_false g1, ← Bool.not_eq_true]; intro h; exact g1 (hA.1 h).1⟩
set_option maxRecDepth 100000 in
set_option maxHeartbeats 2000000 in
theorem hasLine_any (s : Sg) (hok : okB s.R = true) (hk : s.k = 1 ∨ s.k = 2 ∨ s.k = 3) (v u : Value) (w : World) (h : ReadsR w v s.R) (hu : Reads .i64 w u s.V) :
  Calls Tryz.prog 171 #[sgV s.k v s.a s.r s.n s.d u s.e] w (Ret w (.bool (lineAll s))) := by
 have hT := times_ok hok
 have hk4 : s.k ≠ 4 := by omega
 have KD := Lib.hid (fun W => kind_any s.a s.r s.n s.d W)
 have hR1 : ∀ (l : List Rn), okB l = true → l.length ≤ 1000000 := fun l hl => by have := (times_ok hl).runs; omega
 have CN := fun W (hb : Below w.heap.size w W) => cntA_any s.R (hR1 _ hok) v W (h.below hb)
 rw [hok, if_pos rfl] at CN
 have AT := fun W (hb : Below w.heap.size w W) => atA_any s.R (hR1 _ hok) (totalR s.R - 1) v W (h.below hb)
 have e1 : codeA s.R (totalR s.R - 1) = 0 := by unfold codeA; rw [hok, if_pos rfl, if_pos (by have := hT.one; have := hT.total; omega)]
 have e2 : valA s.R (totalR s.R - 1) = timeAt s.R (totalR s.R - 1) := by unfold valA; rw [e1, if_pos rfl]
 rw [e1, e2] at AT
 have SI := fun (t : Int) W (hb : Below w.heap.size w W) => since_any s.k s.a s.r s.n s.d s.e t v u s.R W (h.below hb) hT.ne
 obtain ⟨z1, z2, z3, z4, z5, z6⟩ := since_time hT (last_time hT)
 have hm : wrap64 (totalR s.R - 1) = totalR s.R - 1 := i64_keeps (by have := hT.one; have := hT.total; omega) (by have := hT.few; have := hT.total; omega)
 have hm2 : IntKind.i64.wrap (totalR s.R - 1) = totalR s.R - 1 := iwrap (by have := hT.one; have := hT.total; omega) (by have := hT.few; have := hT.total; omega)
 have hs : wrap64 (timeAt s.R (totalR s.R - 1) - fstT s.R) = timeAt s.R (totalR s.R - 1) - fstT s.R := i64_keeps (by omega) (by omega)
 have hLO := lineOk_iff s
 have hET := fun hl => ends_told hT hl hk4
 have EN := fun x y lo hi c H W => ends_any s.a s.r s.n s.d x y lo hi c H W
 unfold lineAll
 generalize backs (vals s) = ba at *
 obtain ⟨k, R, a, r, n, d, V, e⟩ := s
 simp only at *
 have hKK : kindK a r n d = k ↔ lineB a r n d = true ∧ k = kindL n r := by
  unfold kindK
  cases lineB a r n d
  ·simp; omega
  ·simp; exact ⟨fun h => h.symm, fun h => h.symm⟩
 obtain ⟨A, c, rfl, _, hkV⟩ := hu
 have SIt := Lib.hid (SI (timeAt R (totalR R - 1)))
 rw [hs] at SIt
 generalize timeAt R (totalR R - 1) = z at *
 generalize totalR R = T at *
 generalize fstT R = f at *
 generalize kindK a r n d = kk at *
 by_cases g1 : kk = k
 ·have t1 : (kk != k) = false := by simpa using g1
  by_cases g2 : V = []
  ·have hl := (hKK.1 g1).1
   obtain ⟨lo, hi, ec, hE, hba⟩ := hET hl
   have EN' := Lib.hid (EN 0 (z - f) lo hi ec (.inr ⟨hl, hE⟩))
   have e3 : lineOk ⟨k, R, a, r, n, d, V, e⟩ = true := hLO.2 ⟨g2, hl, (hKK.1 g1).2⟩
   have hn0 : V.length = 0 := by rw [g2]; rfl
   rw [e3, Bool.true_and, hba]
   generalize V.length = N at *
   subst hn0
   replace CN := Lib.hid CN
   replace AT := Lib.hid AT
   clear EN hET hE hba hl hLO hKK e1 e2 SI hkV g2 hT hok hs e3 h
   subst g1
   go_enter Tryz.func171, Tryz.ntmps171
   go_wp2_with fail
   refine region_keeps (w0 := w) (L := [(w.heap.size, 0, .int .i64 kk), (w.heap.size, 1, v), (w.heap.size, 2, .int .i64 a), (w.heap.size, 3, .int .i64 r), (w.heap.size, 4, .int .i64 n), (w.heap.size, 5, .int .i64 d), (w.heap.size, 6, .slice A 0 c), (w.heap.size, 7, .int .i64 e)]) (by kernel_rfl) (by first | exact hHeld | (refine ⟨by go_grown, ?_⟩; simp [Cells, go_sem]; done)) (fun hHeld0 => ?_)
   refine tv 0 7 rfl rfl ?_
   try go_frame
   refine tv 1 8 rfl rfl ?_
   try go_frame
   refine tk 2 9 rfl rfl ?_ ?_ ?_
   rotate_left
   ·intro wq hSw; obtain ⟨⟨_,_,_⟩,⟨_,_,_⟩,⟨_,_,_⟩,⟨_,_,_⟩,⟨_,_,_⟩,⟨_,_,_⟩,⟨_,_,_⟩,⟨_,_,_⟩,_⟩ := hSw.2; go_simp; (try with_reducible rfl)
   try go_frame
   refine tv 4 11 rfl rfl ?_
   try go_frame
   refine tv 5 12 rfl rfl ?_
   try go_frame
   refine tk 6 13 rfl rfl ?_ ?_ ?_
   rotate_left
   ·intro wq hSw; obtain ⟨⟨_,_,_⟩,⟨_,_,_⟩,⟨_,_,_⟩,⟨_,_,_⟩,⟨_,_,_⟩,⟨_,_,_⟩,⟨_,_,_⟩,⟨_,_,_⟩,_⟩ := hSw.2; go_simp; (try with_reducible rfl)
   try go_frame
   refine ty [3] ?_
   refine AllReadyH.cons rfl (fun K hK => ?_) AllReadyH.nil
   go_simp
   ((with_reducible refine (KD.out _).mono ?_); rintro e w1 ⟨rfl, hb⟩)
   refine hK.out _ _ (hHeld0.next hb) (fun hHeld1 => ?_)
   clear hK K; try clear hb
   try go_frame
   refine tv 7 14 rfl rfl ?_
   try go_frame
   refine tv 8 15 rfl rfl ?_
   try go_frame
   refine tv 9 16 rfl rfl ?_
   try go_frame
   refine tv 10 17 rfl rfl ?_
   try go_frame
   refine tk 11 18 rfl rfl ?_ ?_ ?_
   rotate_left
   ·intro wq hSw; obtain ⟨⟨_,_,_⟩,⟨_,_,_⟩,⟨_,_,_⟩,⟨_,_,_⟩,⟨_,_,_⟩,⟨_,_,_⟩,⟨_,_,_⟩,⟨_,_,_⟩,_⟩ := hSw.2; go_simp; (try with_reducible rfl)
   try go_frame
   refine tv 12 19 rfl rfl ?_
   try go_frame
   refine tv 13 20 rfl rfl ?_
   try go_frame
   refine tv 14 21 rfl rfl ?_
   try go_frame
   refine wpAnyH_done (by kernel_rfl) ?_ _
   have hHeld := hHeld1
   obtain ⟨⟨_,_,_⟩,⟨_,_,_⟩,⟨_,_,_⟩,⟨_,_,_⟩,⟨_,_,_⟩,⟨_,_,_⟩,⟨_,_,_⟩,⟨_,_,_⟩,_⟩ := hHeld.2
   all_goals
    go_wp2_with fail
    refine region_keeps (w0 := w) (L := [(w.heap.size, 0, .int .i64 kk), (w.heap.size, 1, v), (w.heap.size, 2, .int .i64 a), (w.heap.size, 3, .int .i64 r), (w.heap.size, 4, .int .i64 n), (w.heap.size, 5, .int .i64 d), (w.heap.size, 6, .slice A 0 c), (w.heap.size, 7, .int .i64 e)]) (by kernel_rfl) hHeld (fun hHeld0 => ?_)
    refine tv 0 23 rfl rfl ?_
    try go_frame
    refine tv 1 24 rfl rfl ?_
    try go_frame
    refine tk 2 25 rfl rfl ?_ ?_ ?_
    rotate_left
    ·intro wq hSw; obtain ⟨⟨_,_,_⟩,⟨_,_,_⟩,⟨_,_,_⟩,⟨_,_,_⟩,⟨_,_,_⟩,⟨_,_,_⟩,⟨_,_,_⟩,⟨_,_,_⟩,_⟩ := hSw.2; go_simp; (try with_reducible rfl)
    try go_frame
    refine tv 3 26 rfl rfl ?_
    try go_frame
    refine tv 4 27 rfl rfl ?_
    try go_frame
    refine tk 5 28 rfl rfl ?_ ?_ ?_
    rotate_left
    ·intro wq hSw; obtain ⟨⟨_,_,_⟩,⟨_,_,_⟩,⟨_,_,_⟩,⟨_,_,_⟩,⟨_,_,_⟩,⟨_,_,_⟩,⟨_,_,_⟩,⟨_,_,_⟩,_⟩ := hSw.2; go_simp; (try with_reducible rfl)
    try go_frame
    refine ty [6] ?_
    refine AllReadyH.cons rfl (fun K hK => ?_) AllReadyH.nil
    go_simp
    (have hB0 := hHeld0.1; (with_reducible refine (CN.out _ hB0).mono ?_); clear hB0; rintro e w1 ⟨rfl, hb⟩)
    refine hK.out _ _ (hHeld0.next hb) (fun hHeld1 => ?_)
    clear hK K; try clear hb
    try go_frame
    refine tv 7 30 rfl rfl ?_
    try go_frame
    refine ty [8] ?_
    refine AllReadyH.cons rfl (fun K hK => ?_) AllReadyH.nil
    go_simp
    ((try rw [hm2]); have hB1 := hHeld1.1; (with_reducible refine (AT.out _ hB1).mono ?_); clear hB1; rintro e w2 ⟨rfl, hb⟩)
    refine hK.out _ _ (hHeld1.next hb) (fun hHeld2 => ?_)
    clear hK K; try clear hb
    try go_frame
    refine tv 9 22 rfl rfl ?_
    try go_frame
    refine tv 10 32 rfl rfl ?_
    try go_frame
    refine tv 11 33 rfl rfl ?_
    try go_frame
    refine tv 12 3 rfl rfl ?_
    try go_frame
    refine tv 13 4 rfl rfl ?_
    try go_frame
    refine wpAnyH_done (by kernel_rfl) ?_ _
    have hHeld := hHeld2
    obtain ⟨⟨_,_,_⟩,⟨_,_,_⟩,⟨_,_,_⟩,⟨_,_,_⟩,⟨_,_,_⟩,⟨_,_,_⟩,⟨_,_,_⟩,⟨_,_,_⟩,_⟩ := hHeld.2
    all_goals
     go_wp2_with fail
     refine region_keeps (w0 := w) (L := [(w.heap.size, 0, .int .i64 kk), (w.heap.size, 1, v), (w.heap.size, 2, .int .i64 a), (w.heap.size, 3, .int .i64 r), (w.heap.size, 4, .int .i64 n), (w.heap.size, 5, .int .i64 d), (w.heap.size, 6, .slice A 0 c), (w.heap.size, 7, .int .i64 e)]) (by kernel_rfl) hHeld (fun hHeld0 => ?_)
     refine tv 0 35 rfl rfl ?_
     try go_frame
     refine tv 1 36 rfl rfl ?_
     try go_frame
     refine tk 2 37 rfl rfl ?_ ?_ ?_
     rotate_left
     ·intro wq hSw; obtain ⟨⟨_,_,_⟩,⟨_,_,_⟩,⟨_,_,_⟩,⟨_,_,_⟩,⟨_,_,_⟩,⟨_,_,_⟩,⟨_,_,_⟩,⟨_,_,_⟩,_⟩ := hSw.2; go_simp; (try with_reducible rfl)
     try go_frame
     refine tk 3 38 rfl rfl ?_ ?_ ?_
     rotate_left
     ·intro wq hSw; obtain ⟨⟨_,_,_⟩,⟨_,_,_⟩,⟨_,_,_⟩,⟨_,_,_⟩,⟨_,_,_⟩,⟨_,_,_⟩,⟨_,_,_⟩,⟨_,_,_⟩,_⟩ := hSw.2; go_simp; (try with_reducible rfl)
     try go_frame
     refine tv 4 39 rfl rfl ?_
     try go_frame
     refine ty [5, 10] ?_
     refine AllReadyH.cons rfl (fun K hK => ?_) ?_
     go_simp
     ((with_reducible refine (SIt.out _ (by first | with_reducible exact kbel hHeld0 | with_reducible exact kbel hHeld1 | with_reducible exact kbel hHeld2 | with_reducible exact kbel hHeld3 | with_reducible exact kbel hHeld4 | with_reducible exact kbel hHeld5 | with_reducible exact kbel hHeld6 | with_reducible exact kbel hHeld7 | with_reducible exact kbel hHeld8 | with_reducible exact kbel hHeld9 | with_reducible exact kbel hHeld10 | with_reducible exact kbel hHeld11)).mono ?_); rintro e w1 ⟨rfl, hb⟩)
     refine hK.out _ _ (hHeld0.next hb) (fun hHeld1 => ?_)
     clear hK K; try clear hb
     try go_frame
     refine ty [6, 10] ?_
     refine AllReadyH.cons rfl (fun K hK => ?_) ?_
     go_simp
     ((with_reducible refine (EN'.out _).mono ?_); rintro e w2 ⟨rfl, hb⟩)
     refine hK.out _ _ (hHeld1.next hb) (fun hHeld2 => ?_)
     clear hK K; try clear hb
     try go_frame
     refine tv 7 34 rfl rfl ?_
     try go_frame
     refine tv 8 42 rfl rfl ?_
     try go_frame
     refine tv 9 43 rfl rfl ?_
     try go_frame
     refine ty [10] ?_
     refine AllReadyH.cons rfl (fun K hK => ?_) AllReadyH.nil
     go_simp
     refine hK.out _ _ (by first | exact hHeld2.alloc _ | exact (hHeld2.alloc _).drew) (fun hHeld3 => ?_)
     first | have hN3 := newK2 hHeld3 | have hN3 := newK2d hHeld3
     clear hK K; try clear hb
     try go_frame
     refine ty [11] ?_
     refine AllReadyH.cons rfl (fun K hK => ?_) AllReadyH.nil
     have hz0 := hHeld2.1.size; obtain ⟨⟨az0,_,_⟩,⟨az1,_,_⟩,⟨az2,_,_⟩,⟨az3,_,_⟩,⟨az4,_,_⟩,⟨az5,_,_⟩,⟨az6,_,_⟩,⟨az7,_,_⟩,_⟩ := hHeld2.2; (try simp at hz0); (try simp at az0); (try simp at az1); (try simp at az2); (try simp at az3); (try simp at az4); (try simp at az5); (try simp at az6); (try simp at az7)
     obtain ⟨⟨t0z0, t0c0, t0f0⟩, ⟨t0z1, t0c1, t0f1⟩, _⟩ := hN3.2; (try simp at t0z0); (try simp at t0c0); (try simp at t0f0); (try simp at t0z1); (try simp at t0c1); (try simp at t0f1)
     go_simp
     refine hK.out _ _ (by first | exact hHeld2.alloc _ | (repeat (first | (with_reducible exact hHeld3) | (with_reducible exact (Keeps.undrewR hHeld3)) | (refine Keeps.set ?_ (by simp <;> omega) (by simp <;> omega) _) | (with_reducible refine Keeps.drew ?_)))) (fun hHeld4 => ?_)
     clear hK K; try clear hb
     try go_frame
     refine tv 12 6 rfl rfl ?_
     try go_frame
     refine wpAnyH_done (by kernel_rfl) ?_ _
     have hHeld := hHeld4
     obtain ⟨⟨_,_,_⟩,⟨_,_,_⟩,⟨_,_,_⟩,⟨_,_,_⟩,⟨_,_,_⟩,⟨_,_,_⟩,⟨_,_,_⟩,⟨_,_,_⟩,_⟩ := hHeld.2
     rotate_left 1
     refine AllReadyH.cons rfl (fun K hK => ?_) ?_
     go_simp
     refine hK.out _ _ (by first | exact hHeld1.alloc _ | exact (hHeld1.alloc _).drew) (fun hHeld5 => ?_)
     first | have hN5 := newK2 hHeld5 | have hN5 := newK2d hHeld5
     clear hK K; try clear hb
     try go_frame
     refine ty [6] ?_
     refine AllReadyH.cons rfl (fun K hK => ?_) AllReadyH.nil
     go_simp
     ((with_reducible refine (EN'.out _).mono ?_); rintro e w2 ⟨rfl, hb⟩)
     refine hK.out _ _ (hHeld5.next hb) (fun hHeld6 => ?_)
     replace hN5 := hN5.next hb
     clear hK K; try clear hb
     try go_frame
     refine tv 7 34 rfl rfl ?_
     try go_frame
     refine tv 8 42 rfl rfl ?_
     try go_frame
     refine tv 9 43 rfl rfl ?_
     try go_frame
     refine ty [11] ?_
     refine AllReadyH.cons rfl (fun K hK => ?_) AllReadyH.nil
     have hz0 := hHeld1.1.size; obtain ⟨⟨az0,_,_⟩,⟨az1,_,_⟩,⟨az2,_,_⟩,⟨az3,_,_⟩,⟨az4,_,_⟩,⟨az5,_,_⟩,⟨az6,_,_⟩,⟨az7,_,_⟩,_⟩ := hHeld1.2; (try simp at hz0); (try simp at az0); (try simp at az1); (try simp at az2); (try simp at az3); (try simp at az4); (try simp at az5); (try simp at az6); (try simp at az7)
     obtain ⟨⟨t0z0, t0c0, t0f0⟩, ⟨t0z1, t0c1, t0f1⟩, _⟩ := hN5.2; (try simp at t0z0); (try simp at t0c0); (try simp at t0f0); (try simp at t0z1); (try simp at t0c1); (try simp at t0f1)
     go_simp
     refine hK.out _ _ (by first | exact hHeld1.alloc _ | (repeat (first | (with_reducible exact hHeld6) | (with_reducible exact (Keeps.undrewR hHeld6)) | (refine Keeps.set ?_ (by simp <;> omega) (by simp <;> omega) _) | (with_reducible refine Keeps.drew ?_)))) (fun hHeld7 => ?_)
     clear hK K; try clear hb
     try go_frame
     refine tv 12 6 rfl rfl ?_
     try go_frame
     refine wpAnyH_done (by kernel_rfl) ?_ _
     have hHeld := hHeld7
     obtain ⟨⟨_,_,_⟩,⟨_,_,_⟩,⟨_,_,_⟩,⟨_,_,_⟩,⟨_,_,_⟩,⟨_,_,_⟩,⟨_,_,_⟩,⟨_,_,_⟩,_⟩ := hHeld.2
     rotate_left 1
     exact AllReadyH.nil
     refine AllReadyH.cons rfl (fun K hK => ?_) ?_
     go_simp
     refine hK.out _ _ (by first | exact hHeld0.alloc _ | exact (hHeld0.alloc _).drew) (fun hHeld8 => ?_)
     first | have hN8 := newK2 hHeld8 | have hN8 := newK2d hHeld8
     clear hK K; try clear hb
     try go_frame
     refine ty [5] ?_
     refine AllReadyH.cons rfl (fun K hK => ?_) AllReadyH.nil
     go_simp
     ((with_reducible refine (SIt.out _ (by first | with_reducible exact kbel hHeld0 | with_reducible exact kbel hHeld1 | with_reducible exact kbel hHeld2 | with_reducible exact kbel hHeld3 | with_reducible exact kbel hHeld4 | with_reducible exact kbel hHeld5 | with_reducible exact kbel hHeld6 | with_reducible exact kbel hHeld7 | with_reducible exact kbel hHeld8 | with_reducible exact kbel hHeld9 | with_reducible exact kbel hHeld10 | with_reducible exact kbel hHeld11)).mono ?_); rintro e w1 ⟨rfl, hb⟩)
     refine hK.out _ _ (hHeld8.next hb) (fun hHeld9 => ?_)
     replace hN8 := hN8.next hb
     clear hK K; try clear hb
     try go_frame
     refine ty [6] ?_
     refine AllReadyH.cons rfl (fun K hK => ?_) AllReadyH.nil
     go_simp
     ((with_reducible refine (EN'.out _).mono ?_); rintro e w2 ⟨rfl, hb⟩)
     refine hK.out _ _ (hHeld9.next hb) (fun hHeld10 => ?_)
     replace hN8 := hN8.next hb
     clear hK K; try clear hb
     try go_frame
     refine tv 7 34 rfl rfl ?_
     try go_frame
     refine tv 8 42 rfl rfl ?_
     try go_frame
     refine tv 9 43 rfl rfl ?_
     try go_frame
     refine ty [11] ?_
     refine AllReadyH.cons rfl (fun K hK => ?_) AllReadyH.nil
     have hz0 := hHeld0.1.size; obtain ⟨⟨az0,_,_⟩,⟨az1,_,_⟩,⟨az2,_,_⟩,⟨az3,_,_⟩,⟨az4,_,_⟩,⟨az5,_,_⟩,⟨az6,_,_⟩,⟨az7,_,_⟩,_⟩ := hHeld0.2; (try simp at hz0); (try simp at az0); (try simp at az1); (try simp at az2); (try simp at az3); (try simp at az4); (try simp at az5); (try simp at az6); (try simp at az7)
     obtain ⟨⟨t0z0, t0c0, t0f0⟩, ⟨t0z1, t0c1, t0f1⟩, _⟩ := hN8.2; (try simp at t0z0); (try simp at t0c0); (try simp at t0f0); (try simp at t0z1); (try simp at t0c1); (try simp at t0f1)
     go_simp
     refine hK.out _ _ (by first | exact hHeld0.alloc _ | (repeat (first | (with_reducible exact hHeld10) | (with_reducible exact (Keeps.undrewR hHeld10)) | (refine Keeps.set ?_ (by simp <;> omega) (by simp <;> omega) _) | (with_reducible refine Keeps.drew ?_)))) (fun hHeld11 => ?_)
     clear hK K; try clear hb
     try go_frame
     refine tv 12 6 rfl rfl ?_
     try go_frame
     refine wpAnyH_done (by kernel_rfl) ?_ _
     have hHeld := hHeld11
     obtain ⟨⟨_,_,_⟩,⟨_,_,_⟩,⟨_,_,_⟩,⟨_,_,_⟩,⟨_,_,_⟩,⟨_,_,_⟩,⟨_,_,_⟩,⟨_,_,_⟩,_⟩ := hHeld.2
     rotate_left 1
     exact AllReadyH.nil
     all_goals
      go_wp2_with fail
      go_ret
      exact ⟨rfl, hHeld.1⟩
  ·have hn1 : 0 < V.length := List.length_pos_iff.2 g2
   have i1 : (0 : Int) < (V.length : Int) := by omega
   have e3 : lineOk ⟨k, R, a, r, n, d, V, e⟩ = false := by rw [← Bool.not_eq_true, hLO]; simp [g2]
   rw [e3, Bool.false_and]
   generalize V.length = N at *
   clear EN hET hLO hKK e1 e2 SI SIt CN AT hkV g2 hT hok hs e3 h
   go_enter Tryz.func171, Tryz.ntmps171
   go_wp2_with fail
   refine region_keeps (w0 := w) (L := [(w.heap.size, 0, .int .i64 k), (w.heap.size, 1, v), (w.heap.size, 2, .int .i64 a), (w.heap.size, 3, .int .i64 r), (w.heap.size, 4, .int .i64 n), (w.heap.size, 5, .int .i64 d), (w.heap.size, 6, .slice A N c), (w.heap.size, 7, .int .i64 e)]) (by kernel_rfl) (by first | exact hHeld | (refine ⟨by go_grown, ?_⟩; simp [Cells, go_sem]; done)) (fun hHeld0 => ?_)
   refine tv 0 7 rfl rfl ?_
   try go_frame
   refine tv 1 8 rfl rfl ?_
   try go_frame
   refine tk 2 9 rfl rfl ?_ ?_ ?_
   rotate_left
   ·intro wq hSw; obtain ⟨⟨_,_,_⟩,⟨_,_,_⟩,⟨_,_,_⟩,⟨_,_,_⟩,⟨_,_,_⟩,⟨_,_,_⟩,⟨_,_,_⟩,⟨_,_,_⟩,_⟩ := hSw.2; go_simp; (try with_reducible rfl)
   try go_frame
   refine tv 4 11 rfl rfl ?_
   try go_frame
   refine tv 5 12 rfl rfl ?_
   try go_frame
   refine tk 6 13 rfl rfl ?_ ?_ ?_
   rotate_left
   ·intro wq hSw; obtain ⟨⟨_,_,_⟩,⟨_,_,_⟩,⟨_,_,_⟩,⟨_,_,_⟩,⟨_,_,_⟩,⟨_,_,_⟩,⟨_,_,_⟩,⟨_,_,_⟩,_⟩ := hSw.2; go_simp; (try with_reducible rfl)
   try go_frame
   refine ty [3] ?_
   refine AllReadyH.cons rfl (fun K hK => ?_) AllReadyH.nil
   go_simp
   ((with_reducible refine (KD.out _).mono ?_); rintro e w1 ⟨rfl, hb⟩)
   refine hK.out _ _ (hHeld0.next hb) (fun hHeld1 => ?_)
   clear hK K; try clear hb
   try go_frame
   refine tv 7 14 rfl rfl ?_
   try go_frame
   refine tv 8 15 rfl rfl ?_
   try go_frame
   refine tv 9 16 rfl rfl ?_
   try go_frame
   refine tv 10 17 rfl rfl ?_
   try go_frame
   refine tk 11 18 rfl rfl ?_ ?_ ?_
   rotate_left
   ·intro wq hSw; obtain ⟨⟨_,_,_⟩,⟨_,_,_⟩,⟨_,_,_⟩,⟨_,_,_⟩,⟨_,_,_⟩,⟨_,_,_⟩,⟨_,_,_⟩,⟨_,_,_⟩,_⟩ := hSw.2; go_simp; (try with_reducible rfl)
   try go_frame
   refine tv 12 19 rfl rfl ?_
   try go_frame
   refine tv 13 20 rfl rfl ?_
   try go_frame
   refine tv 14 21 rfl rfl ?_
   try go_frame
   refine wpAnyH_done (by kernel_rfl) ?_ _
   have hHeld := hHeld1
   obtain ⟨⟨_,_,_⟩,⟨_,_,_⟩,⟨_,_,_⟩,⟨_,_,_⟩,⟨_,_,_⟩,⟨_,_,_⟩,⟨_,_,_⟩,⟨_,_,_⟩,_⟩ := hHeld.2
   all_goals
    go_wp2_with fail
    go_ret
    exact ⟨rfl, hHeld.1⟩
 ·have t1 : (kk != k) = true := by simpa using g1
  have e3 : lineOk ⟨k, R, a, r, n, d, V, e⟩ = false := by
   rw [← Bool.not_eq_true, hLO]
   rintro ⟨_, h2, h3⟩
   exact g1 (hKK.2 ⟨h2, h3⟩)
  rw [e3, Bool.false_and]
  generalize V.length = N at *
  clear EN hET hLO hKK e1 e2 SI SIt CN AT hkV g1 hT hok hs e3 h
  go_enter Tryz.func171, Tryz.ntmps171
  go_wp2_with fail
  refine region_keeps (w0 := w) (L := [(w.heap.size, 0, .int .i64 k), (w.heap.size, 1, v), (w.heap.size, 2, .int .i64 a), (w.heap.size, 3, .int .i64 r), (w.heap.size, 4, .int .i64 n), (w.heap.size, 5, .int .i64 d), (w.heap.size, 6, .slice A N c), (w.heap.size, 7, .int .i64 e)]) (by kernel_rfl) (by first | exact hHeld | (refine ⟨by go_grown, ?_⟩; simp [Cells, go_sem]; done)) (fun hHeld0 => ?_)
  refine tv 0 7 rfl rfl ?_
  try go_frame
  refine tv 1 8 rfl rfl ?_
  try go_frame
  refine tk 2 9 rfl rfl ?_ ?_ ?_
  rotate_left
  ·intro wq hSw; obtain ⟨⟨_,_,_⟩,⟨_,_,_⟩,⟨_,_,_⟩,⟨_,_,_⟩,⟨_,_,_⟩,⟨_,_,_⟩,⟨_,_,_⟩,⟨_,_,_⟩,_⟩ := hSw.2; go_simp; (try with_reducible rfl)
  try go_frame
  refine tv 4 11 rfl rfl ?_
  try go_frame
  refine tv 5 12 rfl rfl ?_
  try go_frame
  refine tk 6 13 rfl rfl ?_ ?_ ?_
  rotate_left
  ·intro wq hSw; obtain ⟨⟨_,_,_⟩,⟨_,_,_⟩,⟨_,_,_⟩,⟨_,_,_⟩,⟨_,_,_⟩,⟨_,_,_⟩,⟨_,_,_⟩,⟨_,_,_⟩,_⟩ := hSw.2; go_simp; (try with_reducible rfl)
  try go_frame
  refine ty [3] ?_
  refine AllReadyH.cons rfl (fun K hK => ?_) AllReadyH.nil
  go_simp
  ((with_reducible refine (KD.out _).mono ?_); rintro e w1 ⟨rfl, hb⟩)
  refine hK.out _ _ (hHeld0.next hb) (fun hHeld1 => ?_)
  clear hK K; try clear hb
  try go_frame
  refine tv 7 14 rfl rfl ?_
  try go_frame
  refine tv 8 15 rfl rfl ?_
  try go_frame
  refine tu 9 16 rfl rfl ?_
  try go_frame
  refine tu 10 17 rfl rfl ?_
  try go_frame
  refine tu 11 18 rfl rfl ?_
  try go_frame
  refine tu 12 19 rfl rfl ?_
  try go_frame
  refine tu 13 20 rfl rfl ?_
  try go_frame
  refine tv 14 21 rfl rfl ?_
  try go_frame
  refine wpAnyH_done (by kernel_rfl) ?_ _
  have hHeld := hHeld1
  obtain ⟨⟨_,_,_⟩,⟨_,_,_⟩,⟨_,_,_⟩,⟨_,_,_⟩,⟨_,_,_⟩,⟨_,_,_⟩,⟨_,_,_⟩,⟨_,_,_⟩,_⟩ := hHeld.2
  all_goals
   go_wp2_with fail
   go_ret
   exact ⟨rfl, hHeld.1⟩
end Go.Proofs.YtcfidimnbamnkaaGreat.P11
