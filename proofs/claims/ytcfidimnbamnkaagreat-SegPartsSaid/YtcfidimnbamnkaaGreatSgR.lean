/-
 Layer 11: a segment without what it shares (apart), Of and Raw. Conditions: those written at each fact.
-/
import Derived.Test.YtcfidimnbamnkaaGreatKitV
import Derived.Test.YtcfidimnbamnkaaGreatKitW
import Derived.Maps.RangeWalk
import Derived.Test.YtcfidimnbamnkaaGreatSgQ
namespace Go.Proofs.YtcfidimnbamnkaaGreat.P11
open Go.RowKit Go.Shelf Go.Proofs.YtcfidimnbamnkaaGreat.P7

set_option maxRecDepth 100000 in
set_option maxHeartbeats 1000000 in
theorem cloneR_any (l : List Rn) (hl : l.length ≤ 1000000) (v : Value) (w : World) (h : ReadsR w v l) : Calls Tryz.prog 94 #[v] w (fun e w' => ∃ A n c, e = .returned (.slice A n c) ∧ Below w.heap.size w w' ∧ w'.ownsRow w.heap.size 44 3 (.slice A n c) l.length (flatR l)) := by
 obtain ⟨i0, hi, hz0, hz1, hz2⟩ := info_parts infoRun
 have hh := h
 obtain ⟨A, c, rfl, hc, hk⟩ := h
 have q : ∀ (w : World) (a : Option Addr) (n c n' c' : Nat), (binOp .eql 22 (.slice a n c) (.slice none n' c')).run Tryz.prog w = .ok (.bool a.isNone) w := fun w a n c n' c' => Lib.run_eql_slice_nil w _ _ a n c n' c' Tryz.underlying22
 cases A with
 | none =>
  have e : l = [] := by
   cases l with
   | nil => rfl
   | cons x l' =>
    obtain ⟨b, off, e1, _⟩ := hk 0 x rfl
    cases e1
  subst e
  clear hk hh
  go_enter Tryz.func94, Tryz.ntmps94
  go_wp2_with fail
  go_ret
  exact ⟨none, 0, 0, rfl, Below.refl _ _, rfl, .inl ⟨rfl, rfl⟩⟩
 | some ad =>
  have HH := Lib.hid hh
  clear hk hh
  go_enter Tryz.func94, Tryz.ntmps94
  go_wp2_with (at_builtin; refine wpList_append_own _ rfl _ _ 22 rfl w.heap.size 44 i0 (.agg #[.int .i64 0, .int .i64 0, .int .i64 0]) 3 24 Tryz.underlying22 hi hz0 hz1 hz2 rfl (by decide) _ _ _ rfl (World.ownsRow_made w #[] 0 (Nat.le_refl _) (Nat.zero_le _) rfl) ad l.length c (flatR l) rfl ?qc1 ?qc2 ?qc3 ?qc4 ?qc5 ?qc6 ?_)
  case qc1 => exact flatR_length l
  case qc2 => exact reads_flatR (HH.out.below (below_alloc w _))
  case qc3 => exact P7.flatR_one l
  case qc4 => unfold maxLen; omega
  case qc5 => omega
  case qc6 => simp
  intro v' w1 hown hgrow _
  obtain ⟨A9, n9, c9, rfl⟩ := own_sl hown
  have hB : Below w.heap.size w w1 := ((Below.refl _ w).alloc (Nat.le_refl _) _).grown hgrow (by simp) (by intro k hk; simp [Value.ownBlock] at hk; omega)
  replace hown := Lib.hid hown
  clear HH hgrow
  go_wp2_with fail
  go_ret
  exact ⟨A9, n9, c9, rfl, hB, by simpa using hown.out⟩
set_option maxRecDepth 100000 in
set_option maxHeartbeats 1000000 in
theorem cloneI_any (l : List Int) (hl : l.length ≤ 1000000) (v : Value) (w : World) (h : Reads .i64 w v l) : Calls Tryz.prog 95 #[v] w (fun e w' => ∃ A n c, e = .returned (.slice A n c) ∧ Below w.heap.size w w' ∧ w'.ownsRow w.heap.size 2 1 (.slice A n c) l.length (l.map (Value.int .i64))) := by
 obtain ⟨i0, hi, hz0, hz1, hz2⟩ := info_parts infoI64
 have hh := h
 obtain ⟨A, c, rfl, hc, hk⟩ := h
 have q : ∀ (w : World) (a : Option Addr) (n c n' c' : Nat), (binOp .eql 25 (.slice a n c) (.slice none n' c')).run Tryz.prog w = .ok (.bool a.isNone) w := fun w a n c n' c' => Lib.run_eql_slice_nil w _ _ a n c n' c' Tryz.underlying25
 cases A with
 | none =>
  have e : l = [] := by
   cases l with
   | nil => rfl
   | cons x l' =>
    obtain ⟨b, off, e1, _⟩ := hk 0 x rfl
    cases e1
  subst e
  clear hk hh
  go_enter Tryz.func95, Tryz.ntmps95
  go_wp2_with fail
  go_ret
  exact ⟨none, 0, 0, rfl, Below.refl _ _, rfl, .inl ⟨rfl, rfl⟩⟩
 | some ad =>
  have HH := Lib.hid hh
  clear hk hh
  go_enter Tryz.func95, Tryz.ntmps95
  go_wp2_with (at_builtin; refine wpList_append_own _ rfl _ _ 25 rfl w.heap.size 2 i0 (.int .i64 0) 1 8 Tryz.underlying25 hi hz0 hz1 hz2 rfl (by decide) _ _ _ rfl (World.ownsRow_made w #[] 0 (Nat.le_refl _) (Nat.zero_le _) rfl) ad l.length c (l.map (Value.int .i64)) rfl ?qc1 ?qc2 ?qc3 ?qc4 ?qc5 ?qc6 ?_)
  case qc1 => simp
  case qc2 => exact reads_addI (HH.out.below (below_alloc w _))
  case qc3 => exact P7.ints_one l
  case qc4 => unfold maxLen; omega
  case qc5 => omega
  case qc6 => simp
  intro v' w1 hown hgrow _
  obtain ⟨A9, n9, c9, rfl⟩ := own_sl hown
  have hB : Below w.heap.size w w1 := ((Below.refl _ w).alloc (Nat.le_refl _) _).grown hgrow (by simp) (by intro k hk; simp [Value.ownBlock] at hk; omega)
  replace hown := Lib.hid hown
  clear HH hgrow
  go_wp2_with fail
  go_ret
  exact ⟨A9, n9, c9, rfl, hB, by simpa using hown.out⟩
def GotS (w : World) (s : Sg) (e : Ending) (w' : World) : Prop := ∃ v u, e = .returned (.tuple #[sgV s.k v s.a s.r s.n s.d u s.e, .int .i64 0]) ∧ Below w.heap.size w w' ∧ Own2 w' w.heap.size s v u
abbrev zeroV : Value := sgV 0 (.slice none 0 0) 0 0 0 0 (.slice none 0 0) 0
abbrev zeroL (B : Nat) : List (Nat × Nat × Value) := [(B, 0, .int .i64 0), (B, 1, .slice none 0 0), (B, 2, .int .i64 0), (B, 3, .int .i64 0), (B, 4, .int .i64 0), (B, 5, .int .i64 0), (B, 6, .slice none 0 0), (B, 7, .int .i64 0)]
theorem store8 {w W : World} {B : Nat} (hB : Below w.heap.size w W) (hw : w.heap.size ≤ B) (x0 x1 x2 x3 x4 x5 x6 x7 : Value) : Below w.heap.size w ((((((((W.setCell ⟨B, 0, none⟩ x0).setCell ⟨B, 1, none⟩ x1).setCell ⟨B, 2, none⟩ x2).setCell ⟨B, 3, none⟩ x3).setCell ⟨B, 4, none⟩ x4).setCell ⟨B, 5, none⟩ x5).setCell ⟨B, 6, none⟩ x6).setCell ⟨B, 7, none⟩ x7) :=
 (((((((hB.setCell hw _).setCell hw _).setCell hw _).setCell hw _).setCell hw _).setCell hw _).setCell hw _).setCell hw _
theorem owns8 {W : World} {B B' m : Nat} {e : TypeId} {size n : Nat} {v : Value} {xs : List Value} (hr : W.ownsRow m e size v n xs) (hB : B < m) (hm : B' ≤ m) (x0 x1 x2 x3 x4 x5 x6 x7 : Value) : ((((((((W.setCell ⟨B, 0, none⟩ x0).setCell ⟨B, 1, none⟩ x1).setCell ⟨B, 2, none⟩ x2).setCell ⟨B, 3, none⟩ x3).setCell ⟨B, 4, none⟩ x4).setCell ⟨B, 5, none⟩ x5).setCell ⟨B, 6, none⟩ x6).setCell ⟨B, 7, none⟩ x7).ownsRow B' e size v n xs :=
 owns_less (owns_low (owns_low (owns_low (owns_low (owns_low (owns_low (owns_low (owns_low hr hB x0) hB x1) hB x2) hB x3) hB x4) hB x5) hB x6) hB x7) hm
set_option maxRecDepth 100000 in
set_option maxHeartbeats 4000000 in
theorem apart_any (s : Sg) (hR : s.R.length ≤ 1000000) (hV : s.V.length ≤ 1000000) (v u : Value) (w : World) (h : ReadsR w v s.R) (hu : Reads .i64 w u s.V) :
  Calls Tryz.prog 70 #[sgV s.k v s.a s.r s.n s.d u s.e] w (GotS w s) := by
 obtain ⟨k, R, a, r, n, d, V, e⟩ := s
 simp only at *
 have lz : ∀ W, Keeps w (zeroL (w.heap.size + 1)) W → w.heap.size + 2 ≤ W.heap.size := fun W hk => hk.2.1.1
 have C1 := Lib.hid (fun W (hk : Keeps w (zeroL (w.heap.size + 1)) W) => (cloneR_any R hR v W (h.below hk.1)).mono (fun _ _ ⟨A, n, c, e1, e2, e3⟩ => (⟨A, n, c, e1, e2, owns_less e3 (lz W hk)⟩ : ∃ A n c, _ = Ending.returned (.slice A n c) ∧ Below W.heap.size W _ ∧ World.ownsRow _ (w.heap.size + 2) 44 3 (.slice A n c) R.length (flatR R))))
 have C2 := Lib.hid (fun W (hk : Keeps w (zeroL (w.heap.size + 1)) W) => (cloneI_any V hV u W (hu.below hk.1)).mono (fun _ _ ⟨A, n, c, e1, e2, e3⟩ => (⟨A, n, c, e1, e2, owns_less e3 (lz W hk)⟩ : ∃ A n c, _ = Ending.returned (.slice A n c) ∧ Below W.heap.size W _ ∧ World.ownsRow _ (w.heap.size + 2) 2 1 (.slice A n c) V.length (V.map (Value.int .i64)))))
 clear h hu hR hV lz
 go_enter Tryz.func70, Tryz.ntmps70
 go_wp2_with fail
 refine region_keepsB (w0 := w) (L := [(w.heap.size + 1, 0, .int .i64 0), (w.heap.size + 1, 1, .slice none 0 0), (w.heap.size + 1, 2, .int .i64 0), (w.heap.size + 1, 3, .int .i64 0), (w.heap.size + 1, 4, .int .i64 0), (w.heap.size + 1, 5, .int .i64 0), (w.heap.size + 1, 6, .slice none 0 0), (w.heap.size + 1, 7, .int .i64 0)]) (M := [(w.heap.size, 0, .int .i64 k), (w.heap.size, 1, v), (w.heap.size, 2, .int .i64 a), (w.heap.size, 3, .int .i64 r), (w.heap.size, 4, .int .i64 n), (w.heap.size, 5, .int .i64 d), (w.heap.size, 6, u), (w.heap.size, 7, .int .i64 e)]) (by kernel_rfl) (by first | exact hHeld | (refine ⟨by go_grown, ?_⟩; simp [Cells, go_sem]; done)) (by first | exact hHeld | (refine ⟨by go_grown, ?_⟩; simp [Cells, go_sem]; done)) (fun hHeld0 hT0 => ?_)
 refine tv 0 4 rfl rfl ?_
 try go_frame
 refine tv 1 5 rfl rfl ?_
 try go_frame
 refine tv 4 8 rfl rfl ?_
 try go_frame
 refine tv 5 9 rfl rfl ?_
 try go_frame
 refine ty [2, 6] ?_
 refine AllReadyH.cons rfl (fun K hK => ?_) ?_
 obtain ⟨⟨kz0,kc0,kf0⟩,⟨kz1,kc1,kf1⟩,⟨kz2,kc2,kf2⟩,⟨kz3,kc3,kf3⟩,⟨kz4,kc4,kf4⟩,⟨kz5,kc5,kf5⟩,⟨kz6,kc6,kf6⟩,⟨kz7,kc7,kf7⟩,_⟩ := hHeld0.2
 obtain ⟨⟨t0z0,t0c0,t0f0⟩,⟨t0z1,t0c1,t0f1⟩,⟨t0z2,t0c2,t0f2⟩,⟨t0z3,t0c3,t0f3⟩,⟨t0z4,t0c4,t0f4⟩,⟨t0z5,t0c5,t0f5⟩,⟨t0z6,t0c6,t0f6⟩,⟨t0z7,t0c7,t0f7⟩,_⟩ := hT0.2
 go_simp
 refine hK.out _ _ hHeld0 (fun hHeld1 => ?_)
 clear hK K; try clear hb
 try go_frame
 refine ty [3, 6] ?_
 refine AllReadyH.cons rfl (fun K hK => ?_) ?_
 go_simp
 ((with_reducible refine (C1.out _ (by assumption)).mono ?_); rintro e w1 ⟨A1, n1, c1, rfl, hb, ho1⟩; (try replace ho2 := owns_below ho2 hb))
 refine hK.out _ _ (hHeld1.next hb) (fun hHeld2 => ?_)
 replace hT0 := hT0.next hb
 clear hK K; try clear hb
 try go_frame
 refine tw 6 rfl fun K hK => ?_
 obtain ⟨⟨kz0,kc0,kf0⟩,⟨kz1,kc1,kf1⟩,⟨kz2,kc2,kf2⟩,⟨kz3,kc3,kf3⟩,⟨kz4,kc4,kf4⟩,⟨kz5,kc5,kf5⟩,⟨kz6,kc6,kf6⟩,⟨kz7,kc7,kf7⟩,_⟩ := hHeld2.2
 obtain ⟨⟨t0z0,t0c0,t0f0⟩,⟨t0z1,t0c1,t0f1⟩,⟨t0z2,t0c2,t0f2⟩,⟨t0z3,t0c3,t0f3⟩,⟨t0z4,t0c4,t0f4⟩,⟨t0z5,t0c5,t0f5⟩,⟨t0z6,t0c6,t0f6⟩,⟨t0z7,t0c7,t0f7⟩,_⟩ := hT0.2
 go_simp
 refine hK.out _ _ hHeld2 (fun hHeld3 => ?_)
 clear hK K; try clear hb
 try go_frame
 refine tv 8 12 rfl rfl ?_
 try go_frame
 refine tv 9 13 rfl rfl ?_
 try go_frame
 refine tw 7 rfl fun K hK => ?_
 go_simp
 ((with_reducible refine (C2.out _ (by assumption)).mono ?_); rintro e w2 ⟨A2, n2, c2, rfl, hb, ho2⟩; (try replace ho1 := owns_below ho1 hb))
 refine hK.out _ _ (hHeld3.next hb) (fun hHeld4 => ?_)
 replace hT0 := hT0.next hb
 clear hK K; try clear hb
 try go_frame
 refine tw 10 rfl fun K hK => ?_
 obtain ⟨⟨t0z0,t0c0,t0f0⟩,⟨t0z1,t0c1,t0f1⟩,⟨t0z2,t0c2,t0f2⟩,⟨t0z3,t0c3,t0f3⟩,⟨t0z4,t0c4,t0f4⟩,⟨t0z5,t0c5,t0f5⟩,⟨t0z6,t0c6,t0f6⟩,⟨t0z7,t0c7,t0f7⟩,_⟩ := hT0.2; (try simp at t0z0); (try simp at t0c0); (try simp at t0f0); (try simp at t0z1); (try simp at t0c1); (try simp at t0f1); (try simp at t0z2); (try simp at t0c2); (try simp at t0f2); (try simp at t0z3); (try simp at t0c3); (try simp at t0f3); (try simp at t0z4); (try simp at t0c4); (try simp at t0f4); (try simp at t0z5); (try simp at t0c5); (try simp at t0f5); (try simp at t0z6); (try simp at t0c6); (try simp at t0f6); (try simp at t0z7); (try simp at t0c7); (try simp at t0f7)
 go_simp
 refine hK.out _ _ (by first | exact hHeld4.alloc _ | (repeat (first | (with_reducible exact hHeld4) | (with_reducible exact (Keeps.undrewR hHeld4)) | (refine Keeps.set ?_ (by simp <;> omega) (by simp <;> omega) _) | (with_reducible refine Keeps.drew ?_)))) (fun hHeld5 => ?_)
 clear hK K; try clear hb
 try go_frame
 refine tv 11 14 rfl rfl ?_
 try go_frame
 refine tv 12 15 rfl rfl ?_
 try go_frame
 refine tw 13 rfl fun K hK => ?_
 go_simp
 refine hK.out _ _ (by first | exact hHeld5.alloc _ | (repeat (first | (with_reducible exact hHeld5) | (with_reducible exact (Keeps.undrewR hHeld5)) | (refine Keeps.set ?_ (by simp <;> omega) (by simp <;> omega) _) | (with_reducible refine Keeps.drew ?_)))) (fun hHeld6 => ?_)
 clear hK K; try clear hb
 try go_frame
 refine wpAnyH_done (by kernel_rfl) ?_ _
 have hHeld := hHeld6
 obtain ⟨⟨kz0,kc0,kf0⟩,⟨kz1,kc1,kf1⟩,⟨kz2,kc2,kf2⟩,⟨kz3,kc3,kf3⟩,⟨kz4,kc4,kf4⟩,⟨kz5,kc5,kf5⟩,⟨kz6,kc6,kf6⟩,⟨kz7,kc7,kf7⟩,_⟩ := hHeld.2
 rotate_left 1
 refine AllReadyH.cons rfl (fun K hK => ?_) ?_
 obtain ⟨⟨kz0,kc0,kf0⟩,⟨kz1,kc1,kf1⟩,⟨kz2,kc2,kf2⟩,⟨kz3,kc3,kf3⟩,⟨kz4,kc4,kf4⟩,⟨kz5,kc5,kf5⟩,⟨kz6,kc6,kf6⟩,⟨kz7,kc7,kf7⟩,_⟩ := hHeld1.2
 obtain ⟨⟨t0z0,t0c0,t0f0⟩,⟨t0z1,t0c1,t0f1⟩,⟨t0z2,t0c2,t0f2⟩,⟨t0z3,t0c3,t0f3⟩,⟨t0z4,t0c4,t0f4⟩,⟨t0z5,t0c5,t0f5⟩,⟨t0z6,t0c6,t0f6⟩,⟨t0z7,t0c7,t0f7⟩,_⟩ := hT0.2
 go_simp
 refine hK.out _ _ hHeld1 (fun hHeld7 => ?_)
 clear hK K; try clear hb
 try go_frame
 refine tw 3 rfl fun K hK => ?_
 go_simp
 ((with_reducible refine (C1.out _ (by assumption)).mono ?_); rintro e w1 ⟨A1, n1, c1, rfl, hb, ho1⟩; (try replace ho2 := owns_below ho2 hb))
 refine hK.out _ _ (hHeld7.next hb) (fun hHeld8 => ?_)
 replace hT0 := hT0.next hb
 clear hK K; try clear hb
 try go_frame
 refine tv 8 12 rfl rfl ?_
 try go_frame
 refine tv 9 13 rfl rfl ?_
 try go_frame
 refine tw 7 rfl fun K hK => ?_
 go_simp
 ((with_reducible refine (C2.out _ (by assumption)).mono ?_); rintro e w2 ⟨A2, n2, c2, rfl, hb, ho2⟩; (try replace ho1 := owns_below ho1 hb))
 refine hK.out _ _ (hHeld8.next hb) (fun hHeld9 => ?_)
 replace hT0 := hT0.next hb
 clear hK K; try clear hb
 try go_frame
 refine tw 10 rfl fun K hK => ?_
 obtain ⟨⟨t0z0,t0c0,t0f0⟩,⟨t0z1,t0c1,t0f1⟩,⟨t0z2,t0c2,t0f2⟩,⟨t0z3,t0c3,t0f3⟩,⟨t0z4,t0c4,t0f4⟩,⟨t0z5,t0c5,t0f5⟩,⟨t0z6,t0c6,t0f6⟩,⟨t0z7,t0c7,t0f7⟩,_⟩ := hT0.2; (try simp at t0z0); (try simp at t0c0); (try simp at t0f0); (try simp at t0z1); (try simp at t0c1); (try simp at t0f1); (try simp at t0z2); (try simp at t0c2); (try simp at t0f2); (try simp at t0z3); (try simp at t0c3); (try simp at t0f3); (try simp at t0z4); (try simp at t0c4); (try simp at t0f4); (try simp at t0z5); (try simp at t0c5); (try simp at t0f5); (try simp at t0z6); (try simp at t0c6); (try simp at t0f6); (try simp at t0z7); (try simp at t0c7); (try simp at t0f7)
 go_simp
 refine hK.out _ _ (by first | exact hHeld9.alloc _ | (repeat (first | (with_reducible exact hHeld9) | (with_reducible exact (Keeps.undrewR hHeld9)) | (refine Keeps.set ?_ (by simp <;> omega) (by simp <;> omega) _) | (with_reducible refine Keeps.drew ?_)))) (fun hHeld10 => ?_)
 clear hK K; try clear hb
 try go_frame
 refine tv 11 14 rfl rfl ?_
 try go_frame
 refine tv 12 15 rfl rfl ?_
 try go_frame
 refine tw 13 rfl fun K hK => ?_
 go_simp
 refine hK.out _ _ (by first | exact hHeld10.alloc _ | (repeat (first | (with_reducible exact hHeld10) | (with_reducible exact (Keeps.undrewR hHeld10)) | (refine Keeps.set ?_ (by simp <;> omega) (by simp <;> omega) _) | (with_reducible refine Keeps.drew ?_)))) (fun hHeld11 => ?_)
 clear hK K; try clear hb
 try go_frame
 refine wpAnyH_done (by kernel_rfl) ?_ _
 have hHeld := hHeld11
 obtain ⟨⟨kz0,kc0,kf0⟩,⟨kz1,kc1,kf1⟩,⟨kz2,kc2,kf2⟩,⟨kz3,kc3,kf3⟩,⟨kz4,kc4,kf4⟩,⟨kz5,kc5,kf5⟩,⟨kz6,kc6,kf6⟩,⟨kz7,kc7,kf7⟩,_⟩ := hHeld.2
 rotate_left 1
 exact AllReadyH.nil
 refine AllReadyH.cons rfl (fun K hK => ?_) ?_
 obtain ⟨⟨kz0,kc0,kf0⟩,⟨kz1,kc1,kf1⟩,⟨kz2,kc2,kf2⟩,⟨kz3,kc3,kf3⟩,⟨kz4,kc4,kf4⟩,⟨kz5,kc5,kf5⟩,⟨kz6,kc6,kf6⟩,⟨kz7,kc7,kf7⟩,_⟩ := hHeld0.2
 obtain ⟨⟨t0z0,t0c0,t0f0⟩,⟨t0z1,t0c1,t0f1⟩,⟨t0z2,t0c2,t0f2⟩,⟨t0z3,t0c3,t0f3⟩,⟨t0z4,t0c4,t0f4⟩,⟨t0z5,t0c5,t0f5⟩,⟨t0z6,t0c6,t0f6⟩,⟨t0z7,t0c7,t0f7⟩,_⟩ := hT0.2
 go_simp
 refine hK.out _ _ hHeld0 (fun hHeld12 => ?_)
 clear hK K; try clear hb
 try go_frame
 refine tw 2 rfl fun K hK => ?_
 obtain ⟨⟨kz0,kc0,kf0⟩,⟨kz1,kc1,kf1⟩,⟨kz2,kc2,kf2⟩,⟨kz3,kc3,kf3⟩,⟨kz4,kc4,kf4⟩,⟨kz5,kc5,kf5⟩,⟨kz6,kc6,kf6⟩,⟨kz7,kc7,kf7⟩,_⟩ := hHeld12.2
 obtain ⟨⟨t0z0,t0c0,t0f0⟩,⟨t0z1,t0c1,t0f1⟩,⟨t0z2,t0c2,t0f2⟩,⟨t0z3,t0c3,t0f3⟩,⟨t0z4,t0c4,t0f4⟩,⟨t0z5,t0c5,t0f5⟩,⟨t0z6,t0c6,t0f6⟩,⟨t0z7,t0c7,t0f7⟩,_⟩ := hT0.2
 go_simp
 refine hK.out _ _ hHeld12 (fun hHeld13 => ?_)
 clear hK K; try clear hb
 try go_frame
 refine tw 3 rfl fun K hK => ?_
 go_simp
 ((with_reducible refine (C1.out _ (by assumption)).mono ?_); rintro e w1 ⟨A1, n1, c1, rfl, hb, ho1⟩; (try replace ho2 := owns_below ho2 hb))
 refine hK.out _ _ (hHeld13.next hb) (fun hHeld14 => ?_)
 replace hT0 := hT0.next hb
 clear hK K; try clear hb
 try go_frame
 refine tv 8 12 rfl rfl ?_
 try go_frame
 refine tv 9 13 rfl rfl ?_
 try go_frame
 refine tw 7 rfl fun K hK => ?_
 go_simp
 ((with_reducible refine (C2.out _ (by assumption)).mono ?_); rintro e w2 ⟨A2, n2, c2, rfl, hb, ho2⟩; (try replace ho1 := owns_below ho1 hb))
 refine hK.out _ _ (hHeld14.next hb) (fun hHeld15 => ?_)
 replace hT0 := hT0.next hb
 clear hK K; try clear hb
 try go_frame
 refine tw 10 rfl fun K hK => ?_
 obtain ⟨⟨t0z0,t0c0,t0f0⟩,⟨t0z1,t0c1,t0f1⟩,⟨t0z2,t0c2,t0f2⟩,⟨t0z3,t0c3,t0f3⟩,⟨t0z4,t0c4,t0f4⟩,⟨t0z5,t0c5,t0f5⟩,⟨t0z6,t0c6,t0f6⟩,⟨t0z7,t0c7,t0f7⟩,_⟩ := hT0.2; (try simp at t0z0); (try simp at t0c0); (try simp at t0f0); (try simp at t0z1); (try simp at t0c1); (try simp at t0f1); (try simp at t0z2); (try simp at t0c2); (try simp at t0f2); (try simp at t0z3); (try simp at t0c3); (try simp at t0f3); (try simp at t0z4); (try simp at t0c4); (try simp at t0f4); (try simp at t0z5); (try simp at t0c5); (try simp at t0f5); (try simp at t0z6); (try simp at t0c6); (try simp at t0f6); (try simp at t0z7); (try simp at t0c7); (try simp at t0f7)
 go_simp
 refine hK.out _ _ (by first | exact hHeld15.alloc _ | (repeat (first | (with_reducible exact hHeld15) | (with_reducible exact (Keeps.undrewR hHeld15)) | (refine Keeps.set ?_ (by simp <;> omega) (by simp <;> omega) _) | (with_reducible refine Keeps.drew ?_)))) (fun hHeld16 => ?_)
 clear hK K; try clear hb
 try go_frame
 refine tv 11 14 rfl rfl ?_
 try go_frame
 refine tv 12 15 rfl rfl ?_
 try go_frame
 refine tw 13 rfl fun K hK => ?_
 go_simp
 refine hK.out _ _ (by first | exact hHeld16.alloc _ | (repeat (first | (with_reducible exact hHeld16) | (with_reducible exact (Keeps.undrewR hHeld16)) | (refine Keeps.set ?_ (by simp <;> omega) (by simp <;> omega) _) | (with_reducible refine Keeps.drew ?_)))) (fun hHeld17 => ?_)
 clear hK K; try clear hb
 try go_frame
 refine wpAnyH_done (by kernel_rfl) ?_ _
 have hHeld := hHeld17
 obtain ⟨⟨kz0,kc0,kf0⟩,⟨kz1,kc1,kf1⟩,⟨kz2,kc2,kf2⟩,⟨kz3,kc3,kf3⟩,⟨kz4,kc4,kf4⟩,⟨kz5,kc5,kf5⟩,⟨kz6,kc6,kf6⟩,⟨kz7,kc7,kf7⟩,_⟩ := hHeld.2
 rotate_left 1
 exact AllReadyH.nil
 all_goals
  have hX := kupd (M := [(w.heap.size, 0, .int .i64 k), (w.heap.size, 1, .slice A1 n1 c1), (w.heap.size, 2, .int .i64 a), (w.heap.size, 3, .int .i64 r), (w.heap.size, 4, .int .i64 n), (w.heap.size, 5, .int .i64 d), (w.heap.size, 6, u), (w.heap.size, 7, .int .i64 e)]) hT0 t0c1 (Nat.le_refl _) (.slice A1 n1 c1) (by simp [updL])
  have hY := kupd (M := [(w.heap.size, 0, .int .i64 k), (w.heap.size, 1, .slice A1 n1 c1), (w.heap.size, 2, .int .i64 a), (w.heap.size, 3, .int .i64 r), (w.heap.size, 4, .int .i64 n), (w.heap.size, 5, .int .i64 d), (w.heap.size, 6, .slice A2 n2 c2), (w.heap.size, 7, .int .i64 e)]) hX (off_cell (by simp) t0c6) (Nat.le_refl _) (.slice A2 n2 c2) (by simp [updL])
  have hr := owns_low (i := 6) (owns_low (i := 1) ho1 (show w.heap.size < w.heap.size + 2 by omega) (.slice A1 n1 c1)) (show w.heap.size < w.heap.size + 2 by omega) (.slice A2 n2 c2)
  have hv := owns_low (i := 6) (owns_low (i := 1) ho2 (show w.heap.size < w.heap.size + 2 by omega) (.slice A1 n1 c1)) (show w.heap.size < w.heap.size + 2 by omega) (.slice A2 n2 c2)
  have hH := hHeld
  clear C1 C2 ho1 ho2 hX hT0 hHeld hHeld0 t0c0 t0c1 t0c2 t0c3 t0c4 t0c5 t0c6 t0c7 t0f0 t0f1 t0f2 t0f3 t0f4 t0f5 t0f6 t0f7 t0z0 t0z1 t0z2 t0z3 t0z4 t0z5 t0z6 t0z7
  (try clear hHeld0); (try clear hHeld1); (try clear hHeld2); (try clear hHeld3); (try clear hHeld4); (try clear hHeld5); (try clear hHeld6); (try clear hHeld7); (try clear hHeld8); (try clear hHeld9); (try clear hHeld10); (try clear hHeld11); (try clear hHeld12); (try clear hHeld13); (try clear hT0); (try clear kz0 kc0 kf0); (try clear kz1 kc1 kf1); (try clear kz2 kc2 kf2); (try clear kz3 kc3 kf3); (try clear kz4 kc4 kf4); (try clear kz5 kc5 kf5); (try clear kz6 kc6 kf6); (try clear kz7 kc7 kf7); (try clear t0z0 t0c0 t0f0); (try clear t0z1 t0c1 t0f1)
  generalize (w2.setCell ⟨w.heap.size, 1, none⟩ (.slice A1 n1 c1)).setCell ⟨w.heap.size, 6, none⟩ (.slice A2 n2 c2) = w3 at *
  obtain ⟨⟨kz0,kc0,kf0⟩,⟨kz1,kc1,kf1⟩,⟨kz2,kc2,kf2⟩,⟨kz3,kc3,kf3⟩,⟨kz4,kc4,kf4⟩,⟨kz5,kc5,kf5⟩,⟨kz6,kc6,kf6⟩,⟨kz7,kc7,kf7⟩,_⟩ := hH.2
  obtain ⟨⟨_,_,_⟩,⟨_,_,_⟩,⟨_,_,_⟩,⟨_,_,_⟩,⟨_,_,_⟩,⟨_,_,_⟩,⟨_,_,_⟩,⟨_,_,_⟩,_⟩ := hY.2
  obtain ⟨d0, d1, d2, d3, d4, d5, d6, d7⟩ := set8 (u0 := .int .i64 k) (u1 := .slice A1 n1 c1) (u2 := .int .i64 a) (u3 := .int .i64 r) (u4 := .int .i64 n) (u5 := .int .i64 d) (u6 := .slice A2 n2 c2) (u7 := .int .i64 e) kc0 kc1 kc2 kc3 kc4 kc5 kc6 kc7
  have hP := Lib.hid (store8 hH.1 (Nat.le_succ w.heap.size))
  have hr2 := Lib.hid (owns8 (B' := w.heap.size) hr (Nat.lt_succ_self (w.heap.size + 1)) (by omega))
  have hv2 := Lib.hid (owns8 (B' := w.heap.size) hv (Nat.lt_succ_self (w.heap.size + 1)) (by omega))
  clear hH hY hr hv
  go_wp2_with fail
  refine bodyPost_ret (v := .tuple #[sgV k (.slice A1 n1 c1) a r n d (.slice A2 n2 c2) e, .int .i64 0]) (by simp [results, Tryz.results70, go_sem, d0, d1, d2, d3, d4, d5, d6, d7]) rfl ?_
  exact ⟨_, _, rfl, hP.out _ _ _ _ _ _ _ _, ⟨hr2.out _ _ _ _ _ _ _ _, hv2.out _ _ _ _ _ _ _ _⟩⟩
def MadeS (w : World) (s : Sg) (e : Ending) (w' : World) : Prop := if segB s then GotS w s e w' else e = .returned (.tuple #[zeroV, .int .i64 210]) ∧ Below w.heap.size w w'
set_option maxRecDepth 100000 in
set_option maxHeartbeats 4000000 in
theorem ofS_any (s : Sg) (hR : s.R.length ≤ 1000000) (hV : s.V.length ≤ 1000000) (v u : Value) (w : World) (h : ReadsR w v s.R) (hu : Reads .i64 w u s.V) :
  Calls Tryz.prog 69 #[sgV s.k v s.a s.r s.n s.d u s.e, fnV 70] w (MadeS w s) := by
 have CK := fun W (hb : Below w.heap.size w W) => check_any s hR hV v u W (h.below hb) (hu.below hb)
 have AP := Lib.hid (fun W (hb : Below w.heap.size w W) => apart_any s hR hV v u W (h.below hb) (hu.below hb))
 unfold MadeS
 unfold GotS at AP ⊢
 clear h hu hR hV
 cases g : segB s
 ·rw [g] at CK
  obtain ⟨k, R, a, r, n, d, V, e⟩ := s
  replace CK := Lib.hid CK
  simp only [Bool.false_eq_true, if_false]
  have hK : Keeps w [(w.heap.size, 0, .int .i64 k), (w.heap.size, 1, v), (w.heap.size, 2, .int .i64 a), (w.heap.size, 3, .int .i64 r), (w.heap.size, 4, .int .i64 n), (w.heap.size, 5, .int .i64 d), (w.heap.size, 6, u), (w.heap.size, 7, .int .i64 e), (w.heap.size + 1, 0, .int .i64 0), (w.heap.size + 1, 1, .slice none 0 0), (w.heap.size + 1, 2, .int .i64 0), (w.heap.size + 1, 3, .int .i64 0), (w.heap.size + 1, 4, .int .i64 0), (w.heap.size + 1, 5, .int .i64 0), (w.heap.size + 1, 6, .slice none 0 0), (w.heap.size + 1, 7, .int .i64 0)] ((w.alloc (sgO 27 k v a r n d u e)).alloc (.cells #[.int .i64 0, .slice none 0 0, .int .i64 0, .int .i64 0, .int .i64 0, .int .i64 0, .slice none 0 0, .int .i64 0] 27)) := by
   refine ⟨by go_grown, ?_⟩
   simp [Cells, go_sem]
  clear AP g
  go_enter Tryz.func69, Tryz.ntmps69
  go_wp2_with fail
  refine (CK.out _ hK.1).mono ?_
  rintro e w1 ⟨rfl, hb⟩
  replace hK := hK.next hb
  clear hb
  have hN : Keeps w [(w1.heap.size, 0, .int .i64 0), (w1.heap.size, 1, .slice none 0 0), (w1.heap.size, 2, .int .i64 0), (w1.heap.size, 3, .int .i64 0), (w1.heap.size, 4, .int .i64 0), (w1.heap.size, 5, .int .i64 0), (w1.heap.size, 6, .slice none 0 0), (w1.heap.size, 7, .int .i64 0), (w.heap.size + 1, 0, .int .i64 0), (w.heap.size + 1, 1, .slice none 0 0), (w.heap.size + 1, 2, .int .i64 0), (w.heap.size + 1, 3, .int .i64 0), (w.heap.size + 1, 4, .int .i64 0), (w.heap.size + 1, 5, .int .i64 0), (w.heap.size + 1, 6, .slice none 0 0), (w.heap.size + 1, 7, .int .i64 0)] (w1.alloc (.cells #[.int .i64 0, .slice none 0 0, .int .i64 0, .int .i64 0, .int .i64 0, .int .i64 0, .slice none 0 0, .int .i64 0] 27)) :=
   Keeps.app (l := zeroL w1.heap.size) ⟨(hK.alloc _).1, by simp [Cells, go_sem]⟩ ((hK.alloc _).sub (by simp))
  have hlz : w.heap.size + 1 < w1.heap.size := by obtain ⟨_, _, _, _, _, _, _, _, _, ⟨h1, _, _⟩, _⟩ := hK; exact h1
  clear hK
  go_upto_region 4 with (fail)
  generalize w1.alloc (.cells #[.int .i64 0, .slice none 0 0, .int .i64 0, .int .i64 0, .int .i64 0, .int .i64 0, .slice none 0 0, .int .i64 0] 27) = w3 at *
  generalize w1.heap.size = g at *
  obtain ⟨⟨kz0,kc0,kf0⟩,⟨kz1,kc1,kf1⟩,⟨kz2,kc2,kf2⟩,⟨kz3,kc3,kf3⟩,⟨kz4,kc4,kf4⟩,⟨kz5,kc5,kf5⟩,⟨kz6,kc6,kf6⟩,⟨kz7,kc7,kf7⟩,⟨kz8,kc8,kf8⟩,⟨kz9,kc9,kf9⟩,⟨kz10,kc10,kf10⟩,⟨kz11,kc11,kf11⟩,⟨kz12,kc12,kf12⟩,⟨kz13,kc13,kf13⟩,⟨kz14,kc14,kf14⟩,⟨kz15,kc15,kf15⟩,_⟩ := hN.2
  obtain ⟨d0, d1, d2, d3, d4, d5, d6, d7⟩ := set8 (u0 := .int .i64 0) (u1 := .slice none 0 0) (u2 := .int .i64 0) (u3 := .int .i64 0) (u4 := .int .i64 0) (u5 := .int .i64 0) (u6 := .slice none 0 0) (u7 := .int .i64 0) kc8 kc9 kc10 kc11 kc12 kc13 kc14 kc15
  have hP := Lib.hid (store8 hN.1 (Nat.le_succ w.heap.size))
  clear hN
  go_wp2_with fail
  refine bodyPost_ret (v := .tuple #[zeroV, .int .i64 210]) (by simp [results, Tryz.results69, go_sem, d0, d1, d2, d3, d4, d5, d6, d7]) rfl ?_
  exact ⟨rfl, hP.out _ _ _ _ _ _ _ _⟩
 ·rw [g] at CK
  obtain ⟨k, R, a, r, n, d, V, e⟩ := s
  replace CK := Lib.hid CK
  simp only [if_true]
  have hK : Keeps w [(w.heap.size, 0, .int .i64 k), (w.heap.size, 1, v), (w.heap.size, 2, .int .i64 a), (w.heap.size, 3, .int .i64 r), (w.heap.size, 4, .int .i64 n), (w.heap.size, 5, .int .i64 d), (w.heap.size, 6, u), (w.heap.size, 7, .int .i64 e), (w.heap.size + 1, 0, .int .i64 0), (w.heap.size + 1, 1, .slice none 0 0), (w.heap.size + 1, 2, .int .i64 0), (w.heap.size + 1, 3, .int .i64 0), (w.heap.size + 1, 4, .int .i64 0), (w.heap.size + 1, 5, .int .i64 0), (w.heap.size + 1, 6, .slice none 0 0), (w.heap.size + 1, 7, .int .i64 0)] ((w.alloc (sgO 27 k v a r n d u e)).alloc (.cells #[.int .i64 0, .slice none 0 0, .int .i64 0, .int .i64 0, .int .i64 0, .int .i64 0, .slice none 0 0, .int .i64 0] 27)) := by
   refine ⟨by go_grown, ?_⟩
   simp [Cells, go_sem]
  clear g
  go_enter Tryz.func69, Tryz.ntmps69
  go_wp2_with fail
  refine (CK.out _ hK.1).mono ?_
  rintro e w1 ⟨rfl, hb⟩
  replace hK := hK.next hb
  clear hb
  obtain ⟨⟨kz0,kc0,kf0⟩,⟨kz1,kc1,kf1⟩,⟨kz2,kc2,kf2⟩,⟨kz3,kc3,kf3⟩,⟨kz4,kc4,kf4⟩,⟨kz5,kc5,kf5⟩,⟨kz6,kc6,kf6⟩,⟨kz7,kc7,kf7⟩,⟨kz8,kc8,kf8⟩,⟨kz9,kc9,kf9⟩,⟨kz10,kc10,kf10⟩,⟨kz11,kc11,kf11⟩,⟨kz12,kc12,kf12⟩,⟨kz13,kc13,kf13⟩,⟨kz14,kc14,kf14⟩,⟨kz15,kc15,kf15⟩,_⟩ := hK.2
  go_wp2_with fail
  refine (AP.out _ hK.1).mono ?_
  rintro e w2 ⟨v2, u2, rfl, hb, ho⟩
  have hlz : w.heap.size + 2 ≤ w1.heap.size := kz8
  replace hK := hK.next hb
  clear hb CK AP
  clear kz0 kc0 kf0 kz1 kc1 kf1 kz2 kc2 kf2 kz3 kc3 kf3 kz4 kc4 kf4 kz5 kc5 kf5 kz6 kc6 kf6 kz7 kc7 kf7 kz8 kc8 kf8 kz9 kc9 kf9 kz10 kc10 kf10 kz11 kc11 kf11 kz12 kc12 kf12 kz13 kc13 kf13 kz14 kc14 kf14 kz15 kc15 kf15
  have hr := owns_less ho.runs hlz
  have hv := owns_less ho.raws hlz
  obtain ⟨A1, n1, c1, rfl⟩ := own_sl hr
  obtain ⟨A2, n2, c2, rfl⟩ := own_sl hv
  have hN : Keeps w (zeroL (w.heap.size + 1)) w2 := hK.sub (by simp)
  obtain ⟨⟨kz0,kc0,kf0⟩,⟨kz1,kc1,kf1⟩,⟨kz2,kc2,kf2⟩,⟨kz3,kc3,kf3⟩,⟨kz4,kc4,kf4⟩,⟨kz5,kc5,kf5⟩,⟨kz6,kc6,kf6⟩,⟨kz7,kc7,kf7⟩,_⟩ := hN.2
  obtain ⟨d0, d1, d2, d3, d4, d5, d6, d7⟩ := set8 (u0 := .int .i64 k) (u1 := .slice A1 n1 c1) (u2 := .int .i64 a) (u3 := .int .i64 r) (u4 := .int .i64 n) (u5 := .int .i64 d) (u6 := .slice A2 n2 c2) (u7 := .int .i64 e) kc0 kc1 kc2 kc3 kc4 kc5 kc6 kc7
  have hP := Lib.hid (store8 hN.1 (Nat.le_succ w.heap.size))
  have hr2 := Lib.hid (owns8 (B' := w.heap.size) hr (Nat.lt_succ_self (w.heap.size + 1)) (by omega))
  have hv2 := Lib.hid (owns8 (B' := w.heap.size) hv (Nat.lt_succ_self (w.heap.size + 1)) (by omega))
  clear hN hK hr hv ho
  go_wp2_with fail
  refine bodyPost_ret (v := .tuple #[sgV k (.slice A1 n1 c1) a r n d (.slice A2 n2 c2) e, .int .i64 0]) (by simp [results, Tryz.results69, go_sem, d0, d1, d2, d3, d4, d5, d6, d7]) rfl ?_
  exact ⟨_, _, rfl, hP.out _ _ _ _ _ _ _ _, ⟨hr2.out _ _ _ _ _ _ _ _, hv2.out _ _ _ _ _ _ _ _⟩⟩
end Go.Proofs.YtcfidimnbamnkaaGreat.P11
