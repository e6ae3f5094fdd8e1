/-
 Layer 11: Of and Raw. Conditions: those written at each fact.
-/
import Derived.Test.YtcfidimnbamnkaaGreatKitV
import Derived.Test.YtcfidimnbamnkaaGreatKitW
import Derived.Maps.RangeWalk
import Derived.Test.YtcfidimnbamnkaaGreatSgR
namespace Go.Proofs.YtcfidimnbamnkaaGreat.P11
open Go.RowKit Go.Shelf Go.Proofs.YtcfidimnbamnkaaGreat.P7

def zeroS : Sg := ⟨0, [], 0, 0, 0, 0, [], 0⟩
def madeS (s : Sg) : Sg := if segB s then s else zeroS
def madeC (s : Sg) : Int := if segB s then 0 else 210
abbrev sgOf (s : Sg) (v u : Value) : Value := sgV s.k v s.a s.r s.n s.d u s.e
def MadeT (w : World) (s : Sg) (e : Ending) (w' : World) : Prop := ∃ v u, e = .returned (.tuple #[sgOf (madeS s) v u, .int .i64 (madeC s)]) ∧ Below w.heap.size w w' ∧ Own2 w' w.heap.size (madeS s) v u
theorem made_of {w : World} {s : Sg} {e : Ending} {w' : World} (h : MadeS w s e w') : MadeT w s e w' := by
 unfold MadeS at h
 unfold MadeT madeS madeC
 cases g : segB s
 ·rw [g] at h
  simp only [Bool.false_eq_true, if_false] at h ⊢
  exact ⟨.slice none 0 0, .slice none 0 0, h.1, h.2, ⟨⟨rfl, .inl ⟨rfl, rfl⟩⟩, ⟨rfl, .inl ⟨rfl, rfl⟩⟩⟩⟩
 ·rw [g] at h
  simp only [if_true] at h ⊢
  exact h
theorem made_parts {w W : World} {s : Sg} (hz : w.heap.size + 2 ≤ W.heap.size) {e : Ending} {w' : World} (h : MadeT W s e w') :
  ∃ A1 n1 c1 A2 n2 c2, e = .returned (.tuple #[sgOf (madeS s) (.slice A1 n1 c1) (.slice A2 n2 c2), .int .i64 (madeC s)]) ∧ Below W.heap.size W w' ∧ w'.ownsRow (w.heap.size + 2) 44 3 (.slice A1 n1 c1) (madeS s).R.length (flatR (madeS s).R) ∧ w'.ownsRow (w.heap.size + 2) 2 1 (.slice A2 n2 c2) (madeS s).V.length ((madeS s).V.map (Value.int .i64)) := by
 obtain ⟨v, u, rfl, hb, ho⟩ := h
 obtain ⟨A1, n1, c1, rfl⟩ := own_sl ho.runs
 obtain ⟨A2, n2, c2, rfl⟩ := own_sl ho.raws
 exact ⟨A1, n1, c1, A2, n2, c2, rfl, hb, owns_less ho.runs hz, owns_less ho.raws hz⟩
theorem kstore8 {w W : World} {B : Nat} {L : List (Nat × Nat × Value)} (h : Keeps w L W) (hw : w.heap.size ≤ B) (hne : ∀ q ∈ L, q.1 ≠ B) (x0 x1 x2 x3 x4 x5 x6 x7 : Value) : Keeps w L ((((((((W.setCell ⟨B, 0, none⟩ x0).setCell ⟨B, 1, none⟩ x1).setCell ⟨B, 2, none⟩ x2).setCell ⟨B, 3, none⟩ x3).setCell ⟨B, 4, none⟩ x4).setCell ⟨B, 5, none⟩ x5).setCell ⟨B, 6, none⟩ x6).setCell ⟨B, 7, none⟩ x7) :=
 (((((((h.set hw hne _).set hw hne _).set hw hne _).set hw hne _).set hw hne _).set hw hne _).set hw hne _).set hw hne _
set_option maxRecDepth 100000 in
set_option maxHeartbeats 4000000 in
theorem ofM_any (R : List Rn) (a r n d far : Int) (hR : R.length ≤ 1000000) (v : Value) (w : World) (h : ReadsR w v R) :
  Calls Tryz.prog 25 #[v, lnV a r n d, .int .i64 far] w (MadeT w ⟨kindK a r n d, R, a, r, n, d, [], far⟩) := by
 have KD := Lib.hid (fun W => kind_any a r n d W)
 obtain ⟨kk, hkk⟩ : ∃ x, x = kindK a r n d := ⟨_, rfl⟩
 rw [← hkk] at KD ⊢
 have lz : ∀ W, Keeps w (zeroL (w.heap.size + 1)) W → w.heap.size + 2 ≤ W.heap.size := fun W hk => hk.2.1.1
 have OF := Lib.hid (fun W (hk : Keeps w (zeroL (w.heap.size + 1)) W) => (ofS_any ⟨kk, R, a, r, n, d, [], far⟩ hR (by simp) v (.slice none 0 0) W (h.below hk.1) Reads.nil).mono (fun _ _ hm => made_parts (lz W hk) (made_of hm)))
 unfold MadeT
 obtain ⟨s', hs'⟩ : ∃ s', s' = madeS ⟨kk, R, a, r, n, d, [], far⟩ := ⟨_, rfl⟩
 obtain ⟨cc, hcc⟩ : ∃ c, c = madeC ⟨kk, R, a, r, n, d, [], far⟩ := ⟨_, rfl⟩
 rw [← hs', ← hcc] at OF ⊢
 obtain ⟨xk, xR, xa, xr, xn, xd, xV, xe⟩ := s'
 simp only [sgOf] at OF ⊢
 obtain ⟨Av, cv, rfl, _, _⟩ := h
 generalize R.length = N at *
 clear hR lz hs' hcc hkk
 go_enter Tryz.func25, Tryz.ntmps25
 go_wp2_with fail
 refine region_keepsB (w0 := w) (L := [(w.heap.size, 0, .int .i64 a), (w.heap.size, 1, .int .i64 r), (w.heap.size, 2, .int .i64 n), (w.heap.size, 3, .int .i64 d)]) (M := [(w.heap.size + 1, 0, .int .i64 0), (w.heap.size + 1, 1, .slice none 0 0), (w.heap.size + 1, 2, .int .i64 0), (w.heap.size + 1, 3, .int .i64 0), (w.heap.size + 1, 4, .int .i64 0), (w.heap.size + 1, 5, .int .i64 0), (w.heap.size + 1, 6, .slice none 0 0), (w.heap.size + 1, 7, .int .i64 0)]) (by kernel_rfl) (by first | exact hHeld | (refine ⟨by go_grown, ?_⟩; simp [Cells, go_sem]; done)) (by first | exact hHeld | (refine ⟨by go_grown, ?_⟩; simp [Cells, go_sem]; done)) (fun hHeld0 hT0 => ?_)
 refine tk 0 8 rfl rfl ?_ ?_ ?_
 rotate_left
 ·intro wq hSw; obtain ⟨⟨_,_,_⟩,⟨_,_,_⟩,⟨_,_,_⟩,⟨_,_,_⟩,_⟩ := hSw.2; go_simp; (try with_reducible rfl)
 try go_frame
 refine tv 2 10 rfl rfl ?_
 try go_frame
 refine tk 3 11 rfl rfl ?_ ?_ ?_
 rotate_left
 ·intro wq hSw; obtain ⟨⟨_,_,_⟩,⟨_,_,_⟩,⟨_,_,_⟩,⟨_,_,_⟩,_⟩ := hSw.2; go_simp; (try with_reducible rfl)
 try go_frame
 refine tv 4 12 rfl rfl ?_
 try go_frame
 refine tw 1 rfl fun K hK => ?_
 go_simp
 ((with_reducible refine (KD.out _).mono ?_); rintro e w1 ⟨rfl, hb⟩)
 refine hK.out _ _ (hHeld0.next hb) (fun hHeld1 => ?_)
 replace hT0 := hT0.next hb
 clear hK K; try clear hb
 try go_frame
 refine tv 5 13 rfl rfl ?_
 try go_frame
 refine tw 6 rfl fun K hK => ?_
 go_simp
 ((with_reducible refine (OF.out _ hT0).mono ?_); rintro e w2 ⟨A1, n1, c1, A2, n2, c2, rfl, hb, ho1, ho2⟩)
 refine hK.out _ _ (hHeld1.next hb) (fun hHeld2 => ?_)
 replace hT0 := hT0.next hb
 clear hK K; try clear hb
 try go_frame
 refine tv 7 15 rfl rfl ?_
 try go_frame
 refine tv 8 16 rfl rfl ?_
 try go_frame
 refine tw 9 rfl fun K hK => ?_
 obtain ⟨⟨t0z0,t0c0,t0f0⟩,⟨t0z1,t0c1,t0f1⟩,⟨t0z2,t0c2,t0f2⟩,⟨t0z3,t0c3,t0f3⟩,⟨t0z4,t0c4,t0f4⟩,⟨t0z5,t0c5,t0f5⟩,⟨t0z6,t0c6,t0f6⟩,⟨t0z7,t0c7,t0f7⟩,_⟩ := hT0.2; (try simp at t0z0); (try simp at t0c0); (try simp at t0f0); (try simp at t0z1); (try simp at t0c1); (try simp at t0f1); (try simp at t0z2); (try simp at t0c2); (try simp at t0f2); (try simp at t0z3); (try simp at t0c3); (try simp at t0f3); (try simp at t0z4); (try simp at t0c4); (try simp at t0f4); (try simp at t0z5); (try simp at t0c5); (try simp at t0f5); (try simp at t0z6); (try simp at t0c6); (try simp at t0f6); (try simp at t0z7); (try simp at t0c7); (try simp at t0f7)
 go_simp
 refine hK.out _ _ (kstore8 hHeld2 (Nat.le_succ w.heap.size) (by simp) _ _ _ _ _ _ _ _) (fun hHeld3 => ?_)
 clear hK K; try clear hb
 try go_frame
 refine tv 10 7 rfl rfl ?_
 try go_frame
 refine wpAnyH_done (by kernel_rfl) ?_ _
 have hHeld := hHeld3
 obtain ⟨⟨kz0,kc0,kf0⟩,⟨kz1,kc1,kf1⟩,⟨kz2,kc2,kf2⟩,⟨kz3,kc3,kf3⟩,_⟩ := hHeld.2
 all_goals
  obtain ⟨d0, d1, d2, d3, d4, d5, d6, d7⟩ := set8 (u0 := .int .i64 xk) (u1 := .slice A1 n1 c1) (u2 := .int .i64 xa) (u3 := .int .i64 xr) (u4 := .int .i64 xn) (u5 := .int .i64 xd) (u6 := .slice A2 n2 c2) (u7 := .int .i64 xe) t0c0 t0c1 t0c2 t0c3 t0c4 t0c5 t0c6 t0c7
  have hP := Lib.hid (store8 hT0.1 (Nat.le_succ w.heap.size))
  have hr2 := Lib.hid (owns8 (B' := w.heap.size) ho1 (Nat.lt_succ_self (w.heap.size + 1)) (by omega))
  have hv2 := Lib.hid (owns8 (B' := w.heap.size) ho2 (Nat.lt_succ_self (w.heap.size + 1)) (by omega))
  clear hHeld hT0 ho1 ho2
  (try clear hHeld0); (try clear hHeld1); (try clear hHeld2); (try clear hHeld3); (try clear hT0); (try clear kz0 kc0 kf0); (try clear kz1 kc1 kf1); (try clear kz2 kc2 kf2); (try clear kz3 kc3 kf3); (try clear t0z0 t0c0 t0f0); (try clear t0z1 t0c1 t0f1)
  go_wp2_with fail
  refine bodyPost_ret (v := .tuple #[sgV xk (.slice A1 n1 c1) xa xr xn xd (.slice A2 n2 c2) xe, .int .i64 cc]) (by simp [results, Tryz.results25, go_sem, d0, d1, d2, d3, d4, d5, d6, d7]) rfl ?_
  exact ⟨_, _, rfl, hP.out _ _ _ _ _ _ _ _, ⟨hr2.out _ _ _ _ _ _ _ _, hv2.out _ _ _ _ _ _ _ _⟩⟩
end Go.Proofs.YtcfidimnbamnkaaGreat.P11
