/-
 Layer 6: which counts, terms and times may be; what 0 to n less 1 come to; what is added to a sum. Conditions: those written at each fact.
-/
import Derived.Test.YtcfidimnbamnkaaGreatKitW
import Derived.Maps.RangeWalk
import Derived.Test.YtcfidimnbamnkaaGreatFsA
import Derived.Test.YtcfidimnbamnkaaGreatLC
import Derived.Test.YtcfidimnbamnkaaGreatWA
import Derived.WalkMore
import Derived.ScopeJumps
namespace Go.Proofs.YtcfidimnbamnkaaGreat
open Go.RowKit

def countB (n : Int) : Bool := decide (0 ≤ n) && decide (n ≤ 256)
def termB (z : Int) : Bool := decide (-2596148429267413814265248164610048 ≤ z) && decide (z ≤ 2596148429267413814265248164610048)
theorem countB_iff (n : Int) : countB n = true ↔ 0 ≤ n ∧ n ≤ 256 := by unfold countB; simp
theorem termB_iff (z : Int) : termB z = true ↔ -2596148429267413814265248164610048 ≤ z ∧ z ≤ 2596148429267413814265248164610048 := by unfold termB; simp
theorem isCount_any (t : Int) (w : World) : Calls Tryz.prog 253 #[.int .i64 t] w (Ret w (.bool (countB t))) := by
 unfold countB
 cases g : decide (0 ≤ t)
 ·go_enter Tryz.func253, Tryz.ntmps253
  go_wp2
  go_ret
  exact ⟨rfl, by go_grown⟩
 ·go_enter Tryz.func253, Tryz.ntmps253
  go_wp2
  go_ret
  exact ⟨rfl, by go_grown⟩
theorem isTime6_any (t : Int) (w : World) : Calls Tryz.prog 254 #[.int .i64 t] w (Ret w (.bool (timeB t))) := by
 unfold timeB
 cases g : decide (0 ≤ t)
 ·go_enter Tryz.func254, Tryz.ntmps254
  go_wp2
  go_ret
  exact ⟨rfl, by go_grown⟩
 ·go_enter Tryz.func254, Tryz.ntmps254
  go_wp2
  go_ret
  exact ⟨rfl, by go_grown⟩
theorem pairs_any (n : Nat) (h : n ≤ 256) (w : World) : Calls Tryz.prog 265 #[.int .i64 n] w (Ret w (.int .i64 (prN n))) := by
 have e := prN_two n
 have h0 := prN_nonneg n
 have h1 := prN_le h
 have e2 : (2 * prN n).tdiv 2 = prN n := Int.mul_tdiv_cancel_left _ (by omega)
 rw [e] at e2
 have e3 : IntKind.i64.wrap ((n : Int) * ((n : Int) - 1)) = (n : Int) * ((n : Int) - 1) := by rw [IntKind.wrap_i64]; omega
 have e4 : IntKind.i64.wrap ((n : Int) - 1) = (n : Int) - 1 := by rw [IntKind.wrap_i64]; omega
 have e5 : IntKind.i64.wrap (prN n) = prN n := by rw [IntKind.wrap_i64]; omega
 rw [← e2] at e5 ⊢
 clear e e2 h0 h1
 go_enter Tryz.func265, Tryz.ntmps265
 go_wp2_with fail
 go_ret
 refine ⟨?_, by go_grown⟩
 simp [*]
end Go.Proofs.YtcfidimnbamnkaaGreat

/-
 Layer 6: what is added to a sum. Conditions: those written at each fact.
-/
namespace Go.Proofs.YtcfidimnbamnkaaGreat
open Go.RowKit

theorem KeepsX.undrewR {w W : World} {s : Nat} {L : List (Nat × Nat × Value)} (h : KeepsX w s L W.drew) : KeepsX w s L W := ⟨⟨h.1.os, h.1.tape, h.1.output, h.1.size, h.1.block⟩, h.2.undrewR⟩
theorem KeepsX.set2M {w W : World} {s b o p : Nat} {u u' : Value} {M : List (Nat × Nat × Value)} (h : KeepsX w s ((b, o, u) :: (b, p, u') :: M) W) (hb : b ≠ s) (hM : ∀ q ∈ M, q.1 ≠ s ∨ 2 ≤ q.2.1) (v0 v1 : Value) :
  KeepsX w s ((b, o, u) :: (b, p, u') :: M) ((W.setCell ⟨s, 0, none⟩ v0).setCell ⟨s, 1, none⟩ v1) := by
 have hne : ∀ i, i < 2 → ∀ q ∈ (b, o, u) :: (b, p, u') :: M, q.1 ≠ s ∨ q.2.1 ≠ i := by
  intro i hi q hq
  rcases List.mem_cons.1 hq with rfl | hq
  ·exact Or.inl hb
  ·rcases List.mem_cons.1 hq with rfl | hq
   ·exact Or.inl hb
   ·rcases hM q hq with g | g
    ·exact Or.inl g
    ·exact Or.inr (by omega)
 exact (h.set (p := ⟨s, 0, none⟩) (Or.inl rfl) rfl (hne 0 (by omega)) v0).set (p := ⟨s, 1, none⟩) (Or.inl rfl) rfl (hne 1 (by omega)) v1
theorem scale_fits (y k : Int) (hy : Fits y) (hk : I64 k) (f : Fits (y * k)) (w : World) : Calls Tryz.prog 88 #[wideV (rhi y) (rlo y), .int .i64 k] w (Ret w (.tuple #[wideV (rhi (y * k)) (rlo (y * k)), .int .i64 0])) := by
 have h := scale_any (rhi y) (rlo y) k (rhi_i64 _) (rlo_u64 _) hk w
 rw [val_r hy] at h
 have e : rcode (y * k) = 0 := by unfold rcode; rw [if_pos f]
 rw [show (.tuple #[wideV (rhi (y * k)) (rlo (y * k)), .int .i64 0] : Value) = roomV (y * k) by unfold roomV; rw [e]]
 exact h
theorem add_fits (x y : Int) (hx : Fits x) (hy : Fits y) (f : Fits (x + y)) (w : World) : Calls Tryz.prog 40 #[wideV (rhi x) (rlo x), wideV (rhi y) (rlo y)] w (Ret w (.tuple #[wideV (rhi (x + y)) (rlo (x + y)), .int .i64 0])) := by
 have h := add_any (rhi x) (rlo x) (rhi y) (rlo y) (rhi_i64 _) (rlo_u64 _) (rhi_i64 _) (rlo_u64 _) w
 rw [val_r hx, val_r hy] at h
 have e : rcode (x + y) = 0 := by unfold rcode; rw [if_pos f]
 rw [show (.tuple #[wideV (rhi (x + y)) (rlo (x + y)), .int .i64 0] : Value) = roomV (x + y) by unfold roomV; rw [e]]
 exact h
set_option maxRecDepth 100000 in
set_option maxHeartbeats 2000000 in
theorem sadd_any (s : Nat) (z y k : Int) (M : List (Nat × Nat × Value)) (hz : Fits z) (hy : Fits y) (hk : I64 k) (f1 : Fits (y * k)) (f2 : Fits (z + y * k)) (w : World)
  (hs : Cells ((s, 0, .int .i64 (rhi z)) :: (s, 1, .int .u64 (rlo z)) :: M) w) (hM : ∀ q ∈ M, q.1 ≠ s ∨ 2 ≤ q.2.1) :
  Calls Tryz.prog 264 #[.pointer (some ⟨s, 0, none⟩), wideV (rhi y) (rlo y), .int .i64 k] w
   (Wrote w s (.tuple #[]) ((s, 0, .int .i64 (rhi (z + y * k))) :: (s, 1, .int .u64 (rlo (z + y * k))) :: M)) := by
 have SC := Lib.hid (fun W => scale_fits y k hy hk f1 W)
 have AD := Lib.hid (fun W => add_fits z (y * k) hz f1 f2 W)
 have HM := Lib.hid hM
 clear hM hy hk hz f1 f2
 have hK : Keeps w ((s, 0, .int .i64 (rhi z)) :: (s, 1, .int .u64 (rlo z)) :: M) w := ⟨Below.refl _ _, hs⟩
 clear hs
 generalize rhi (z + y * k) = p0 at *
 generalize rlo (z + y * k) = p1 at *
 generalize rhi (y * k) = q0 at *
 generalize rlo (y * k) = q1 at *
 generalize rhi y = y0 at *
 generalize rlo y = y1 at *
 generalize rhi z = z0 at *
 generalize rlo z = z1 at *
 go_enter Tryz.func264, Tryz.ntmps264
 go_wp2_with fail
 refine (SC.out _).mono ?_
 rintro e w1 ⟨rfl, hb⟩
 have hH := (hK.alloc _).next hb
 clear hb
 go_wp2_with fail
 have hlt : s < w1.heap.size := hH.2.1.1
 refine region_keepsXB (w0 := w) (s := s) (L := ((w1.heap.size, 0, .int .i64 q0) :: (w1.heap.size, 1, .int .u64 q1) :: M)) (M := [(s, 0, .int .i64 z0), (s, 1, .int .u64 z1)]) (by kernel_rfl) ⟨Near.of (hH.alloc _).1, (newK2 (hH.alloc _)).2.1, (newK2 (hH.alloc _)).2.2.1, (hH.alloc _).2.2.2⟩ ⟨Near.of (hH.alloc _).1, (hH.alloc _).2.1, (hH.alloc _).2.2.1, trivial⟩ (fun hHeld0 hT0 => ?_)
 refine tv 0 15 rfl rfl ?_
 try go_frame
 refine tv 1 16 rfl rfl ?_
 try go_frame
 refine tv 2 17 rfl rfl ?_
 try go_frame
 refine tv 3 18 rfl rfl ?_
 try go_frame
 refine tk 5 20 rfl rfl ?_ ?_ ?_
 rotate_left
 ·intro wq hSw; obtain ⟨⟨qz0, qc0, qf0⟩, ⟨qz1, qc1, qf1⟩, _⟩ := hSw.2; go_simp; (try with_reducible rfl)
 try go_frame
 refine ty [4] ?_
 refine AllReadyH.cons rfl (fun K hK => ?_) AllReadyH.nil
 obtain ⟨⟨kz0, kc0, kf0⟩, ⟨kz1, kc1, kf1⟩, _⟩ := hHeld0.2
 obtain ⟨⟨t0z0, t0c0, t0f0⟩, ⟨t0z1, t0c1, t0f1⟩, _⟩ := hT0.2
 go_simp
 refine hK.out _ _ hHeld0 (fun hHeld1 => ?_)
 clear hK K; try clear hb
 try go_frame
 refine ty [6] ?_
 refine AllReadyH.cons rfl (fun K hK => ?_) AllReadyH.nil
 go_simp
 (with_reducible refine Calls.mono (AD.out _) ?_); rintro e w5 ⟨rfl, hb⟩
 refine hK.out _ _ (hHeld1.next hb) (fun hHeld2 => ?_)
 replace hT0 := hT0.next hb
 clear hK K; try clear hb
 try go_frame
 refine tv 7 14 rfl rfl ?_
 try go_frame
 refine tv 8 22 rfl rfl ?_
 try go_frame
 refine tv 9 23 rfl rfl ?_
 try go_frame
 refine tv 10 24 rfl rfl ?_
 try go_frame
 refine tv 11 25 rfl rfl ?_
 try go_frame
 refine ty [12] ?_
 refine AllReadyH.cons rfl (fun K hK => ?_) AllReadyH.nil
 obtain ⟨⟨t0z0, t0c0, t0f0⟩, ⟨t0z1, t0c1, t0f1⟩, _⟩ := hT0.2; (try simp at t0z0); (try simp at t0c0); (try simp at t0f0); (try simp at t0z1); (try simp at t0c1); (try simp at t0f1)
 go_simp
 refine hK.out _ _ ((by first | exact (KeepsX.set2M hHeld2 (Nat.ne_of_gt hlt) HM.out _ _) | exact (KeepsX.set2M hHeld2 (Nat.ne_of_gt hlt) HM.out _ _).drew)) (fun hHeld3 => ?_)
 clear hK K; try clear hb
 try go_frame
 refine wpAnyH_done (by kernel_rfl) ?_ _
 have hHeld := hHeld3
 obtain ⟨⟨kz0, kc0, kf0⟩, ⟨kz1, kc1, kf1⟩, _⟩ := hHeld.2
 all_goals
  go_wp2_with fail
  go_returns
  refine ⟨rfl, hHeld.1, ⟨?_, ?_, ?_⟩, ⟨?_, ?_, ?_⟩, hHeld.2.2.2⟩
  ·simp; omega
  ·simp [go_sem, *]
  ·simp [*]
  ·simp; omega
  ·simp [go_sem, *]
  ·simp [*]
end Go.Proofs.YtcfidimnbamnkaaGreat

/-
 Layer 6: the steps are added up, by a goto. Conditions: those written at each fact.
-/
namespace Go.Proofs.YtcfidimnbamnkaaGreat
open Go.RowKit

theorem wp_scope_once {P : Program} {a : Act} {w : World} {Q : Exit → Act → World → Prop} {pre rest : Code} (l : Nat) (J : Act → World → Prop) (μ : Act → World → Nat)
  (hf : findLabel pre l = none)
  (first : pre.wp P (fun e a w => e = .normal ∧ J a w) a w)
  (pass : ∀ a w, J a w → rest.wp P (Exit.jump l (fun a' w' => J a' w' ∧ μ a' w' < μ a w) Q) a w) : (Code.scope (pre.seq ((Code.label l).seq rest))).wp P Q a w := by
 refine wp_scope_jumps (rest := Code.skip.seq rest) l J μ (by simp [findLabel, hf]) ?_ (fun a w hJ => wp_seq (wp_skip (pass a w hJ)))
 refine wp_seq (wp_mono first ?_)
 rintro e a' w' ⟨rfl, hJ⟩
 refine wp_seq (wp_label ?_)
 refine wp_mono (pass a' w' hJ) ?_
 intro e a1 w1 h
 cases e
 case goto l' => exact ⟨h.1, h.2.1⟩
 all_goals exact h
theorem jump_normal {l : Nat} {J : Act → World → Prop} {Q : Exit → Act → World → Prop} {a : Act} {w : World} : Exit.jump l J Q .normal a w = Q .normal a w := rfl
theorem Near.trans {s : Nat} {w W w' : World} (h : Near s w W) (k : Near s W w') : Near s w w' :=
 ⟨k.os.trans h.os, k.tape.trans h.tape, k.output.trans h.output, Nat.le_trans h.size k.size, fun i hi hs => (k.block i (Nat.lt_of_lt_of_le hi h.size) hs).trans (h.block i hi hs)⟩
abbrev sixC (s : Nat) (t n a b m : Int) : List (Nat × Nat × Value) := [(s, 0, .int .i64 (rhi t)), (s, 1, .int .u64 (rlo t)), (s, 2, .int .i64 n), (s, 3, .int .i64 a), (s, 4, .int .i64 b), (s, 5, .int .i64 m)]
def Going (w : World) (s : Nat) (T : Int) (t : Int) (n : Nat) (a b m : Int) (W : World) : Prop :=
 Fits T ∧ Fits t ∧ n ≤ 256 ∧ 0 ≤ a ∧ a ≤ 281474976710656 ∧ 0 ≤ b ∧ b ≤ 281474976710656 ∧ 1 ≤ m ∧ m ≤ 281474976710656 ∧ t + floorS n a b m = T ∧ KeepsX w s (sixC s t n a b m) W
def atM (s : Nat) (w : World) : Nat := (intOf' ((w.cell? ⟨s, 5, none⟩).getD undef)).toNat
theorem frame117 (A : Array Value) (hs : A.size = 117) (p f : Value) (h0 : A[0]? = some p) (h2 : A[2]? = some f) : ∃ u : Nat → Value, A = (p :: u 1 :: f :: u 3 :: u 4 :: u 5 :: u 6 :: u 7 :: u 8 :: u 9 :: u 10 :: u 11 :: u 12 :: u 13 :: u 14 :: u 15 :: u 16 :: u 17 :: u 18 :: u 19 :: u 20 :: u 21 :: u 22 :: u 23 :: u 24 :: u 25 :: u 26 :: u 27 :: u 28 :: u 29 :: u 30 :: u 31 :: u 32 :: u 33 :: u 34 :: u 35 :: u 36 :: u 37 :: u 38 :: u 39 :: u 40 :: u 41 :: u 42 :: u 43 :: u 44 :: u 45 :: u 46 :: u 47 :: u 48 :: u 49 :: u 50 :: u 51 :: u 52 :: u 53 :: u 54 :: u 55 :: u 56 :: u 57 :: u 58 :: u 59 :: u 60 :: u 61 :: u 62 :: u 63 :: u 64 :: u 65 :: u 66 :: u 67 :: u 68 :: u 69 :: u 70 :: u 71 :: u 72 :: u 73 :: u 74 :: u 75 :: u 76 :: u 77 :: u 78 :: u 79 :: u 80 :: u 81 :: u 82 :: u 83 :: u 84 :: u 85 :: u 86 :: u 87 :: u 88 :: u 89 :: u 90 :: u 91 :: u 92 :: u 93 :: u 94 :: u 95 :: u 96 :: u 97 :: u 98 :: u 99 :: u 100 :: u 101 :: u 102 :: u 103 :: u 104 :: u 105 :: u 106 :: u 107 :: u 108 :: u 109 :: u 110 :: u 111 :: u 112 :: u 113 :: u 114 :: u 115 :: u 116 :: []).toArray := by
 have e0 : p = A.getD 0 undef := by simp [h0]
 have e2 : f = A.getD 2 undef := by simp [h2]
 subst e0 e2
 refine ⟨fun i => A.getD i undef, ?_⟩
 have h : A = Array.ofFn (fun i : Fin 117 => A.getD i undef) := by
  apply Array.ext
  ·simp [hs]
  ·intro i h1 h2
   simp [h1]
 exact h.trans (by kernel_rfl)
def Frame (w : World) (s : Nat) (T : Int) (a' : Act) (w' : World) : Prop :=
 a'.defers = [] ∧ a'.tmps.size = 117 ∧ a'.tmps[0]? = some (.pointer (some ⟨s, 0, none⟩)) ∧ a'.tmps[2]? = some (.func (.func 264) #[.pointer (some ⟨s, 0, none⟩)] #[]) ∧ ∃ (t : Int) (n : Nat) (a b m : Int), Going w s T t n a b m w'
theorem Frame.open {w : World} {s : Nat} {T : Int} {a' : Act} {w' : World} (h : Frame w s T a' w') :
  ∃ (u : Nat → Value) (t : Int) (n : Nat) (a b m : Int), a' = { tmps := (.pointer (some ⟨s, 0, none⟩) :: u 1 :: .func (.func 264) #[.pointer (some ⟨s, 0, none⟩)] #[] :: u 3 :: u 4 :: u 5 :: u 6 :: u 7 :: u 8 :: u 9 :: u 10 :: u 11 :: u 12 :: u 13 :: u 14 :: u 15 :: u 16 :: u 17 :: u 18 :: u 19 :: u 20 :: u 21 :: u 22 :: u 23 :: u 24 :: u 25 :: u 26 :: u 27 :: u 28 :: u 29 :: u 30 :: u 31 :: u 32 :: u 33 :: u 34 :: u 35 :: u 36 :: u 37 :: u 38 :: u 39 :: u 40 :: u 41 :: u 42 :: u 43 :: u 44 :: u 45 :: u 46 :: u 47 :: u 48 :: u 49 :: u 50 :: u 51 :: u 52 :: u 53 :: u 54 :: u 55 :: u 56 :: u 57 :: u 58 :: u 59 :: u 60 :: u 61 :: u 62 :: u 63 :: u 64 :: u 65 :: u 66 :: u 67 :: u 68 :: u 69 :: u 70 :: u 71 :: u 72 :: u 73 :: u 74 :: u 75 :: u 76 :: u 77 :: u 78 :: u 79 :: u 80 :: u 81 :: u 82 :: u 83 :: u 84 :: u 85 :: u 86 :: u 87 :: u 88 :: u 89 :: u 90 :: u 91 :: u 92 :: u 93 :: u 94 :: u 95 :: u 96 :: u 97 :: u 98 :: u 99 :: u 100 :: u 101 :: u 102 :: u 103 :: u 104 :: u 105 :: u 106 :: u 107 :: u 108 :: u 109 :: u 110 :: u 111 :: u 112 :: u 113 :: u 114 :: u 115 :: u 116 :: []).toArray, defers := [] } ∧ Going w s T t n a b m w' := by
 obtain ⟨h1, h2, h3, h4, t, n, a, b, m, hG⟩ := h
 obtain ⟨u, hu⟩ := frame117 _ h2 _ _ h3 h4
 obtain ⟨A, D⟩ := a'
 simp only at h1 hu
 subst h1 hu
 exact ⟨u, t, n, a, b, m, rfl, hG⟩
set_option maxRecDepth 100000 in
set_option maxHeartbeats 4000000 in
theorem addAll_any (s : Nat) (T t : Int) (n : Nat) (a b m : Int) (w : World) (h : Going w s T t n a b m w) :
  Calls Tryz.prog 256 #[.pointer (some ⟨s, 0, none⟩)] w (Wrote w s (.tuple #[]) [(s, 0, .int .i64 (rhi T)), (s, 1, .int .u64 (rlo T))]) := by
 go_enter Tryz.func256, Tryz.ntmps256
 go_wp2
 refine wp_scope_once 0 (Frame w s T) (fun _ w' => atM s w') ?_ ?_ ?_
 ·rfl
 ·go_wp2
  exact ⟨rfl, rfl, rfl, rfl, t, n, a, b, m, h⟩
 ·intro a' w' hF
  obtain ⟨u, t, n, a, b, m, rfl, hG⟩ := hF.open
  clear hF h
  have hG0 := hG
  obtain ⟨fT, ft, hn, ha0, ha1, hb0, hb1, hm0, hm1, hsum, hK⟩ := hG
  have m0 : ¬ m = 0 := by omega
  have mZ : (m == 0) = false := by simpa using m0
  have p0 := prN_nonneg n
  have p1 := prN_le hn
  have fl := floor_mod hm0 n a b
  have r0 := Int.emod_nonneg a m0
  have r1 := Int.emod_lt_of_pos a (show 0 < m by omega)
  have r2 := Int.emod_nonneg b m0
  have r3 := Int.emod_lt_of_pos b (show 0 < m by omega)
  have fn := floor_nonneg hm0 n (a % m) (b % m) r0 r2
  have hA0 : 0 ≤ a / m := Int.ediv_nonneg ha0 (by omega)
  have hA1 : a / m ≤ 281474976710656 := by have := Int.ediv_le_self m ha0; omega
  have hB0 : 0 ≤ b / m := Int.ediv_nonneg hb0 (by omega)
  have hB1 : b / m ≤ 281474976710656 := by have := Int.ediv_le_self m hb0; omega
  have k1 : IntKind.i64.wrap (a.tdiv m) = a / m := by rw [Int.tdiv_eq_ediv_of_nonneg ha0, IntKind.wrap_i64]; omega
  have k2 : IntKind.i64.wrap (b.tdiv m) = b / m := by rw [Int.tdiv_eq_ediv_of_nonneg hb0, IntKind.wrap_i64]; omega
  have k3 : a.tmod m = a % m := Int.tmod_eq_emod_of_nonneg ha0
  have k4 : b.tmod m = b % m := Int.tmod_eq_emod_of_nonneg hb0
  generalize a / m = A at *
  generalize b / m = B at *
  generalize a % m = a1 at *
  generalize b % m = b1 at *
  have v0 : 0 ≤ A * prN n := Int.mul_nonneg hA0 p0
  have v1 : A * prN n ≤ 281474976710656 * 32640 := Int.mul_le_mul hA1 p1 p0 (by omega)
  have v2 : 0 ≤ B * (n : Int) := Int.mul_nonneg hB0 (by omega)
  have v3 : B * (n : Int) ≤ 281474976710656 * 256 := Int.mul_le_mul hB1 (by omega) (by omega) (by omega)
  have v4 : 0 ≤ a1 * (n : Int) := Int.mul_nonneg r0 (by omega)
  have v5 : a1 * (n : Int) ≤ 281474976710656 * 256 := Int.mul_le_mul (by omega) (by omega) (by omega) (by omega)
  have k5 : IntKind.i64.wrap (a1 * (n : Int)) = a1 * n := by rw [IntKind.wrap_i64]; omega
  have k6 : IntKind.i64.wrap (a1 * (n : Int) + b1) = a1 * n + b1 := by rw [IntKind.wrap_i64]; omega
  have f2 : Fits (t + A * prN n) := by unfold Fits at *; omega
  have f3 : Fits (t + A * prN n + B * n) := by unfold Fits at *; omega
  have OF := Lib.hid (fun W => of_any A (by unfold I64; omega) W)
  have OG := Lib.hid (fun W => of_any B (by unfold I64; omega) W)
  have PR := Lib.hid (fun W => pairs_any n hn W)
  have AD := Lib.hid (fun W k => sadd_any s t A (prN n) [(s, 2, .int .i64 n), (s, 3, .int .i64 a), (s, 4, .int .i64 b), (s, 5, .int .i64 m)] ft (by unfold Fits; omega) (by unfold I64; omega) (by unfold Fits; omega) f2 W k (by simp))
  have AE := Lib.hid (fun W k => sadd_any s (t + A * prN n) B n [(s, 2, .int .i64 n), (s, 3, .int .i64 a), (s, 4, .int .i64 b), (s, 5, .int .i64 m)] f2 (by unfold Fits; omega) (by unfold I64; omega) (by unfold Fits; omega) f3 W k (by simp))
  have HH : Hid (Fits T ∧ Fits (t + A * prN n + B * n) ∧ n ≤ 256 ∧ 0 ≤ a1 ∧ a1 < m ∧ 0 ≤ b1 ∧ b1 < m ∧ 1 ≤ m ∧ m ≤ 281474976710656 ∧ t + A * prN n + B * n + floorS n a1 b1 m = T) := Lib.hid ⟨fT, f3, hn, r0, r1, r2, r3, hm0, hm1, by omega⟩
  have V : Hid (0 ≤ a1 * (n : Int) ∧ a1 * (n : Int) ≤ 281474976710656 * 256) := Lib.hid ⟨v4, v5⟩
  clear v0 v1 v2 v3 v4 v5 f2 f3 fT ft hn ha0 ha1 hb0 hb1 hm0 hm1 hsum p0 p1 fl fn r0 r1 r2 r3 hA0 hA1 hB0 hB1
  refine wp_seq ?_
  refine region_keepsXB (w0 := w) (s := s) (L := [(s, 2, .int .i64 n), (s, 3, .int .i64 a), (s, 4, .int .i64 b), (s, 5, .int .i64 m)]) (M := [(s, 0, .int .i64 (rhi t)), (s, 1, .int .u64 (rlo t))]) (by kernel_rfl) ⟨hK.1, hK.2.2.2⟩ ⟨hK.1, hK.2.1, hK.2.2.1, trivial⟩ (fun hHeld0 hT0 => ?_)
  refine tv 0 8 rfl rfl ?_
  try go_frame
  refine tv 1 9 rfl rfl ?_
  try go_frame
  refine tv 2 10 rfl rfl ?_
  try go_frame
  refine tv 3 11 rfl rfl ?_
  try go_frame
  refine tk 4 12 rfl rfl ?_ ?_ ?_
  rotate_left
  ·intro wq hSw; obtain ⟨⟨_,_,_⟩,⟨_,_,_⟩,⟨_,_,_⟩,⟨_,_,_⟩,_⟩ := hSw.2; go_simp; (try with_reducible rfl)
  try go_frame
  refine tv 5 13 rfl rfl ?_
  try go_frame
  refine tv 6 14 rfl rfl ?_
  try go_frame
  refine tv 7 15 rfl rfl ?_
  try go_frame
  refine tk 8 16 rfl rfl ?_ ?_ ?_
  rotate_left
  ·intro wq hSw; obtain ⟨⟨_,_,_⟩,⟨_,_,_⟩,⟨_,_,_⟩,⟨_,_,_⟩,_⟩ := hSw.2; go_simp; (try with_reducible rfl)
  try go_frame
  refine tv 9 17 rfl rfl ?_
  try go_frame
  refine tv 11 19 rfl rfl ?_
  try go_frame
  refine tv 12 20 rfl rfl ?_
  try go_frame
  refine tv 13 21 rfl rfl ?_
  try go_frame
  refine tk 14 22 rfl rfl ?_ ?_ ?_
  rotate_left
  ·intro wq hSw; obtain ⟨⟨_,_,_⟩,⟨_,_,_⟩,⟨_,_,_⟩,⟨_,_,_⟩,_⟩ := hSw.2; go_simp; (try with_reducible rfl)
  try go_frame
  refine ty [10] ?_
  refine AllReadyH.cons rfl (fun K hK => ?_) AllReadyH.nil
  go_simp
  (with_reducible refine Calls.mono (OF.out _) ?_); rintro e w5 ⟨rfl, hb⟩
  refine hK.out _ _ (hHeld0.next hb) (fun hHeld1 => ?_)
  replace hT0 := hT0.next hb
  clear hK K; try clear hb
  try go_frame
  refine ty [15] ?_
  refine AllReadyH.cons rfl (fun K hK => ?_) AllReadyH.nil
  go_simp
  (with_reducible refine Calls.mono (PR.out _) ?_); rintro e w5 ⟨rfl, hb⟩
  refine hK.out _ _ (hHeld1.next hb) (fun hHeld2 => ?_)
  replace hT0 := hT0.next hb
  clear hK K; try clear hb
  try go_frame
  refine ty [16] ?_
  refine AllReadyH.cons rfl (fun K hK => ?_) AllReadyH.nil
  go_simp
  refine Calls.mono (AD.out _ ⟨hT0.2.1, hT0.2.2.1, hHeld2.2⟩) ?_; rintro e w6 ⟨rfl, hX⟩
  refine hK.out _ _ (⟨hHeld2.1.trans hX.1, hX.2.2.2⟩) (fun hHeld3 => ?_)
  clear hK K; try clear hb
  try go_frame
  refine wpAnyH_done (by kernel_rfl) ?_ _
  have hHeld := hHeld3
  obtain ⟨⟨kz0,kc0,kf0⟩,⟨kz1,kc1,kf1⟩,⟨kz2,kc2,kf2⟩,⟨kz3,kc3,kf3⟩,_⟩ := hHeld.2
  replace hK : KeepsX w s (sixC s (t + A * prN n) n a b m) w6 := ⟨hHeld.1, hX.2⟩
  clear hHeld hHeld0 hHeld1 hHeld2 hHeld3 hX hT0 kz0 kc0 kf0 kz1 kc1 kf1 kz2 kc2 kf2 kz3 kc3 kf3 AD OF PR k1
  generalize t + A * prN n = t1 at *
  go_wp2_with fail
  refine region_keepsXB (w0 := w) (s := s) (L := [(s, 2, .int .i64 n), (s, 3, .int .i64 a), (s, 4, .int .i64 b), (s, 5, .int .i64 m)]) (M := [(s, 0, .int .i64 (rhi t1)), (s, 1, .int .u64 (rlo t1))]) (by kernel_rfl) ⟨hK.1, hK.2.2.2⟩ ⟨hK.1, hK.2.1, hK.2.2.1, trivial⟩ (fun hHeld0 hT0 => ?_)
  refine tv 0 25 rfl rfl ?_
  try go_frame
  refine tv 1 26 rfl rfl ?_
  try go_frame
  refine tv 2 27 rfl rfl ?_
  try go_frame
  refine tv 3 28 rfl rfl ?_
  try go_frame
  refine tk 4 29 rfl rfl ?_ ?_ ?_
  rotate_left
  ·intro wq hSw; obtain ⟨⟨_,_,_⟩,⟨_,_,_⟩,⟨_,_,_⟩,⟨_,_,_⟩,_⟩ := hSw.2; go_simp; (try with_reducible rfl)
  try go_frame
  refine tv 5 30 rfl rfl ?_
  try go_frame
  refine tv 6 31 rfl rfl ?_
  try go_frame
  refine tv 7 32 rfl rfl ?_
  try go_frame
  refine tk 8 33 rfl rfl ?_ ?_ ?_
  rotate_left
  ·intro wq hSw; obtain ⟨⟨_,_,_⟩,⟨_,_,_⟩,⟨_,_,_⟩,⟨_,_,_⟩,_⟩ := hSw.2; go_simp; (try with_reducible rfl)
  try go_frame
  refine tv 9 34 rfl rfl ?_
  try go_frame
  refine tv 11 36 rfl rfl ?_
  try go_frame
  refine tv 12 37 rfl rfl ?_
  try go_frame
  refine tv 13 38 rfl rfl ?_
  try go_frame
  refine tk 14 39 rfl rfl ?_ ?_ ?_
  rotate_left
  ·intro wq hSw; obtain ⟨⟨_,_,_⟩,⟨_,_,_⟩,⟨_,_,_⟩,⟨_,_,_⟩,_⟩ := hSw.2; go_simp; (try with_reducible rfl)
  try go_frame
  refine ty [10] ?_
  refine AllReadyH.cons rfl (fun K hK => ?_) AllReadyH.nil
  go_simp
  (with_reducible refine Calls.mono (OG.out _) ?_); rintro e w5 ⟨rfl, hb⟩
  refine hK.out _ _ (hHeld0.next hb) (fun hHeld1 => ?_)
  replace hT0 := hT0.next hb
  clear hK K; try clear hb
  try go_frame
  refine ty [15] ?_
  refine AllReadyH.cons rfl (fun K hK => ?_) AllReadyH.nil
  go_simp
  refine Calls.mono (AE.out _ ⟨hT0.2.1, hT0.2.2.1, hHeld1.2⟩) ?_; rintro e w7 ⟨rfl, hX⟩
  refine hK.out _ _ (⟨hHeld1.1.trans hX.1, hX.2.2.2⟩) (fun hHeld2 => ?_)
  clear hK K; try clear hb
  try go_frame
  refine wpAnyH_done (by kernel_rfl) ?_ _
  have hHeld := hHeld2
  obtain ⟨⟨kz0,kc0,kf0⟩,⟨kz1,kc1,kf1⟩,⟨kz2,kc2,kf2⟩,⟨kz3,kc3,kf3⟩,_⟩ := hHeld.2
  replace hK : KeepsX w s (sixC s (t1 + B * n) n a b m) w7 := ⟨hHeld.1, hX.2⟩
  clear hHeld hHeld0 hHeld1 hHeld2 hX hT0 kz0 kc0 kf0 kz1 kc1 kf1 kz2 kc2 kf2 kz3 kc3 kf3 AE OG k2
  generalize t1 + B * n = t2 at *
  go_wp2_with fail
  refine region_keepsXB (w0 := w) (s := s) (L := [(s, 0, .int .i64 (rhi t2)), (s, 1, .int .u64 (rlo t2)), (s, 2, .int .i64 n), (s, 5, .int .i64 m)]) (M := [(s, 3, .int .i64 a), (s, 4, .int .i64 b)]) (by kernel_rfl) ⟨hK.1, hK.2.1, hK.2.2.1, hK.2.2.2.1, hK.2.2.2.2.2.2⟩ ⟨hK.1, hK.2.2.2.2.1, hK.2.2.2.2.2.1, trivial⟩ (fun hHeld0 hT0 => ?_)
  refine tv 0 41 rfl rfl ?_
  try go_frame
  refine tv 1 42 rfl rfl ?_
  try go_frame
  refine tv 2 43 rfl rfl ?_
  try go_frame
  refine tv 3 44 rfl rfl ?_
  try go_frame
  refine tv 4 45 rfl rfl ?_
  try go_frame
  refine tv 6 47 rfl rfl ?_
  try go_frame
  refine tv 7 48 rfl rfl ?_
  try go_frame
  refine tv 8 49 rfl rfl ?_
  try go_frame
  refine tk 9 50 rfl rfl ?_ ?_ ?_
  rotate_left
  ·intro wq hSw; obtain ⟨⟨_,_,_⟩,⟨_,_,_⟩,⟨_,_,_⟩,⟨_,_,_⟩,_⟩ := hSw.2; go_simp; (try with_reducible rfl)
  try go_frame
  refine tv 11 52 rfl rfl ?_
  try go_frame
  refine tv 12 53 rfl rfl ?_
  try go_frame
  refine tv 13 54 rfl rfl ?_
  try go_frame
  refine tv 15 56 rfl rfl ?_
  try go_frame
  refine tv 16 57 rfl rfl ?_
  try go_frame
  refine tv 17 58 rfl rfl ?_
  try go_frame
  refine tk 18 59 rfl rfl ?_ ?_ ?_
  rotate_left
  ·intro wq hSw; obtain ⟨⟨_,_,_⟩,⟨_,_,_⟩,⟨_,_,_⟩,⟨_,_,_⟩,_⟩ := hSw.2; go_simp; (try with_reducible rfl)
  try go_frame
  refine ty [5, 14] ?_
  refine AllReadyH.cons rfl (fun K hK => ?_) ?_
  obtain ⟨⟨kz0,kc0,kf0⟩,⟨kz1,kc1,kf1⟩,⟨kz2,kc2,kf2⟩,⟨kz3,kc3,kf3⟩,_⟩ := hHeld0.2
  obtain ⟨⟨t0z0, t0c0, t0f0⟩, ⟨t0z1, t0c1, t0f1⟩, _⟩ := hT0.2
  go_simp
  refine hK.out _ _ hHeld0 (fun hHeld1 => ?_)
  clear hK K; try clear hb
  try go_frame
  refine tv 10 51 rfl rfl ?_
  try go_frame
  refine ty [14] ?_
  refine AllReadyH.cons rfl (fun K hK => ?_) AllReadyH.nil
  obtain ⟨⟨kz0,kc0,kf0⟩,⟨kz1,kc1,kf1⟩,⟨kz2,kc2,kf2⟩,⟨kz3,kc3,kf3⟩,_⟩ := hHeld1.2
  obtain ⟨⟨t0z0, t0c0, t0f0⟩, ⟨t0z1, t0c1, t0f1⟩, _⟩ := hT0.2
  go_simp
  refine hK.out _ _ hHeld1 (fun hHeld2 => ?_)
  clear hK K; try clear hb
  try go_frame
  refine tv 19 60 rfl rfl ?_
  try go_frame
  refine tv 20 61 rfl rfl ?_
  try go_frame
  refine tv 21 62 rfl rfl ?_
  try go_frame
  refine ty [22] ?_
  refine AllReadyH.cons rfl (fun K hK => ?_) AllReadyH.nil
  obtain ⟨⟨t0z0, t0c0, t0f0⟩, ⟨t0z1, t0c1, t0f1⟩, _⟩ := hT0.2; (try simp at t0z0); (try simp at t0c0); (try simp at t0f0); (try simp at t0z1); (try simp at t0c1); (try simp at t0f1)
  go_simp
  refine hK.out _ _ (by first | exact hHeld2.alloc _ | (repeat (first | (with_reducible exact hHeld2) | (with_reducible exact (KeepsX.undrewR hHeld2)) | (refine KeepsX.set ?_ (by simp <;> omega) rfl (by simp <;> omega) _) | (with_reducible refine KeepsX.drew ?_)))) (fun hHeld3 => ?_)
  clear hK K; try clear hb
  try go_frame
  refine tv 23 63 rfl rfl ?_
  try go_frame
  refine tv 24 64 rfl rfl ?_
  try go_frame
  refine ty [25] ?_
  refine AllReadyH.cons rfl (fun K hK => ?_) AllReadyH.nil
  go_simp
  refine hK.out _ _ (by first | exact hHeld3.alloc _ | (repeat (first | (with_reducible exact hHeld3) | (with_reducible exact (KeepsX.undrewR hHeld3)) | (refine KeepsX.set ?_ (by simp <;> omega) rfl (by simp <;> omega) _) | (with_reducible refine KeepsX.drew ?_)))) (fun hHeld4 => ?_)
  clear hK K; try clear hb
  try go_frame
  refine wpAnyH_done (by kernel_rfl) ?_ _
  have hHeld := hHeld4
  obtain ⟨⟨kz0,kc0,kf0⟩,⟨kz1,kc1,kf1⟩,⟨kz2,kc2,kf2⟩,⟨kz3,kc3,kf3⟩,_⟩ := hHeld.2
  rotate_left 1
  refine AllReadyH.cons rfl (fun K hK => ?_) ?_
  obtain ⟨⟨kz0,kc0,kf0⟩,⟨kz1,kc1,kf1⟩,⟨kz2,kc2,kf2⟩,⟨kz3,kc3,kf3⟩,_⟩ := hHeld0.2
  obtain ⟨⟨t0z0, t0c0, t0f0⟩, ⟨t0z1, t0c1, t0f1⟩, _⟩ := hT0.2
  go_simp
  refine hK.out _ _ hHeld0 (fun hHeld5 => ?_)
  clear hK K; try clear hb
  try go_frame
  refine tv 19 60 rfl rfl ?_
  try go_frame
  refine ty [5] ?_
  refine AllReadyH.cons rfl (fun K hK => ?_) AllReadyH.nil
  obtain ⟨⟨kz0,kc0,kf0⟩,⟨kz1,kc1,kf1⟩,⟨kz2,kc2,kf2⟩,⟨kz3,kc3,kf3⟩,_⟩ := hHeld5.2
  obtain ⟨⟨t0z0, t0c0, t0f0⟩, ⟨t0z1, t0c1, t0f1⟩, _⟩ := hT0.2
  go_simp
  refine hK.out _ _ hHeld5 (fun hHeld6 => ?_)
  clear hK K; try clear hb
  try go_frame
  refine tv 10 51 rfl rfl ?_
  try go_frame
  refine tv 20 61 rfl rfl ?_
  try go_frame
  refine tv 21 62 rfl rfl ?_
  try go_frame
  refine ty [22] ?_
  refine AllReadyH.cons rfl (fun K hK => ?_) AllReadyH.nil
  obtain ⟨⟨t0z0, t0c0, t0f0⟩, ⟨t0z1, t0c1, t0f1⟩, _⟩ := hT0.2; (try simp at t0z0); (try simp at t0c0); (try simp at t0f0); (try simp at t0z1); (try simp at t0c1); (try simp at t0f1)
  go_simp
  refine hK.out _ _ (by first | exact hHeld6.alloc _ | (repeat (first | (with_reducible exact hHeld6) | (with_reducible exact (KeepsX.undrewR hHeld6)) | (refine KeepsX.set ?_ (by simp <;> omega) rfl (by simp <;> omega) _) | (with_reducible refine KeepsX.drew ?_)))) (fun hHeld7 => ?_)
  clear hK K; try clear hb
  try go_frame
  refine tv 23 63 rfl rfl ?_
  try go_frame
  refine tv 24 64 rfl rfl ?_
  try go_frame
  refine ty [25] ?_
  refine AllReadyH.cons rfl (fun K hK => ?_) AllReadyH.nil
  go_simp
  refine hK.out _ _ (by first | exact hHeld7.alloc _ | (repeat (first | (with_reducible exact hHeld7) | (with_reducible exact (KeepsX.undrewR hHeld7)) | (refine KeepsX.set ?_ (by simp <;> omega) rfl (by simp <;> omega) _) | (with_reducible refine KeepsX.drew ?_)))) (fun hHeld8 => ?_)
  clear hK K; try clear hb
  try go_frame
  refine wpAnyH_done (by kernel_rfl) ?_ _
  have hHeld := hHeld8
  obtain ⟨⟨kz0,kc0,kf0⟩,⟨kz1,kc1,kf1⟩,⟨kz2,kc2,kf2⟩,⟨kz3,kc3,kf3⟩,_⟩ := hHeld.2
  rotate_left 1
  exact AllReadyH.nil
  all_goals
   replace hK : KeepsX w s (sixC s t2 n a1 b1 m) (World.drew (World.setCell (World.setCell w7 ⟨s, 3, none⟩ (.int .i64 a1)) ⟨s, 4, none⟩ (.int .i64 b1))) := ⟨hHeld.1, hHeld.2.1, hHeld.2.2.1, hHeld.2.2.2.1, ⟨kz0, by simp [go_sem, *], by simp [*]⟩, ⟨kz0, by simp [go_sem, *], by simp [*]⟩, hHeld.2.2.2.2⟩
   (try clear hHeld); (try clear hHeld0); (try clear hHeld1); (try clear hHeld2); (try clear hHeld3); (try clear hHeld4); (try clear hHeld5); (try clear hHeld6); (try clear hHeld7); (try clear hHeld8); (try clear hT0); (try clear hX); (try clear kz0 kc0 kf0) ; (try clear kz1 kc1 kf1) ; (try clear kz2 kc2 kf2) ; (try clear kz3 kc3 kf3) ; (try clear kz4 kc4 kf4) ; (try clear kz5 kc5 kf5); (try clear t0z0 t0c0 t0f0) ; (try clear t0z1 t0c1 t0f1)
   clear k3 k4
   generalize World.drew (World.setCell (World.setCell w7 ⟨s, 3, none⟩ (.int .i64 a1)) ⟨s, 4, none⟩ (.int .i64 b1)) = w8 at *
   obtain ⟨E, hE⟩ : ∃ E, E = a1 * (n : Int) + b1 := ⟨_, rfl⟩
   replace k6 : IntKind.i64.wrap (a1 * (n : Int) + b1) = E := by rw [k6, hE]
   have HE := Lib.hid hE
   clear hE
   go_wp2_with fail
   refine region_keepsX (w0 := w) (s := s) (L := [(s, 0, .int .i64 (rhi t2)), (s, 1, .int .u64 (rlo t2)), (s, 2, .int .i64 n), (s, 3, .int .i64 a1), (s, 4, .int .i64 b1), (s, 5, .int .i64 m)]) (by kernel_rfl) hK (fun hHeld0 => ?_)
   refine tv 0 65 rfl rfl ?_
   try go_frame
   refine tv 1 66 rfl rfl ?_
   try go_frame
   refine tv 2 67 rfl rfl ?_
   try go_frame
   refine tk 3 68 rfl rfl ?_ ?_ ?_
   rotate_left
   ·intro wq hSw; obtain ⟨⟨_,_,_⟩,⟨_,_,_⟩,⟨_,_,_⟩,⟨_,_,_⟩,⟨_,_,_⟩,⟨_,_,_⟩,_⟩ := hSw.2; go_simp; (try with_reducible rfl)
   try go_frame
   refine tv 4 69 rfl rfl ?_
   try go_frame
   refine tv 5 70 rfl rfl ?_
   try go_frame
   refine tv 6 71 rfl rfl ?_
   try go_frame
   refine tk 7 72 rfl rfl ?_ ?_ ?_
   rotate_left
   ·intro wq hSw; obtain ⟨⟨_,_,_⟩,⟨_,_,_⟩,⟨_,_,_⟩,⟨_,_,_⟩,⟨_,_,_⟩,⟨_,_,_⟩,_⟩ := hSw.2; go_simp; (try with_reducible rfl)
   try go_frame
   refine tv 8 73 rfl rfl ?_
   try go_frame
   refine tv 9 74 rfl rfl ?_
   try go_frame
   refine tv 10 75 rfl rfl ?_
   try go_frame
   refine tv 11 76 rfl rfl ?_
   try go_frame
   refine tk 12 77 rfl rfl ?_ ?_ ?_
   rotate_left
   ·intro wq hSw; obtain ⟨⟨_,_,_⟩,⟨_,_,_⟩,⟨_,_,_⟩,⟨_,_,_⟩,⟨_,_,_⟩,⟨_,_,_⟩,_⟩ := hSw.2; go_simp; (try with_reducible rfl)
   try go_frame
   refine tv 13 78 rfl rfl ?_
   try go_frame
   refine tv 14 3 rfl rfl ?_
   try go_frame
   refine wpAnyH_done (by kernel_rfl) ?_ _
   have hHeld := hHeld0
   obtain ⟨⟨kz0,kc0,kf0⟩,⟨kz1,kc1,kf1⟩,⟨kz2,kc2,kf2⟩,⟨kz3,kc3,kf3⟩,⟨kz4,kc4,kf4⟩,⟨kz5,kc5,kf5⟩,_⟩ := hHeld.2
   replace hK : KeepsX w s (sixC s t2 n a1 b1 m) (World.drew w8) := hHeld
   (try clear hHeld); (try clear hHeld0)
   generalize World.drew w8 = w9 at *
   clear k5 k6
   by_cases g : m ≤ E
   ·have HN := Lib.hid g
    have g1 : decide (m ≤ E) = true := by simpa using g
    obtain ⟨h1, h2, h3, h4, h5, h6, h7, h8, h9, h10⟩ := HH.out
    have v := V.out
    have hE := HE.out
    have hE0 : 0 ≤ E := by omega
    have q0 : 0 ≤ E / m := Int.ediv_nonneg hE0 (by omega)
    have q1 : E / m < (n : Int) + 1 := by
     refine Int.ediv_lt_of_lt_mul (by omega) ?_
     have w1 : a1 * (n : Int) ≤ (m - 1) * n := Int.mul_le_mul_of_nonneg_right (by omega) (by omega)
     have w2 : ((n : Int) + 1) * m = (m - 1) * n + n + m := by
      rw [Int.add_mul, Int.sub_mul, Int.one_mul, Int.one_mul, Int.mul_comm (n : Int) m]; omega
     omega
    obtain ⟨n2, hn2⟩ : ∃ n2 : Nat, E / m = n2 := Int.eq_ofNat_of_zero_le q0
    have z0 := Int.emod_nonneg E m0
    have z1 := Int.emod_lt_of_pos E (show 0 < m by omega)
    have a0 : 1 ≤ a1 := by
     by_cases ga : a1 = 0
     ·subst ga
      rw [Int.zero_mul] at hE
      omega
     ·omega
    have ft := floor_turned n a1 b1 m a0 h5 h6 h7
    rw [← hE, hn2, Int.toNat_natCast] at ft
    have k7 : IntKind.i64.wrap (E.tdiv m) = n2 := by rw [Int.tdiv_eq_ediv_of_nonneg hE0, hn2, IntKind.wrap_i64]; omega
    have k8 : E.tmod m = E % m := Int.tmod_eq_emod_of_nonneg hE0
    generalize E % m = b2 at *
    have HJ : Hid (Fits T ∧ Fits t2 ∧ n2 ≤ 256 ∧ 0 ≤ m ∧ m ≤ 281474976710656 ∧ 0 ≤ b2 ∧ b2 ≤ 281474976710656 ∧ 1 ≤ a1 ∧ a1 ≤ 281474976710656 ∧ t2 + floorS n2 m b2 a1 = T ∧ a1 < m) :=
     Lib.hid ⟨h1, h2, by omega, by omega, h9, z0, by omega, a0, by omega, by rw [← ft]; exact h10, h5⟩
    clear h1 h2 h3 h4 h5 h6 h7 h8 h9 h10 v hE hE0 q0 q1 hn2 z0 z1 a0 ft g V HE HH HN
    go_wp2_with fail
    refine region_keepsXB (w0 := w) (s := s) (L := [(s, 0, .int .i64 (rhi t2)), (s, 1, .int .u64 (rlo t2)), (s, 3, .int .i64 a1), (s, 5, .int .i64 m)]) (M := [(s, 2, .int .i64 n), (s, 4, .int .i64 b1)]) (by kernel_rfl) ⟨hK.1, hK.2.1, hK.2.2.1, hK.2.2.2.2.1, hK.2.2.2.2.2.2⟩ ⟨hK.1, hK.2.2.2.1, hK.2.2.2.2.2.1, trivial⟩ (fun hHeld0 hT0 => ?_)
    refine tv 0 85 rfl rfl ?_
    try go_frame
    refine tv 1 86 rfl rfl ?_
    try go_frame
    refine tv 2 87 rfl rfl ?_
    try go_frame
    refine tv 3 88 rfl rfl ?_
    try go_frame
    refine tv 4 89 rfl rfl ?_
    try go_frame
    refine tv 5 90 rfl rfl ?_
    try go_frame
    refine tk 6 91 rfl rfl ?_ ?_ ?_
    rotate_left
    ·intro wq hSw; obtain ⟨⟨_,_,_⟩,⟨_,_,_⟩,⟨_,_,_⟩,⟨_,_,_⟩,_⟩ := hSw.2; go_simp; (try with_reducible rfl)
    try go_frame
    refine tv 7 92 rfl rfl ?_
    try go_frame
    refine tv 8 93 rfl rfl ?_
    try go_frame
    refine tv 9 94 rfl rfl ?_
    try go_frame
    refine tv 10 95 rfl rfl ?_
    try go_frame
    refine tv 11 96 rfl rfl ?_
    try go_frame
    refine tk 12 97 rfl rfl ?_ ?_ ?_
    rotate_left
    ·intro wq hSw; obtain ⟨⟨_,_,_⟩,⟨_,_,_⟩,⟨_,_,_⟩,⟨_,_,_⟩,_⟩ := hSw.2; go_simp; (try with_reducible rfl)
    try go_frame
    refine tv 13 98 rfl rfl ?_
    try go_frame
    refine tv 14 99 rfl rfl ?_
    try go_frame
    refine tv 15 100 rfl rfl ?_
    try go_frame
    refine ty [16] ?_
    refine AllReadyH.cons rfl (fun K hK => ?_) AllReadyH.nil
    obtain ⟨⟨t0z0, t0c0, t0f0⟩, ⟨t0z1, t0c1, t0f1⟩, _⟩ := hT0.2; (try simp at t0z0); (try simp at t0c0); (try simp at t0f0); (try simp at t0z1); (try simp at t0c1); (try simp at t0f1)
    go_simp
    refine hK.out _ _ (by first | exact hHeld0.alloc _ | (repeat (first | (with_reducible exact hHeld0) | (with_reducible exact (KeepsX.undrewR hHeld0)) | (refine KeepsX.set ?_ (by simp <;> omega) rfl (by simp <;> omega) _) | (with_reducible refine KeepsX.drew ?_)))) (fun hHeld1 => ?_)
    clear hK K; try clear hb
    try go_frame
    refine tv 17 101 rfl rfl ?_
    try go_frame
    refine tv 18 102 rfl rfl ?_
    try go_frame
    refine ty [19] ?_
    refine AllReadyH.cons rfl (fun K hK => ?_) AllReadyH.nil
    go_simp
    refine hK.out _ _ (by first | exact hHeld1.alloc _ | (repeat (first | (with_reducible exact hHeld1) | (with_reducible exact (KeepsX.undrewR hHeld1)) | (refine KeepsX.set ?_ (by simp <;> omega) rfl (by simp <;> omega) _) | (with_reducible refine KeepsX.drew ?_)))) (fun hHeld2 => ?_)
    clear hK K; try clear hb
    try go_frame
    refine wpAnyH_done (by kernel_rfl) ?_ _
    have hHeld := hHeld2
    obtain ⟨⟨kz0,kc0,kf0⟩,⟨kz1,kc1,kf1⟩,⟨kz2,kc2,kf2⟩,⟨kz3,kc3,kf3⟩,_⟩ := hHeld.2
    all_goals
     replace hK : KeepsX w s (sixC s t2 n2 a1 b2 m) (World.drew (World.setCell (World.setCell w9 ⟨s, 2, none⟩ (.int .i64 n2)) ⟨s, 4, none⟩ (.int .i64 b2))) := ⟨hHeld.1, hHeld.2.1, hHeld.2.2.1, ⟨kz0, by simp [go_sem, *], by simp [*]⟩, hHeld.2.2.2.1, ⟨kz0, by simp [go_sem, *], by simp [*]⟩, hHeld.2.2.2.2⟩
     (try clear hHeld); (try clear hHeld0); (try clear hHeld1); (try clear hHeld2); (try clear hHeld3); (try clear hHeld4); (try clear hHeld5); (try clear hHeld6); (try clear hHeld7); (try clear hHeld8); (try clear hT0); (try clear hX); (try clear kz0 kc0 kf0) ; (try clear kz1 kc1 kf1) ; (try clear kz2 kc2 kf2) ; (try clear kz3 kc3 kf3) ; (try clear kz4 kc4 kf4) ; (try clear kz5 kc5 kf5); (try clear t0z0 t0c0 t0f0) ; (try clear t0z1 t0c1 t0f1)
     generalize World.drew (World.setCell (World.setCell w9 ⟨s, 2, none⟩ (.int .i64 n2)) ⟨s, 4, none⟩ (.int .i64 b2)) = w10 at *
     clear k7 k8
     go_wp2_with fail
     refine region_keepsXB (w0 := w) (s := s) (L := [(s, 0, .int .i64 (rhi t2)), (s, 1, .int .u64 (rlo t2)), (s, 2, .int .i64 n2), (s, 4, .int .i64 b2)]) (M := [(s, 3, .int .i64 a1), (s, 5, .int .i64 m)]) (by kernel_rfl) ⟨hK.1, hK.2.1, hK.2.2.1, hK.2.2.2.1, hK.2.2.2.2.2.1, trivial⟩ ⟨hK.1, hK.2.2.2.2.1, hK.2.2.2.2.2.2.1, trivial⟩ (fun hHeld0 hT0 => ?_)
     refine tv 0 103 rfl rfl ?_
     try go_frame
     refine tv 1 104 rfl rfl ?_
     try go_frame
     refine tv 2 105 rfl rfl ?_
     try go_frame
     refine tv 3 106 rfl rfl ?_
     try go_frame
     refine tv 4 107 rfl rfl ?_
     try go_frame
     refine tv 6 109 rfl rfl ?_
     try go_frame
     refine tv 7 110 rfl rfl ?_
     try go_frame
     refine tv 8 111 rfl rfl ?_
     try go_frame
     refine ty [5, 9] ?_
     refine AllReadyH.cons rfl (fun K hK => ?_) ?_
     obtain ⟨⟨kz0,kc0,kf0⟩,⟨kz1,kc1,kf1⟩,⟨kz2,kc2,kf2⟩,⟨kz3,kc3,kf3⟩,_⟩ := hHeld0.2
     obtain ⟨⟨t0z0, t0c0, t0f0⟩, ⟨t0z1, t0c1, t0f1⟩, _⟩ := hT0.2
     go_simp
     refine hK.out _ _ hHeld0 (fun hHeld1 => ?_)
     clear hK K; try clear hb
     try go_frame
     refine ty [9] ?_
     refine AllReadyH.cons rfl (fun K hK => ?_) AllReadyH.nil
     obtain ⟨⟨kz0,kc0,kf0⟩,⟨kz1,kc1,kf1⟩,⟨kz2,kc2,kf2⟩,⟨kz3,kc3,kf3⟩,_⟩ := hHeld1.2
     obtain ⟨⟨t0z0, t0c0, t0f0⟩, ⟨t0z1, t0c1, t0f1⟩, _⟩ := hT0.2
     go_simp
     refine hK.out _ _ hHeld1 (fun hHeld2 => ?_)
     clear hK K; try clear hb
     try go_frame
     refine tv 10 113 rfl rfl ?_
     try go_frame
     refine tv 11 114 rfl rfl ?_
     try go_frame
     refine ty [12] ?_
     refine AllReadyH.cons rfl (fun K hK => ?_) AllReadyH.nil
     obtain ⟨⟨t0z0, t0c0, t0f0⟩, ⟨t0z1, t0c1, t0f1⟩, _⟩ := hT0.2; (try simp at t0z0); (try simp at t0c0); (try simp at t0f0); (try simp at t0z1); (try simp at t0c1); (try simp at t0f1)
     go_simp
     refine hK.out _ _ (by first | exact hHeld2.alloc _ | (repeat (first | (with_reducible exact hHeld2) | (with_reducible exact (KeepsX.undrewR hHeld2)) | (refine KeepsX.set ?_ (by simp <;> omega) rfl (by simp <;> omega) _) | (with_reducible refine KeepsX.drew ?_)))) (fun hHeld3 => ?_)
     clear hK K; try clear hb
     try go_frame
     refine tv 13 115 rfl rfl ?_
     try go_frame
     refine tv 14 116 rfl rfl ?_
     try go_frame
     refine ty [15] ?_
     refine AllReadyH.cons rfl (fun K hK => ?_) AllReadyH.nil
     go_simp
     refine hK.out _ _ (by first | exact hHeld3.alloc _ | (repeat (first | (with_reducible exact hHeld3) | (with_reducible exact (KeepsX.undrewR hHeld3)) | (refine KeepsX.set ?_ (by simp <;> omega) rfl (by simp <;> omega) _) | (with_reducible refine KeepsX.drew ?_)))) (fun hHeld4 => ?_)
     clear hK K; try clear hb
     try go_frame
     refine wpAnyH_done (by kernel_rfl) ?_ _
     have hHeld := hHeld4
     obtain ⟨⟨kz0,kc0,kf0⟩,⟨kz1,kc1,kf1⟩,⟨kz2,kc2,kf2⟩,⟨kz3,kc3,kf3⟩,_⟩ := hHeld.2
     rotate_left 1
     refine AllReadyH.cons rfl (fun K hK => ?_) ?_
     obtain ⟨⟨kz0,kc0,kf0⟩,⟨kz1,kc1,kf1⟩,⟨kz2,kc2,kf2⟩,⟨kz3,kc3,kf3⟩,_⟩ := hHeld0.2
     obtain ⟨⟨t0z0, t0c0, t0f0⟩, ⟨t0z1, t0c1, t0f1⟩, _⟩ := hT0.2
     go_simp
     refine hK.out _ _ hHeld0 (fun hHeld5 => ?_)
     clear hK K; try clear hb
     try go_frame
     refine ty [5] ?_
     refine AllReadyH.cons rfl (fun K hK => ?_) AllReadyH.nil
     obtain ⟨⟨kz0,kc0,kf0⟩,⟨kz1,kc1,kf1⟩,⟨kz2,kc2,kf2⟩,⟨kz3,kc3,kf3⟩,_⟩ := hHeld5.2
     obtain ⟨⟨t0z0, t0c0, t0f0⟩, ⟨t0z1, t0c1, t0f1⟩, _⟩ := hT0.2
     go_simp
     refine hK.out _ _ hHeld5 (fun hHeld6 => ?_)
     clear hK K; try clear hb
     try go_frame
     refine tv 10 113 rfl rfl ?_
     try go_frame
     refine tv 11 114 rfl rfl ?_
     try go_frame
     refine ty [12] ?_
     refine AllReadyH.cons rfl (fun K hK => ?_) AllReadyH.nil
     obtain ⟨⟨t0z0, t0c0, t0f0⟩, ⟨t0z1, t0c1, t0f1⟩, _⟩ := hT0.2; (try simp at t0z0); (try simp at t0c0); (try simp at t0f0); (try simp at t0z1); (try simp at t0c1); (try simp at t0f1)
     go_simp
     refine hK.out _ _ (by first | exact hHeld6.alloc _ | (repeat (first | (with_reducible exact hHeld6) | (with_reducible exact (KeepsX.undrewR hHeld6)) | (refine KeepsX.set ?_ (by simp <;> omega) rfl (by simp <;> omega) _) | (with_reducible refine KeepsX.drew ?_)))) (fun hHeld7 => ?_)
     clear hK K; try clear hb
     try go_frame
     refine tv 13 115 rfl rfl ?_
     try go_frame
     refine tv 14 116 rfl rfl ?_
     try go_frame
     refine ty [15] ?_
     refine AllReadyH.cons rfl (fun K hK => ?_) AllReadyH.nil
     go_simp
     refine hK.out _ _ (by first | exact hHeld7.alloc _ | (repeat (first | (with_reducible exact hHeld7) | (with_reducible exact (KeepsX.undrewR hHeld7)) | (refine KeepsX.set ?_ (by simp <;> omega) rfl (by simp <;> omega) _) | (with_reducible refine KeepsX.drew ?_)))) (fun hHeld8 => ?_)
     clear hK K; try clear hb
     try go_frame
     refine wpAnyH_done (by kernel_rfl) ?_ _
     have hHeld := hHeld8
     obtain ⟨⟨kz0,kc0,kf0⟩,⟨kz1,kc1,kf1⟩,⟨kz2,kc2,kf2⟩,⟨kz3,kc3,kf3⟩,_⟩ := hHeld.2
     rotate_left 1
     exact AllReadyH.nil
     all_goals
      replace hK : KeepsX w s (sixC s t2 n2 m b2 a1) (World.drew (World.setCell (World.setCell w10 ⟨s, 3, none⟩ (.int .i64 m)) ⟨s, 5, none⟩ (.int .i64 a1))) := ⟨hHeld.1, hHeld.2.1, hHeld.2.2.1, hHeld.2.2.2.1, ⟨kz0, by simp [go_sem, *], by simp [*]⟩, hHeld.2.2.2.2.1, ⟨kz0, by simp [go_sem, *], by simp [*]⟩, trivial⟩
      (try clear hHeld); (try clear hHeld0); (try clear hHeld1); (try clear hHeld2); (try clear hHeld3); (try clear hHeld4); (try clear hHeld5); (try clear hHeld6); (try clear hHeld7); (try clear hHeld8); (try clear hT0); (try clear hX); (try clear kz0 kc0 kf0) ; (try clear kz1 kc1 kf1) ; (try clear kz2 kc2 kf2) ; (try clear kz3 kc3 kf3) ; (try clear kz4 kc4 kf4) ; (try clear kz5 kc5 kf5); (try clear t0z0 t0c0 t0f0) ; (try clear t0z1 t0c1 t0f1)
      generalize World.drew (World.setCell (World.setCell w10 ⟨s, 3, none⟩ (.int .i64 m)) ⟨s, 5, none⟩ (.int .i64 a1)) = w11 at *
      go_wp2_with fail
      go_step3
      obtain ⟨h1, h2, h3, h4, h5, h6, h7, h8, h9, h10, h11⟩ := HJ.out
      obtain ⟨_, _, _, _, _, _, _, _, _, _, hK0⟩ := hG0
      have e1 : atM s w11 = a1.toNat := by unfold atM; rw [hK.2.2.2.2.2.2.1.2.1]; rfl
      have e2 : atM s w' = m.toNat := by unfold atM; rw [hK0.2.2.2.2.2.2.1.2.1]; rfl
      exact ⟨rfl, ⟨rfl, rfl, rfl, rfl, t2, n2, m, b2, a1, h1, h2, h3, h4, h5, h6, h7, h8, h9, h10, hK⟩, by rw [e1, e2]; omega⟩
   ·have HN := Lib.hid g
    have g1 : decide (m ≤ E) = false := by simpa using g
    clear g
    go_wp2_with fail
    rw [jump_normal]
    go_returns
    obtain ⟨h1, h2, h3, h4, h5, h6, h7, h8, h9, h10⟩ := HH.out
    have e : floorS n a1 b1 m = 0 := floor_none n a1 b1 m h4 h6 (by have := HE.out; have := HN.out; omega)
    rw [e, Int.add_zero] at h10
    subst h10
    exact ⟨rfl, hK.1, hK.2.1, hK.2.2.1, trivial⟩
end Go.Proofs.YtcfidimnbamnkaaGreat

/-
 Layer 6: the whole numbers are cut off, and what the steps come to. Conditions: those written at each fact.
-/
namespace Go.Proofs.YtcfidimnbamnkaaGreat
open Go.RowKit

theorem Cells.mem : ∀ {L : List (Nat × Nat × Value)} {W : World}, Cells L W → ∀ q ∈ L, q.1 < W.heap.size ∧ W.cell? ⟨q.1, q.2.1, none⟩ = some q.2.2 ∧ W.frozen? ⟨q.1, q.2.1, none⟩ = false
 | [], _, _, q, hq => by cases hq
 | (_, _, _) :: _, _, h, q, hq => by
  rcases List.mem_cons.1 hq with rfl | hq
  ·exact h.1
  ·exact Cells.mem h.2 q hq
theorem Cells.of_mem : ∀ {L : List (Nat × Nat × Value)} {W : World}, (∀ q ∈ L, q.1 < W.heap.size ∧ W.cell? ⟨q.1, q.2.1, none⟩ = some q.2.2 ∧ W.frozen? ⟨q.1, q.2.1, none⟩ = false) → Cells L W
 | [], _, _ => trivial
 | (_, _, _) :: _, _, h => ⟨h _ (List.mem_cons_self ..), Cells.of_mem fun q hq => h q (List.mem_cons_of_mem _ hq)⟩
theorem Keeps.sub {w W : World} {L L' : List (Nat × Nat × Value)} (h : Keeps w L W) (hs : ∀ q ∈ L', q ∈ L) : Keeps w L' W := ⟨h.1, Cells.of_mem fun q hq => h.2.mem q (hs q hq)⟩
theorem div_told (z m : Int) (hz : Fits z) (hm0 : 1 ≤ m) (hm1 : m ≤ 281474976710656) (w : World) :
  Calls Tryz.prog 251 #[wideV (rhi z) (rlo z), .int .i64 m] w (Ret w (.tuple #[wideV (rhi (z / m)) (rlo (z / m)), .int .i64 (z % m), .int .i64 0])) := by
 have h := div_any (rhi z) (rlo z) m (rhi_i64 _) (rlo_u64 _) (by unfold I64; omega) w
 rw [val_r hz] at h
 have n1 : ¬ m < 1 := by omega
 simp only [divV, qhi, qlo, qrest, qcode, if_neg n1] at h
 exact h
theorem term_fits {z : Int} (h : termB z = true) : Fits z := by
 have := (termB_iff z).1 h
 unfold Fits
 omega
theorem floor_le {m : Int} (hm : 1 ≤ m) (n : Nat) (a b : Int) (ha : a < m) (hb : b < m) : floorS n a b m ≤ prN n + n := by
 induction n with
 | zero => simp [floorS, prN]
 | succ n ih =>
  simp only [floorS, prN]
  have : (a * n + b) / m < (n : Int) + 1 := by
   refine Int.ediv_lt_of_lt_mul (by omega) ?_
   have w1 : a * (n : Int) ≤ m * n := Int.mul_le_mul_of_nonneg_right (by omega) (by omega)
   rw [Int.add_mul, Int.one_mul, Int.mul_comm (n : Int) m]
   omega
  omega
theorem abs_div {z m Z : Int} (hm : 1 ≤ m) (hZ : 0 ≤ Z) (h : -Z ≤ z ∧ z ≤ Z) : -Z ≤ z / m ∧ z / m ≤ Z := by
 have e := Int.mul_ediv_add_emod z m
 have r0 := Int.emod_nonneg z (show m ≠ 0 by omega)
 constructor
 ·refine Int.le_ediv_of_mul_le (by omega) ?_
  have : Z * 1 ≤ Z * m := Int.mul_le_mul_of_nonneg_left hm hZ
  rw [Int.neg_mul]
  omega
 ·refine Int.ediv_le_of_le_mul (by omega) ?_
  have : Z * 1 ≤ Z * m := Int.mul_le_mul_of_nonneg_left hm hZ
  omega
theorem mul_in {x y X Y : Int} (hx : -X ≤ x ∧ x ≤ X) (hy : 0 ≤ y ∧ y ≤ Y) (hX : 0 ≤ X) : -(X * Y) ≤ x * y ∧ x * y ≤ X * Y := by
 have h1 : x * y ≤ X * y := Int.mul_le_mul_of_nonneg_right hx.2 hy.1
 have h2 : -X * y ≤ x * y := Int.mul_le_mul_of_nonneg_right hx.1 hy.1
 have h3 : X * y ≤ X * Y := Int.mul_le_mul_of_nonneg_left hy.2 hX
 rw [Int.neg_mul] at h2
 omega
structure Room (n : Nat) (a b m : Int) : Prop where
 an : Fits (a / m * prN n)
 bn : Fits (b / m * n)
 both : Fits (a / m * prN n + b / m * n)
 all : Fits (floorS n a b m)
 quot : Fits (a / m) ∧ Fits (b / m)
theorem room {n : Nat} {a b m : Int} (hn : n ≤ 256) (ha : termB a = true) (hb : termB b = true) (hm : 1 ≤ m) : Room n a b m := by
 have ha := (termB_iff a).1 ha
 have hb := (termB_iff b).1 hb
 have qa := abs_div hm (by omega) ha
 have qb := abs_div hm (by omega) hb
 have p0 := prN_nonneg n
 have p1 := prN_le hn
 have ma := mul_in qa ⟨p0, p1⟩ (by omega)
 have mb := mul_in qb ⟨(show (0 : Int) ≤ n by omega), (show (n : Int) ≤ 256 by omega)⟩ (by omega)
 have fl := floor_mod hm n a b
 have f0 := floor_nonneg hm n (a % m) (b % m) (Int.emod_nonneg a (by omega)) (Int.emod_nonneg b (by omega))
 have f1 := floor_le hm n (a % m) (b % m) (Int.emod_lt_of_pos a (by omega)) (Int.emod_lt_of_pos b (by omega))
 refine ⟨?_, ?_, ?_, ?_, ?_, ?_⟩ <;> unfold Fits <;> omega
set_option maxRecDepth 100000 in
set_option maxHeartbeats 4000000 in
theorem cut_any (n : Nat) (a b m : Int) (hn : n ≤ 256) (ha : termB a = true) (hb : termB b = true) (hm0 : 1 ≤ m) (hm1 : m ≤ 281474976710656) (w : World) :
  Calls Tryz.prog 255 #[.int .i64 n, wideV (rhi a) (rlo a), wideV (rhi b) (rlo b), .int .i64 m] w
   (Ret w (.agg #[.int .i64 (rhi (a / m * prN n + b / m * n)), .int .u64 (rlo (a / m * prN n + b / m * n)), .int .i64 n, .int .i64 (a % m), .int .i64 (b % m), .int .i64 m])) := by
 obtain ⟨r1, r2, r3, _, r5, r6⟩ := room hn ha hb hm0
 have z0 : Fits (0 : Int) := by unfold Fits; omega
 have zh : rhi 0 = 0 := by decide +kernel
 have zl : rlo 0 = 0 := by decide +kernel
 have p0 := prN_nonneg n
 have p1 := prN_le hn
 have DA := Lib.hid (fun W => div_told a m (term_fits ha) hm0 hm1 W)
 have DB := Lib.hid (fun W => div_told b m (term_fits hb) hm0 hm1 W)
 have PR := Lib.hid (fun W => pairs_any n hn W)
 have AD := fun s M W k hM => sadd_any s 0 (a / m) (prN n) M z0 r5 (by unfold I64; omega) r1 (by rw [Int.zero_add]; exact r1) W k hM
 have AE := fun s M W k hM => sadd_any s (a / m * prN n) (b / m) n M r1 r6 (by unfold I64; omega) r2 r3 W k hM
 rw [zh, zl, Int.zero_add] at AD
 replace AD := Lib.hid AD
 replace AE := Lib.hid AE
 clear r1 r2 r3 r5 r6 z0 zh zl p0 p1 ha hb hm0 hm1 hn
 generalize a / m * prN n + b / m * n = t at *
 generalize a / m * prN n = p at *
 generalize a / m = x at *
 generalize b / m = y at *
 generalize a % m = ra at *
 generalize b % m = rb at *
 generalize prN n = pn at *
 generalize rhi a = a0 at *
 generalize rlo a = a1 at *
 generalize rhi b = b0 at *
 generalize rlo b = b1 at *
 generalize rhi t = t0 at *
 generalize rlo t = t1 at *
 generalize rhi p = u0 at *
 generalize rlo p = u1 at *
 generalize rhi x = x0 at *
 generalize rlo x = x1 at *
 generalize rhi y = y0 at *
 generalize rlo y = y1 at *
 go_enter Tryz.func255, Tryz.ntmps255
 go_wp2_with fail
 refine (DA.out _).mono ?_
 rintro e w1 ⟨rfl, hb⟩
 have hHeld : Keeps w [(w.heap.size + 1, 0, .int .i64 b0), (w.heap.size + 1, 1, .int .u64 b1), (w.heap.size + 1 + 1, 0, .int .i64 0), (w.heap.size + 1 + 1, 1, .int .u64 0), (w.heap.size + 1 + 1, 2, .int .i64 0), (w.heap.size + 1 + 1, 3, .int .i64 0), (w.heap.size + 1 + 1, 4, .int .i64 0), (w.heap.size + 1 + 1, 5, .int .i64 0), (w.heap.size + 1 + 1 + 1, 0, .int .i64 0), (w.heap.size + 1 + 1 + 1, 1, .int .u64 0), (w.heap.size + 1 + 1 + 1, 2, .int .i64 n), (w.heap.size + 1 + 1 + 1, 3, .int .i64 0), (w.heap.size + 1 + 1 + 1, 4, .int .i64 0), (w.heap.size + 1 + 1 + 1, 5, .int .i64 m)] _ := Keeps.next (by refine ⟨by go_grown, ?_⟩; simp [Cells, go_sem]) hb
 clear hb
 obtain ⟨⟨kz0,kc0,kf0⟩,⟨kz1,kc1,kf1⟩,⟨kz2,kc2,kf2⟩,⟨kz3,kc3,kf3⟩,⟨kz4,kc4,kf4⟩,⟨kz5,kc5,kf5⟩,⟨kz6,kc6,kf6⟩,⟨kz7,kc7,kf7⟩,⟨kz8,kc8,kf8⟩,⟨kz9,kc9,kf9⟩,⟨kz10,kc10,kf10⟩,⟨kz11,kc11,kf11⟩,⟨kz12,kc12,kf12⟩,⟨kz13,kc13,kf13⟩,_⟩ := hHeld.2
 obtain ⟨s, hs⟩ : ∃ s, s = w.heap.size + 1 + 1 + 1 := ⟨_, rfl⟩
 obtain ⟨r, hr⟩ : ∃ r, r = w.heap.size + 1 + 1 := ⟨_, rfl⟩
 have n1 : w1.heap.size ≠ s := by omega
 have n3 : r ≠ s := by omega
 have sl := Lib.hid (show w.heap.size ≤ s by omega)
 have rl := Lib.hid (show w.heap.size ≤ r by omega)
 rw [← hs, ← hr] at hHeld
 rw [← hs, ← hr]
 rw [← hs] at kz13
 rw [← hr] at kz2
 clear hs hr
 go_wp2_with fail
 refine (DB.out _).mono ?_
 rintro e w2 ⟨rfl, hb⟩
 have hE : Keeps w [(w1.heap.size, 0, .int .i64 x0), (w1.heap.size, 1, .int .u64 x1)] w2 := (newK2 (hHeld.alloc _)).next hb
 replace hHeld := (hHeld.alloc _).next hb
 have n2 : w2.heap.size ≠ s := by have := hHeld.2.2.2.2.2.2.2.2.2.2.1.1; omega
 clear hb kz0 kc0 kf0 kz1 kc1 kf1 kz2 kc2 kf2 kz3 kc3 kf3 kz4 kc4 kf4 kz5 kc5 kf5 kz6 kc6 kf6 kz7 kc7 kf7 kz8 kc8 kf8 kz9 kc9 kf9 kz10 kc10 kf10 kz11 kc11 kf11 kz12 kc12 kf12 kz13 kc13 kf13
 go_wp2_with fail
 have hA : Keeps w ([(w1.heap.size, 0, .int .i64 x0), (w1.heap.size, 1, .int .u64 x1)] ++ ([(w2.heap.size, 0, .int .i64 y0), (w2.heap.size, 1, .int .u64 y1)] ++ _)) _ := (hE.alloc _).app ((newK2 (hHeld.alloc (.cells #[.int .i64 y0, .int .u64 y1] 57))).app (hHeld.alloc _))
 clear hE hHeld
 refine region_keepsB (w0 := w) (L := [(w1.heap.size, 0, .int .i64 x0), (w1.heap.size, 1, .int .u64 x1), (w2.heap.size, 0, .int .i64 y0), (w2.heap.size, 1, .int .u64 y1), (r, 0, .int .i64 0), (r, 1, .int .u64 0), (r, 2, .int .i64 0), (r, 3, .int .i64 0), (r, 4, .int .i64 0), (r, 5, .int .i64 0), (s, 2, .int .i64 n), (s, 3, .int .i64 0), (s, 4, .int .i64 0), (s, 5, .int .i64 m)]) (M := [(s, 0, .int .i64 0), (s, 1, .int .u64 0)]) (by kernel_rfl) (hA.sub (by simp)) (hA.sub (by simp)) (fun hHeld0 hT0 => ?_)
 refine tv 0 33 rfl rfl ?_
 try go_frame
 refine tk 1 34 rfl rfl ?_ ?_ ?_
 rotate_left
 ·intro wq hSw; obtain ⟨⟨_,_,_⟩,⟨_,_,_⟩,⟨_,_,_⟩,⟨_,_,_⟩,⟨_,_,_⟩,⟨_,_,_⟩,⟨_,_,_⟩,⟨_,_,_⟩,⟨_,_,_⟩,⟨_,_,_⟩,⟨_,_,_⟩,⟨_,_,_⟩,⟨_,_,_⟩,⟨_,_,_⟩,_⟩ := hSw.2; go_simp; (try with_reducible rfl)
 try go_frame
 refine tv 2 35 rfl rfl ?_
 try go_frame
 refine tk 3 36 rfl rfl ?_ ?_ ?_
 rotate_left
 ·intro wq hSw; obtain ⟨⟨_,_,_⟩,⟨_,_,_⟩,⟨_,_,_⟩,⟨_,_,_⟩,⟨_,_,_⟩,⟨_,_,_⟩,⟨_,_,_⟩,⟨_,_,_⟩,⟨_,_,_⟩,⟨_,_,_⟩,⟨_,_,_⟩,⟨_,_,_⟩,⟨_,_,_⟩,⟨_,_,_⟩,_⟩ := hSw.2; go_simp; (try with_reducible rfl)
 try go_frame
 refine ty [4] ?_
 refine AllReadyH.cons rfl (fun K hK => ?_) AllReadyH.nil
 go_simp
 (with_reducible refine Calls.mono (PR.out _) ?_); rintro e w5 ⟨rfl, hb⟩
 refine hK.out _ _ (hHeld0.next hb) (fun hHeld1 => ?_)
 replace hT0 := hT0.next hb
 clear hK K; try clear hb
 try go_frame
 refine ty [5] ?_
 refine AllReadyH.cons rfl (fun K hK => ?_) AllReadyH.nil
 go_simp
 refine Calls.mono (AD.out s [(s, 2, .int .i64 n), (s, 3, .int .i64 0), (s, 4, .int .i64 0), (s, 5, .int .i64 m)] _ ⟨hT0.2.1, hT0.2.2.1, (hHeld1.sub (by simp)).2⟩ (by simp)) ?_; rintro e w6 ⟨rfl, hX⟩
 refine hK.out _ _ ((((hHeld1.sub (L' := [(w1.heap.size, 0, .int .i64 x0), (w1.heap.size, 1, .int .u64 x1), (w2.heap.size, 0, .int .i64 y0), (w2.heap.size, 1, .int .u64 y1), (r, 0, .int .i64 0), (r, 1, .int .u64 0), (r, 2, .int .i64 0), (r, 3, .int .i64 0), (r, 4, .int .i64 0), (r, 5, .int .i64 0)]) (by simp)).nextX hX sl.out (by simp [n1, n2, n3])).sub (by simp))) (fun hHeld2 => ?_)
 clear hK K; try clear hb
 try go_frame
 refine wpAnyH_done (by kernel_rfl) ?_ _
 have hHeld := hHeld2
 obtain ⟨⟨kz0,kc0,kf0⟩,⟨kz1,kc1,kf1⟩,⟨kz2,kc2,kf2⟩,⟨kz3,kc3,kf3⟩,⟨kz4,kc4,kf4⟩,⟨kz5,kc5,kf5⟩,⟨kz6,kc6,kf6⟩,⟨kz7,kc7,kf7⟩,⟨kz8,kc8,kf8⟩,⟨kz9,kc9,kf9⟩,⟨kz10,kc10,kf10⟩,⟨kz11,kc11,kf11⟩,⟨kz12,kc12,kf12⟩,⟨kz13,kc13,kf13⟩,_⟩ := hHeld.2
 have hF := hHeld.app (⟨hHeld.1, hX.2⟩ : Keeps w _ w6)
 replace hHeld : Keeps w [(w2.heap.size, 0, .int .i64 y0), (w2.heap.size, 1, .int .u64 y1), (r, 0, .int .i64 0), (r, 1, .int .u64 0), (r, 2, .int .i64 0), (r, 3, .int .i64 0), (r, 4, .int .i64 0), (r, 5, .int .i64 0), (s, 0, .int .i64 u0), (s, 1, .int .u64 u1), (s, 2, .int .i64 n), (s, 3, .int .i64 0), (s, 4, .int .i64 0), (s, 5, .int .i64 m)] w6 := hF.sub (by simp)
 clear hF hX hA
 (try clear hHeld0); (try clear hHeld1); (try clear hHeld2); (try clear hT0); (try clear kz0 kc0 kf0); (try clear kz1 kc1 kf1); (try clear kz2 kc2 kf2); (try clear kz3 kc3 kf3); (try clear kz4 kc4 kf4); (try clear kz5 kc5 kf5); (try clear kz6 kc6 kf6); (try clear kz7 kc7 kf7); (try clear kz8 kc8 kf8); (try clear kz9 kc9 kf9); (try clear kz10 kc10 kf10); (try clear kz11 kc11 kf11); (try clear kz12 kc12 kf12); (try clear kz13 kc13 kf13)
 obtain ⟨⟨kz0,kc0,kf0⟩,⟨kz1,kc1,kf1⟩,⟨kz2,kc2,kf2⟩,⟨kz3,kc3,kf3⟩,⟨kz4,kc4,kf4⟩,⟨kz5,kc5,kf5⟩,⟨kz6,kc6,kf6⟩,⟨kz7,kc7,kf7⟩,⟨kz8,kc8,kf8⟩,⟨kz9,kc9,kf9⟩,⟨kz10,kc10,kf10⟩,⟨kz11,kc11,kf11⟩,⟨kz12,kc12,kf12⟩,⟨kz13,kc13,kf13⟩,_⟩ := hHeld.2
 go_wp2_with fail
 refine Calls.mono (AE.out s [(s, 2, .int .i64 n), (s, 3, .int .i64 0), (s, 4, .int .i64 0), (s, 5, .int .i64 m)] _ (hHeld.sub (by simp)).2 (by simp)) ?_
 rintro e w7 ⟨rfl, hX⟩
 have hG := (hHeld.sub (L' := [(r, 0, .int .i64 0), (r, 1, .int .u64 0), (r, 2, .int .i64 0), (r, 3, .int .i64 0), (r, 4, .int .i64 0), (r, 5, .int .i64 0)]) (by simp)).nextX hX sl.out (by simp [n3])
 clear hX hHeld
 (try clear hHeld0); (try clear hHeld1); (try clear hHeld2); (try clear hT0); (try clear kz0 kc0 kf0); (try clear kz1 kc1 kf1); (try clear kz2 kc2 kf2); (try clear kz3 kc3 kf3); (try clear kz4 kc4 kf4); (try clear kz5 kc5 kf5); (try clear kz6 kc6 kf6); (try clear kz7 kc7 kf7); (try clear kz8 kc8 kf8); (try clear kz9 kc9 kf9); (try clear kz10 kc10 kf10); (try clear kz11 kc11 kf11); (try clear kz12 kc12 kf12); (try clear kz13 kc13 kf13)
 obtain ⟨⟨kz0,kc0,kf0⟩,⟨kz1,kc1,kf1⟩,⟨kz2,kc2,kf2⟩,⟨kz3,kc3,kf3⟩,⟨kz4,kc4,kf4⟩,⟨kz5,kc5,kf5⟩,⟨kz6,kc6,kf6⟩,⟨kz7,kc7,kf7⟩,⟨kz8,kc8,kf8⟩,⟨kz9,kc9,kf9⟩,⟨kz10,kc10,kf10⟩,⟨kz11,kc11,kf11⟩,_⟩ := hG.2
 go_wp2_with fail
 refine bodyPost_ret (v := .agg #[.int .i64 t0, .int .u64 t1, .int .i64 n, .int .i64 ra, .int .i64 rb, .int .i64 m]) (by simp [results, Tryz.results255, go_sem, *]) rfl ?_
 have h1 := hG.1
 have h2 := sl.out
 have h3 := rl.out
 refine ⟨rfl, ?_⟩
 go_grown <;> first | exact h2 | exact h3
end Go.Proofs.YtcfidimnbamnkaaGreat
