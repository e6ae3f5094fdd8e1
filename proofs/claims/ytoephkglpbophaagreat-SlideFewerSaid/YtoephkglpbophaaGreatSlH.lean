/-
  Layer 10: slide: both ends in lowest terms, and the flattest line. Conditions: those written at each fact.
-/
import Derived.Maps.RangeWalk
import Derived.Test.YtoephkglpbophaaGreatSlG
namespace Go.Proofs.YtoephkglpbophaaGreat.P10
open Go.RowKit Go.Shelf Go.Proofs.YtoephkglpbophaaGreat.P8

theorem run_index_str {P : Program} (w : World) (t e : TypeId) (n s : Nat) (cs : Array Value) (i : Nat) (vs : Array Value) (h : P.underlying t = some (.array n e)) (ha : (isAgg e).run P w = .ok true w) (hs : (sizeOf e).run P w = .ok s w)
    (hi : i < n) (hv : cs.extract (i * s) (i * s + s) = vs) : (Instr.index t (.agg cs) (.int .i64 i)).run P w = .ok (.agg vs) w := by
  simp [Instr.index, run_underlying h, asIntOf, hi, go_sem, part, ha, hs, hv]
theorem end0 (n d m e : Int) (W : World) : (Instr.index 50 (.agg #[.int .i64 n, .int .i64 d, .int .i64 m, .int .i64 e]) (.int .i64 0)).run Tryz.prog W = .ok (slV n d) W :=
  run_index_str W _ 32 2 2 _ 0 _ Tryz.underlying50 (Tryz.isAgg32 W) (Tryz.sizeOf32 W) (by decide) rfl
theorem end1 (n d m e : Int) (W : World) : (Instr.index 50 (.agg #[.int .i64 n, .int .i64 d, .int .i64 m, .int .i64 e]) (.int .i64 1)).run Tryz.prog W = .ok (slV m e) W :=
  run_index_str W _ 32 2 2 _ 1 _ Tryz.underlying50 (Tryz.isAgg32 W) (Tryz.sizeOf32 W) (by decide) rfl
section
attribute [local go_sem] end0 end1
/-- Both ends in lowest terms. -/
def lowS (s : Sl) : Sl := ⟨lowN s.a s.b, lowD s.a s.b, lowN s.c s.d, lowD s.c s.d⟩
set_option maxRecDepth 100000 in
set_option maxHeartbeats 4000000 in
theorem lowest_walk (a b c d p q r t : Int) (w : World) (A1 : ∀ W, Calls Tryz.prog 50 #[slV a b] W (Ret W (.tuple #[slV p q, .int .i64 0]))) (A2 : ∀ W, Calls Tryz.prog 50 #[slV c d] W (Ret W (.tuple #[slV r t, .int .i64 0]))) :
    Calls Tryz.prog 27 #[arV ⟨a, b, c, d⟩] w (Ret w (arV ⟨p, q, r, t⟩)) := by
  replace A1 := Lib.hid A1
  replace A2 := Lib.hid A2
  go_enter Tryz.func27, Tryz.ntmps27
  have hH0 : Hid (Keeps w [(w.heap.size, 0, .int .i64 a), (w.heap.size, 1, .int .i64 b), (w.heap.size, 2, .int .i64 c), (w.heap.size, 3, .int .i64 d), (w.heap.size + 1, 0, .int .i64 0), (w.heap.size + 1, 1, .int .i64 0), (w.heap.size + 1, 2, .int .i64 0), (w.heap.size + 1, 3, .int .i64 0)] ((w.alloc (.cells #[.int .i64 a, .int .i64 b, .int .i64 c, .int .i64 d] 50)).alloc (.cells #[.int .i64 0, .int .i64 0, .int .i64 0, .int .i64 0] 50))) :=
    Lib.hid ⟨((Below.refl _ w).alloc (Nat.le_refl _) _).alloc (by simp) _, by simp [Cells, go_sem]⟩
  go_wp2_with fail
  go_loopw [6] (fun i wr => i = .int .i64 0 ∧ Hid (Keeps w [(w.heap.size, 0, .int .i64 a), (w.heap.size, 1, .int .i64 b), (w.heap.size, 2, .int .i64 c), (w.heap.size, 3, .int .i64 d), (w.heap.size + 1, 0, .int .i64 0), (w.heap.size + 1, 1, .int .i64 0), (w.heap.size + 1, 2, .int .i64 0), (w.heap.size + 1, 3, .int .i64 0)] wr) ∨ i = .int .i64 1 ∧ Hid (Keeps w [(w.heap.size, 0, .int .i64 p), (w.heap.size, 1, .int .i64 q), (w.heap.size, 2, .int .i64 c), (w.heap.size, 3, .int .i64 d), (w.heap.size + 1, 0, .int .i64 0), (w.heap.size + 1, 1, .int .i64 0), (w.heap.size + 1, 2, .int .i64 0), (w.heap.size + 1, 3, .int .i64 0)] wr) ∨ i = .int .i64 2 ∧ Hid (Keeps w [(w.heap.size, 0, .int .i64 p), (w.heap.size, 1, .int .i64 q), (w.heap.size, 2, .int .i64 r), (w.heap.size, 3, .int .i64 t), (w.heap.size + 1, 0, .int .i64 0), (w.heap.size + 1, 1, .int .i64 0), (w.heap.size + 1, 2, .int .i64 0), (w.heap.size + 1, 3, .int .i64 0)] wr)) (fun i _ => 2 - (intOf i).toNat)
  case atStart => exact .inl ⟨rfl, hH0⟩
  case round =>
    clear hH0
    rcases hrel with ⟨rfl, hB⟩ | ⟨rfl, hB⟩ | ⟨rfl, hB⟩
    · have hHeld := hB.out
      go_wp2_with fail
      refine (A1.out _).mono ?_
      rintro en w1 ⟨rfl, hb1⟩
      replace hHeld := hHeld.next (under (below_alloc wr _) hb1)
      clear hb1 hB
      obtain ⟨⟨kz0, kc0, kf0⟩, ⟨kz1, kc1, kf1⟩, ⟨kz2, kc2, kf2⟩, ⟨kz3, kc3, kf3⟩, ⟨kz4, kc4, kf4⟩, ⟨kz5, kc5, kf5⟩, ⟨kz6, kc6, kf6⟩, ⟨kz7, kc7, kf7⟩, _⟩ := hHeld.2
      go_wp2_with fail
      go_roundw
      case rel =>
        refine .inr (.inl ⟨rfl, Lib.hid ?_⟩)
        have := hHeld.upd2 kc0 kc1 (by decide) (Nat.le_refl _) (.int .i64 p) (.int .i64 q)
        simpa [updL] using this
      case measure => simp [intOf]
    · have hHeld := hB.out
      go_wp2_with fail
      refine (A2.out _).mono ?_
      rintro en w1 ⟨rfl, hb1⟩
      replace hHeld := hHeld.next (under (below_alloc wr _) hb1)
      clear hb1 hB
      obtain ⟨⟨kz0, kc0, kf0⟩, ⟨kz1, kc1, kf1⟩, ⟨kz2, kc2, kf2⟩, ⟨kz3, kc3, kf3⟩, ⟨kz4, kc4, kf4⟩, ⟨kz5, kc5, kf5⟩, ⟨kz6, kc6, kf6⟩, ⟨kz7, kc7, kf7⟩, _⟩ := hHeld.2
      go_wp2_with fail
      go_roundw
      case rel =>
        refine .inr (.inr ⟨rfl, Lib.hid ?_⟩)
        have := hHeld.upd2 kc2 kc3 (by decide) (Nat.le_refl _) (.int .i64 r) (.int .i64 t)
        simpa [updL] using this
      case measure => simp [intOf]
    · have hHeld := hB.out
      obtain ⟨⟨kz0, kc0, kf0⟩, ⟨kz1, kc1, kf1⟩, ⟨kz2, kc2, kf2⟩, ⟨kz3, kc3, kf3⟩, ⟨kz4, kc4, kf4⟩, ⟨kz5, kc5, kf5⟩, ⟨kz6, kc6, kf6⟩, ⟨kz7, kc7, kf7⟩, _⟩ := hHeld.2
      go_wp2_with fail
      obtain ⟨d0, d1, d2, d3⟩ := set4 (W := wr) (B := w.heap.size + 1) (u0 := .int .i64 p) (u1 := .int .i64 q) (u2 := .int .i64 r) (u3 := .int .i64 t) kc4 kc5 kc6 kc7
      refine bodyPost_ret (v := arV ⟨p, q, r, t⟩) (by simp [results, Tryz.results27, go_sem, d0, d1, d2, d3]) rfl ?_
      exact ⟨rfl, (((hHeld.1.setCell (p := ⟨w.heap.size + 1, 0, none⟩) (by simp) _).setCell (p := ⟨w.heap.size + 1, 1, none⟩) (by simp) _).setCell (p := ⟨w.heap.size + 1, 2, none⟩) (by simp) _).setCell (p := ⟨w.heap.size + 1, 3, none⟩) (by simp) _⟩
end
theorem lowest_any (s : Sl) (h : StOk s) (w : World) : Calls Tryz.prog 27 #[arV s] w (Ret w (arV (lowS s))) := by
  have e1 : loN s.a s.b = lowN s.a s.b ∧ loD s.a s.b = lowD s.a s.b ∧ loE s.a s.b = 0 := by simp [loN, loD, loE, h.lo]
  have e2 : loN s.c s.d = lowN s.c s.d ∧ loD s.c s.d = lowD s.c s.d ∧ loE s.c s.d = 0 := by simp [loN, loD, loE, h.hi]
  refine lowest_walk s.a s.b s.c s.d _ _ _ _ w (fun W => ?_) (fun W => ?_)
  · have := low_any s.a s.b W
    rw [e1.1, e1.2.1, e1.2.2] at this
    exact this
  · have := low_any s.c s.d W
    rw [e2.1, e2.2.1, e2.2.2] at this
    exact this
/-- What the flattest line needs. -/
def headT : List Bd → Int
  | [] => 0
  | b :: _ => b.t
def lineC (l : List Bd) (s : Sl) : Int := lowC (headT l) (flatN s) (flatE s) l
structure FlatOk (l : List Bd) (s : Sl) : Prop where
  ne : l ≠ []
  len : l.length ≤ 1000000
  row : RowOk l
  st : StOk s
  op : shutS s = false
  all : PairW l (flatN s) (flatE s)
theorem FlatOk.cap {l : List Bd} {s : Sl} (h : FlatOk l s) : ∀ b ∈ l, CapOk (headT l) (flatN s) (flatE s) b := by
  obtain ⟨x, m, rfl⟩ := List.exists_cons_of_ne_nil h.ne
  intro b hb
  refine ⟨h.row.1 b hb, ?_, (h.row.1 x (List.mem_cons_self ..)).1, (flat_ok h.st).1⟩
  show x.t ≤ b.t
  rcases List.mem_cons.1 hb with rfl | hb
  · exact Int.le_refl _
  · exact Int.le_of_lt ((List.pairwise_cons.1 h.row.2).1 b hb)
theorem FlatOk.pos {l : List Bd} {s : Sl} (h : FlatOk l s) : 1 ≤ flatE s := ((slopeB_iff _ _).1 (flat_ok h.st).1).2.2.1
theorem FlatOk.thru {l : List Bd} {s : Sl} (h : FlatOk l s) : ThruR (headT l) (lineC l s) (flatN s) (flatE s) l := low_thru h.row h.pos h.all
theorem FlatOk.back {l : List Bd} {s : Sl} (h : FlatOk l s) : backB (lineC l s / flatE s) = true := by
  have hp := h.pos
  have ht := h.thru
  obtain ⟨x, m, rfl⟩ := List.exists_cons_of_ne_nil h.ne
  have hx := ht x (List.mem_cons_self ..)
  simp only [headT, Int.sub_self, Int.mul_zero, Int.add_zero] at hx
  obtain ⟨_, _, _, h4, h5⟩ := h.row.1 x (List.mem_cons_self ..)
  have e1 : x.lo ≤ lineC (x :: m) s / flatE s := (Int.le_ediv_iff_mul_le (by omega)).2 hx.1
  have e2 : lineC (x :: m) s / flatE s ≤ x.hi := by
    have := Int.ediv_le_ediv (show 0 < flatE s by omega) hx.2
    rwa [Int.mul_ediv_cancel _ (by omega)] at this
  rw [backB_iff]
  omega
theorem FlatOk.line {l : List Bd} {s : Sl} (h : FlatOk l s) : lineB (lineC l s / flatE s) (lineC l s % flatE s) (flatN s) (flatE s) = true := by
  have hp := h.pos
  obtain ⟨f1, f2, f3⟩ := flat_ok h.st
  rw [lineB_iff]
  exact ⟨f1, ⟨f2, f3⟩, h.back, Int.emod_nonneg _ (by omega), Int.emod_lt_of_pos _ (by omega)⟩
theorem belK {w W : World} {L : List (Nat × Nat × Value)} (h : Keeps w L W) : Below w.heap.size w W := h.1
set_option maxRecDepth 100000 in
set_option maxHeartbeats 4000000 in
theorem flattest_any (l : List Bd) (s : Sl) (hF : FlatOk l s) (bb off c : Nat) (w : World) (h : ReadsD w (.slice (some ⟨bb, off, none⟩) l.length c) l) :
    Calls Tryz.prog 29 #[fitV s (.slice (some ⟨bb, off, none⟩) l.length c)] w (Ret w (lnV (lineC l s / flatE s) (lineC l s % flatE s) (flatN s) (flatE s))) := by
  have hcap := hF.cap
  obtain ⟨f1, f2, f3⟩ := flat_ok hF.st
  have NE := Lib.hid (fun W => near_any s.a s.b s.c s.d (flatN s) (flatE s) 0 (flat_near hF.st hF.op) W)
  have HE := Lib.hid (fun W (hb : Below w.heap.size w W) => (show Calls Tryz.prog 55 #[fitV s (.slice (some ⟨bb, off, none⟩) l.length c), slV (flatN s) (flatE s)] W (Ret W (wz (lineC l s))) from by
    have hl := hF.len
    have hne := hF.ne
    unfold lineC
    obtain ⟨⟨t0, lo0, hi0⟩, m, rfl⟩ := List.exists_cons_of_ne_nil hne
    exact height_any s _ _ t0 lo0 hi0 m hl hcap bb off c W (h.below hb)))
  have fz : Go.Proofs.YtoephkglpbophaaGreat.Fits (lineC l s) := low_fits hcap
  have RA := Lib.hid (fun W => raised_any (lineC l s) (flatN s) (flatE s) (lineC l s / flatE s) (lineC l s % flatE s) (flatN s) (flatE s) 0 fz (.inr ⟨f1, .inr ⟨⟨f2, f3⟩, .inr ⟨hF.back, rfl, rfl, rfl, rfl, rfl⟩⟩⟩) W)
  clear f1 f2 f3 hcap hF h fz
  generalize lineC l s = C at *
  generalize C / flatE s = x0 at *
  generalize C % flatE s = x1 at *
  generalize flatN s = p at *
  generalize flatE s = q at *
  simp only [wz] at HE
  generalize rhi C = z0 at *
  generalize rlo C = z1 at *
  obtain ⟨sa, sb, sc, sd⟩ := s
  simp only at NE HE ⊢
  generalize l.length = n at *
  go_enter Tryz.func29, Tryz.ntmps29
  go_wp2_with fail
  refine (NE.out _).mono ?_
  rintro en w1 ⟨rfl, hb1⟩
  have hK1 : Keeps w [(w.heap.size, 0, .int .i64 sa), (w.heap.size, 1, .int .i64 sb), (w.heap.size, 2, .int .i64 sc), (w.heap.size, 3, .int .i64 sd), (w.heap.size, 4, .slice (some ⟨bb, off, none⟩) n c), (w.heap.size + 1, 0, .int .i64 0), (w.heap.size + 1, 1, .int .i64 0), (w.heap.size + 1, 2, .int .i64 0), (w.heap.size + 1, 3, .int .i64 0)] w1 := Keeps.next (W := (w.alloc (.cells #[.int .i64 sa, .int .i64 sb, .int .i64 sc, .int .i64 sd, .slice (some ⟨bb, off, none⟩) n c] 52)).alloc (.cells #[.int .i64 0, .int .i64 0, .int .i64 0, .int .i64 0] 37)) ⟨((Below.refl _ w).alloc (Nat.le_refl _) _).alloc (by simp) _, by simp [Cells, go_sem]⟩ hb1
  have hHeld := (hK1.alloc (.cells #[.int .i64 p, .int .i64 q] 32)).app (newK2 (hK1.alloc (.cells #[.int .i64 p, .int .i64 q] 32)))
  have HH := Lib.hid hHeld
  clear hHeld hK1 hb1 NE
  go_upto_region 2 with (fail)
  have hHs : Keeps w [(w.heap.size, 0, .int .i64 sa), (w.heap.size, 1, .int .i64 sb), (w.heap.size, 2, .int .i64 sc), (w.heap.size, 3, .int .i64 sd), (w.heap.size, 4, .slice (some ⟨bb, off, none⟩) n c), (w.heap.size + 1, 0, .int .i64 0), (w.heap.size + 1, 1, .int .i64 0), (w.heap.size + 1, 2, .int .i64 0), (w.heap.size + 1, 3, .int .i64 0), (w1.heap.size, 0, .int .i64 p), (w1.heap.size, 1, .int .i64 q)] (w1.alloc (.cells #[.int .i64 p, .int .i64 q] 32)) := HH.out
  clear HH
  go_cut [5] (fun s5 wx => ∃ g : Nat, s5 = .pointer (some ⟨g, 0, none⟩) ∧ Keeps w [(w.heap.size, 0, .int .i64 sa), (w.heap.size, 1, .int .i64 sb), (w.heap.size, 2, .int .i64 sc), (w.heap.size, 3, .int .i64 sd), (w.heap.size, 4, .slice (some ⟨bb, off, none⟩) n c), (w.heap.size + 1, 0, .int .i64 0), (w.heap.size + 1, 1, .int .i64 0), (w.heap.size + 1, 2, .int .i64 0), (w.heap.size + 1, 3, .int .i64 0), (w1.heap.size, 0, .int .i64 p), (w1.heap.size, 1, .int .i64 q)] wx ∧ wx.cell? ⟨g, 0, none⟩ = some (.int .i64 x0) ∧ wx.cell? ⟨g, 1, none⟩ = some (.int .i64 x1) ∧ wx.cell? ⟨g, 2, none⟩ = some (.int .i64 p) ∧ wx.cell? ⟨g, 3, none⟩ = some (.int .i64 q))
  case first =>
    refine region_keeps (w0 := w) (L := [(w.heap.size, 0, .int .i64 sa), (w.heap.size, 1, .int .i64 sb), (w.heap.size, 2, .int .i64 sc), (w.heap.size, 3, .int .i64 sd), (w.heap.size, 4, .slice (some ⟨bb, off, none⟩) n c), (w.heap.size + 1, 0, .int .i64 0), (w.heap.size + 1, 1, .int .i64 0), (w.heap.size + 1, 2, .int .i64 0), (w.heap.size + 1, 3, .int .i64 0), (w1.heap.size, 0, .int .i64 p), (w1.heap.size, 1, .int .i64 q)]) (by kernel_rfl) hHs (fun hHeld0 => ?_)
    refine wpAnyH_take (i := 0) (oi := ⟨some 18, _, _, _, _, _⟩) (v := ?_) rfl (by kernel_rfl) (by kernel_rfl) (by kernel_rfl) (fun _ _ _ h => h) (Or.inl ⟨by rfl, ?_⟩) (by assumption) ?_
    rotate_left
    · intro wq hSw; obtain ⟨⟨qz0, qc0, qf0⟩, ⟨qz1, qc1, qf1⟩, ⟨qz2, qc2, qf2⟩, ⟨qz3, qc3, qf3⟩, ⟨qz4, qc4, qf4⟩, ⟨qz5, qc5, qf5⟩, ⟨qz6, qc6, qf6⟩, ⟨qz7, qc7, qf7⟩, ⟨qz8, qc8, qf8⟩, ⟨qz9, qc9, qf9⟩, ⟨qz10, qc10, qf10⟩, _⟩ := hSw.2; go_simp; (try with_reducible rfl)
    try go_frame
    refine wpAnyH_take (i := 1) (oi := ⟨some 19, _, _, _, _, _⟩) (v := ?_) rfl (by kernel_rfl) (by kernel_rfl) (by kernel_rfl) (fun _ _ _ h => h) (Or.inl ⟨by rfl, ?_⟩) (by assumption) ?_
    rotate_left
    · intro wq hSw; obtain ⟨⟨qz0, qc0, qf0⟩, ⟨qz1, qc1, qf1⟩, ⟨qz2, qc2, qf2⟩, ⟨qz3, qc3, qf3⟩, ⟨qz4, qc4, qf4⟩, ⟨qz5, qc5, qf5⟩, ⟨qz6, qc6, qf6⟩, ⟨qz7, qc7, qf7⟩, ⟨qz8, qc8, qf8⟩, ⟨qz9, qc9, qf9⟩, ⟨qz10, qc10, qf10⟩, _⟩ := hSw.2; go_simp; (try with_reducible rfl)
    try go_frame
    refine wpAnyH_take (i := 3) (oi := ⟨some 21, _, _, _, _, _⟩) (v := ?_) rfl (by kernel_rfl) (by kernel_rfl) (by kernel_rfl) (fun _ _ _ h => h) (Or.inl ⟨by rfl, ?_⟩) (by assumption) ?_
    rotate_left
    · intro wq hSw; obtain ⟨⟨qz0, qc0, qf0⟩, ⟨qz1, qc1, qf1⟩, ⟨qz2, qc2, qf2⟩, ⟨qz3, qc3, qf3⟩, ⟨qz4, qc4, qf4⟩, ⟨qz5, qc5, qf5⟩, ⟨qz6, qc6, qf6⟩, ⟨qz7, qc7, qf7⟩, ⟨qz8, qc8, qf8⟩, ⟨qz9, qc9, qf9⟩, ⟨qz10, qc10, qf10⟩, _⟩ := hSw.2; go_simp; (try with_reducible rfl)
    try go_frame
    refine wpAnyH_ready (rs := [2, 8]) (by kernel_rfl) (by simp) ?_
    refine AllReadyH.cons (o := ⟨some 20, _, _, _, _, _⟩) rfl (fun K hK => ?_) ?_
    go_simp
    ((with_reducible refine Calls.mono (HE.out _ (belK (L := [(w.heap.size, 0, .int .i64 sa), (w.heap.size, 1, .int .i64 sb), (w.heap.size, 2, .int .i64 sc), (w.heap.size, 3, .int .i64 sd), (w.heap.size, 4, .slice (some ⟨bb, off, none⟩) n c), (w.heap.size + 1, 0, .int .i64 0), (w.heap.size + 1, 1, .int .i64 0), (w.heap.size + 1, 2, .int .i64 0), (w.heap.size + 1, 3, .int .i64 0), (w1.heap.size, 0, .int .i64 p), (w1.heap.size, 1, .int .i64 q)]) (by assumption))) ?_); rintro e wa ⟨rfl, hb⟩)
    refine hK.out _ _ (hHeld0.next hb) (fun hHeld1 => ?_)
    clear hK K
    try clear hb
    try go_frame
    refine wpAnyH_ready (rs := [4, 8]) (by kernel_rfl) (by simp) ?_
    refine AllReadyH.cons (o := ⟨some 22, _, _, _, _, _⟩) rfl (fun K hK => ?_) ?_
    go_simp
    ((with_reducible refine (RA.out _).mono ?_); rintro e wb ⟨rfl, hb⟩)
    refine hK.out _ _ (hHeld1.next hb) (fun hHeld2 => ?_)
    clear hK K
    try clear hb
    try go_frame
    refine wpAnyH_take (i := 5) (oi := ⟨some 17, _, _, _, _, _⟩) (v := ?_) rfl (by kernel_rfl) (by kernel_rfl) (by kernel_rfl) (fun _ _ _ h => h) (Or.inl ⟨by rfl, ?_⟩) (by assumption) ?_
    rotate_left
    · intro wq hSw; go_simp; (try with_reducible rfl)
    try go_frame
    refine wpAnyH_take (i := 6) (oi := ⟨some 23, _, _, _, _, _⟩) (v := ?_) rfl (by kernel_rfl) (by kernel_rfl) (by kernel_rfl) (fun _ _ _ h => h) (Or.inl ⟨by rfl, ?_⟩) (by assumption) ?_
    rotate_left
    · intro wq hSw; go_simp; (try with_reducible rfl)
    try go_frame
    refine wpAnyH_take (i := 7) (oi := ⟨some 24, _, _, _, _, _⟩) (v := ?_) rfl (by kernel_rfl) (by kernel_rfl) (by kernel_rfl) (fun _ _ _ h => h) (Or.inl ⟨by rfl, ?_⟩) (by assumption) ?_
    rotate_left
    · intro wq hSw; go_simp; (try with_reducible rfl)
    try go_frame
    refine wpAnyH_ready (rs := [8]) (by kernel_rfl) (by simp) ?_
    refine AllReadyH.cons (o := ⟨some 5, _, _, _, _, _⟩) rfl (fun K hK => ?_) AllReadyH.nil
    go_simp
    refine hK.out _ _ (by first | exact hHeld2.alloc _ | exact (hHeld2.alloc _).drew) (fun hHeld3 => ?_)
    first | have hN3 := newK4 hHeld3 | have hN3 := newK4d hHeld3
    clear hK K
    try clear hb
    try go_frame
    refine wpAnyH_ready (rs := [9]) (by kernel_rfl) (by simp) ?_
    refine AllReadyH.cons (o := ⟨none, _, _, _, _, _⟩) rfl (fun K hK => ?_) AllReadyH.nil
    have hz0 := hHeld2.1.size; obtain ⟨⟨az0, ac0, af0⟩, ⟨az1, ac1, af1⟩, ⟨az2, ac2, af2⟩, ⟨az3, ac3, af3⟩, ⟨az4, ac4, af4⟩, ⟨az5, ac5, af5⟩, ⟨az6, ac6, af6⟩, ⟨az7, ac7, af7⟩, ⟨az8, ac8, af8⟩, ⟨az9, ac9, af9⟩, ⟨az10, ac10, af10⟩, _⟩ := hHeld2.2; (try simp at hz0); (try simp at az0); (try simp at az1); (try simp at az2); (try simp at az3); (try simp at az4); (try simp at az5); (try simp at az6); (try simp at az7); (try simp at az8); (try simp at az9); (try simp at az10)
    obtain ⟨⟨t0z0, t0c0, t0f0⟩, ⟨t0z1, t0c1, t0f1⟩, ⟨t0z2, t0c2, t0f2⟩, ⟨t0z3, t0c3, t0f3⟩, _⟩ := hN3.2; (try simp at t0z0); (try simp at t0c0); (try simp at t0f0); (try simp at t0z1); (try simp at t0c1); (try simp at t0f1); (try simp at t0z2); (try simp at t0c2); (try simp at t0f2); (try simp at t0z3); (try simp at t0c3); (try simp at t0f3)
    go_simp
    refine hK.out _ _ (by first | exact hHeld2.alloc _ | (repeat (first | (with_reducible exact hHeld3) | (with_reducible exact (Keeps.undrewR hHeld3)) | (refine Keeps.set ?_ (by simp <;> omega) (by simp <;> omega) _) | (with_reducible refine Keeps.drew ?_)))) (fun hHeld4 => ?_)
    clear hK K
    try clear hb
    try go_frame
    refine wpAnyH_take (i := 10) (oi := ⟨some 6, _, _, _, _, _⟩) (v := ?_) rfl (by kernel_rfl) (by kernel_rfl) (by kernel_rfl) (fun _ _ _ h => h) (Or.inl ⟨by rfl, ?_⟩) (by assumption) ?_
    rotate_left
    · intro wq hSw; go_simp; (try with_reducible rfl)
    try go_frame
    refine wpAnyH_done (by kernel_rfl) ?_ _
    have hHeld := hHeld4
    obtain ⟨⟨kz0, kc0, kf0⟩, ⟨kz1, kc1, kf1⟩, ⟨kz2, kc2, kf2⟩, ⟨kz3, kc3, kf3⟩, ⟨kz4, kc4, kf4⟩, ⟨kz5, kc5, kf5⟩, ⟨kz6, kc6, kf6⟩, ⟨kz7, kc7, kf7⟩, ⟨kz8, kc8, kf8⟩, ⟨kz9, kc9, kf9⟩, ⟨kz10, kc10, kf10⟩, _⟩ := hHeld.2
    rotate_left 1
    refine AllReadyH.cons (o := ⟨some 5, _, _, _, _, _⟩) rfl (fun K hK => ?_) ?_
    go_simp
    refine hK.out _ _ (by first | exact hHeld1.alloc _ | exact (hHeld1.alloc _).drew) (fun hHeld5 => ?_)
    first | have hN5 := newK4 hHeld5 | have hN5 := newK4d hHeld5
    clear hK K
    try clear hb
    try go_frame
    refine wpAnyH_ready (rs := [4]) (by kernel_rfl) (by simp) ?_
    refine AllReadyH.cons (o := ⟨some 22, _, _, _, _, _⟩) rfl (fun K hK => ?_) AllReadyH.nil
    go_simp
    ((with_reducible refine (RA.out _).mono ?_); rintro e wb ⟨rfl, hb⟩)
    refine hK.out _ _ (hHeld5.next hb) (fun hHeld6 => ?_)
    replace hN5 := hN5.next hb
    clear hK K
    try clear hb
    try go_frame
    refine wpAnyH_take (i := 5) (oi := ⟨some 17, _, _, _, _, _⟩) (v := ?_) rfl (by kernel_rfl) (by kernel_rfl) (by kernel_rfl) (fun _ _ _ h => h) (Or.inl ⟨by rfl, ?_⟩) (by assumption) ?_
    rotate_left
    · intro wq hSw; go_simp; (try with_reducible rfl)
    try go_frame
    refine wpAnyH_take (i := 6) (oi := ⟨some 23, _, _, _, _, _⟩) (v := ?_) rfl (by kernel_rfl) (by kernel_rfl) (by kernel_rfl) (fun _ _ _ h => h) (Or.inl ⟨by rfl, ?_⟩) (by assumption) ?_
    rotate_left
    · intro wq hSw; go_simp; (try with_reducible rfl)
    try go_frame
    refine wpAnyH_take (i := 7) (oi := ⟨some 24, _, _, _, _, _⟩) (v := ?_) rfl (by kernel_rfl) (by kernel_rfl) (by kernel_rfl) (fun _ _ _ h => h) (Or.inl ⟨by rfl, ?_⟩) (by assumption) ?_
    rotate_left
    · intro wq hSw; go_simp; (try with_reducible rfl)
    try go_frame
    refine wpAnyH_ready (rs := [9]) (by kernel_rfl) (by simp) ?_
    refine AllReadyH.cons (o := ⟨none, _, _, _, _, _⟩) rfl (fun K hK => ?_) AllReadyH.nil
    have hz0 := hHeld1.1.size; obtain ⟨⟨az0, ac0, af0⟩, ⟨az1, ac1, af1⟩, ⟨az2, ac2, af2⟩, ⟨az3, ac3, af3⟩, ⟨az4, ac4, af4⟩, ⟨az5, ac5, af5⟩, ⟨az6, ac6, af6⟩, ⟨az7, ac7, af7⟩, ⟨az8, ac8, af8⟩, ⟨az9, ac9, af9⟩, ⟨az10, ac10, af10⟩, _⟩ := hHeld1.2; (try simp at hz0); (try simp at az0); (try simp at az1); (try simp at az2); (try simp at az3); (try simp at az4); (try simp at az5); (try simp at az6); (try simp at az7); (try simp at az8); (try simp at az9); (try simp at az10)
    obtain ⟨⟨t0z0, t0c0, t0f0⟩, ⟨t0z1, t0c1, t0f1⟩, ⟨t0z2, t0c2, t0f2⟩, ⟨t0z3, t0c3, t0f3⟩, _⟩ := hN5.2; (try simp at t0z0); (try simp at t0c0); (try simp at t0f0); (try simp at t0z1); (try simp at t0c1); (try simp at t0f1); (try simp at t0z2); (try simp at t0c2); (try simp at t0f2); (try simp at t0z3); (try simp at t0c3); (try simp at t0f3)
    go_simp
    refine hK.out _ _ (by first | exact hHeld1.alloc _ | (repeat (first | (with_reducible exact hHeld6) | (with_reducible exact (Keeps.undrewR hHeld6)) | (refine Keeps.set ?_ (by simp <;> omega) (by simp <;> omega) _) | (with_reducible refine Keeps.drew ?_)))) (fun hHeld7 => ?_)
    clear hK K
    try clear hb
    try go_frame
    refine wpAnyH_take (i := 10) (oi := ⟨some 6, _, _, _, _, _⟩) (v := ?_) rfl (by kernel_rfl) (by kernel_rfl) (by kernel_rfl) (fun _ _ _ h => h) (Or.inl ⟨by rfl, ?_⟩) (by assumption) ?_
    rotate_left
    · intro wq hSw; go_simp; (try with_reducible rfl)
    try go_frame
    refine wpAnyH_done (by kernel_rfl) ?_ _
    have hHeld := hHeld7
    obtain ⟨⟨kz0, kc0, kf0⟩, ⟨kz1, kc1, kf1⟩, ⟨kz2, kc2, kf2⟩, ⟨kz3, kc3, kf3⟩, ⟨kz4, kc4, kf4⟩, ⟨kz5, kc5, kf5⟩, ⟨kz6, kc6, kf6⟩, ⟨kz7, kc7, kf7⟩, ⟨kz8, kc8, kf8⟩, ⟨kz9, kc9, kf9⟩, ⟨kz10, kc10, kf10⟩, _⟩ := hHeld.2
    rotate_left 1
    exact AllReadyH.nil
    refine AllReadyH.cons (o := ⟨some 5, _, _, _, _, _⟩) rfl (fun K hK => ?_) ?_
    go_simp
    refine hK.out _ _ (by first | exact hHeld0.alloc _ | exact (hHeld0.alloc _).drew) (fun hHeld8 => ?_)
    first | have hN8 := newK4 hHeld8 | have hN8 := newK4d hHeld8
    clear hK K
    try clear hb
    try go_frame
    refine wpAnyH_ready (rs := [2]) (by kernel_rfl) (by simp) ?_
    refine AllReadyH.cons (o := ⟨some 20, _, _, _, _, _⟩) rfl (fun K hK => ?_) AllReadyH.nil
    go_simp
    ((with_reducible refine Calls.mono (HE.out _ (belK (L := [(w.heap.size, 0, .int .i64 sa), (w.heap.size, 1, .int .i64 sb), (w.heap.size, 2, .int .i64 sc), (w.heap.size, 3, .int .i64 sd), (w.heap.size, 4, .slice (some ⟨bb, off, none⟩) n c), (w.heap.size + 1, 0, .int .i64 0), (w.heap.size + 1, 1, .int .i64 0), (w.heap.size + 1, 2, .int .i64 0), (w.heap.size + 1, 3, .int .i64 0), (w1.heap.size, 0, .int .i64 p), (w1.heap.size, 1, .int .i64 q)]) (by assumption))) ?_); rintro e wa ⟨rfl, hb⟩)
    refine hK.out _ _ (hHeld8.next hb) (fun hHeld9 => ?_)
    replace hN8 := hN8.next hb
    clear hK K
    try clear hb
    try go_frame
    refine wpAnyH_ready (rs := [4]) (by kernel_rfl) (by simp) ?_
    refine AllReadyH.cons (o := ⟨some 22, _, _, _, _, _⟩) rfl (fun K hK => ?_) AllReadyH.nil
    go_simp
    ((with_reducible refine (RA.out _).mono ?_); rintro e wb ⟨rfl, hb⟩)
    refine hK.out _ _ (hHeld9.next hb) (fun hHeld10 => ?_)
    replace hN8 := hN8.next hb
    clear hK K
    try clear hb
    try go_frame
    refine wpAnyH_take (i := 5) (oi := ⟨some 17, _, _, _, _, _⟩) (v := ?_) rfl (by kernel_rfl) (by kernel_rfl) (by kernel_rfl) (fun _ _ _ h => h) (Or.inl ⟨by rfl, ?_⟩) (by assumption) ?_
    rotate_left
    · intro wq hSw; go_simp; (try with_reducible rfl)
    try go_frame
    refine wpAnyH_take (i := 6) (oi := ⟨some 23, _, _, _, _, _⟩) (v := ?_) rfl (by kernel_rfl) (by kernel_rfl) (by kernel_rfl) (fun _ _ _ h => h) (Or.inl ⟨by rfl, ?_⟩) (by assumption) ?_
    rotate_left
    · intro wq hSw; go_simp; (try with_reducible rfl)
    try go_frame
    refine wpAnyH_take (i := 7) (oi := ⟨some 24, _, _, _, _, _⟩) (v := ?_) rfl (by kernel_rfl) (by kernel_rfl) (by kernel_rfl) (fun _ _ _ h => h) (Or.inl ⟨by rfl, ?_⟩) (by assumption) ?_
    rotate_left
    · intro wq hSw; go_simp; (try with_reducible rfl)
    try go_frame
    refine wpAnyH_ready (rs := [9]) (by kernel_rfl) (by simp) ?_
    refine AllReadyH.cons (o := ⟨none, _, _, _, _, _⟩) rfl (fun K hK => ?_) AllReadyH.nil
    have hz0 := hHeld0.1.size; obtain ⟨⟨az0, ac0, af0⟩, ⟨az1, ac1, af1⟩, ⟨az2, ac2, af2⟩, ⟨az3, ac3, af3⟩, ⟨az4, ac4, af4⟩, ⟨az5, ac5, af5⟩, ⟨az6, ac6, af6⟩, ⟨az7, ac7, af7⟩, ⟨az8, ac8, af8⟩, ⟨az9, ac9, af9⟩, ⟨az10, ac10, af10⟩, _⟩ := hHeld0.2; (try simp at hz0); (try simp at az0); (try simp at az1); (try simp at az2); (try simp at az3); (try simp at az4); (try simp at az5); (try simp at az6); (try simp at az7); (try simp at az8); (try simp at az9); (try simp at az10)
    obtain ⟨⟨t0z0, t0c0, t0f0⟩, ⟨t0z1, t0c1, t0f1⟩, ⟨t0z2, t0c2, t0f2⟩, ⟨t0z3, t0c3, t0f3⟩, _⟩ := hN8.2; (try simp at t0z0); (try simp at t0c0); (try simp at t0f0); (try simp at t0z1); (try simp at t0c1); (try simp at t0f1); (try simp at t0z2); (try simp at t0c2); (try simp at t0f2); (try simp at t0z3); (try simp at t0c3); (try simp at t0f3)
    go_simp
    refine hK.out _ _ (by first | exact hHeld0.alloc _ | (repeat (first | (with_reducible exact hHeld10) | (with_reducible exact (Keeps.undrewR hHeld10)) | (refine Keeps.set ?_ (by simp <;> omega) (by simp <;> omega) _) | (with_reducible refine Keeps.drew ?_)))) (fun hHeld11 => ?_)
    clear hK K
    try clear hb
    try go_frame
    refine wpAnyH_take (i := 10) (oi := ⟨some 6, _, _, _, _, _⟩) (v := ?_) rfl (by kernel_rfl) (by kernel_rfl) (by kernel_rfl) (fun _ _ _ h => h) (Or.inl ⟨by rfl, ?_⟩) (by assumption) ?_
    rotate_left
    · intro wq hSw; go_simp; (try with_reducible rfl)
    try go_frame
    refine wpAnyH_done (by kernel_rfl) ?_ _
    have hHeld := hHeld11
    obtain ⟨⟨kz0, kc0, kf0⟩, ⟨kz1, kc1, kf1⟩, ⟨kz2, kc2, kf2⟩, ⟨kz3, kc3, kf3⟩, ⟨kz4, kc4, kf4⟩, ⟨kz5, kc5, kf5⟩, ⟨kz6, kc6, kf6⟩, ⟨kz7, kc7, kf7⟩, ⟨kz8, kc8, kf8⟩, ⟨kz9, kc9, kf9⟩, ⟨kz10, kc10, kf10⟩, _⟩ := hHeld.2
    rotate_left 1
    exact AllReadyH.nil
    all_goals
      go_wp2_with fail
      go_meet
      case rel => exact ⟨_, rfl, hHeld, by simp [go_sem, *], by simp [go_sem, *], by simp [go_sem, *], by simp [go_sem, *]⟩
  case rest =>
    obtain ⟨g, rfl, hHeld, g0, g1, g2, g3⟩ := hcut
    obtain ⟨⟨kz0, kc0, kf0⟩, ⟨kz1, kc1, kf1⟩, ⟨kz2, kc2, kf2⟩, ⟨kz3, kc3, kf3⟩, ⟨kz4, kc4, kf4⟩, ⟨kz5, kc5, kf5⟩, ⟨kz6, kc6, kf6⟩, ⟨kz7, kc7, kf7⟩, ⟨kz8, kc8, kf8⟩, _⟩ := hHeld.2
    clear hHs
    go_wp2_with fail
    obtain ⟨d0, d1, d2, d3⟩ := set4 (W := wc) (B := w.heap.size + 1) (u0 := .int .i64 x0) (u1 := .int .i64 x1) (u2 := .int .i64 p) (u3 := .int .i64 q) kc5 kc6 kc7 kc8
    refine bodyPost_ret (v := lnV x0 x1 p q) (by simp [results, Tryz.results29, go_sem, d0, d1, d2, d3]) rfl ?_
    exact ⟨rfl, (((hHeld.1.setCell (p := ⟨w.heap.size + 1, 0, none⟩) (by simp) _).setCell (p := ⟨w.heap.size + 1, 1, none⟩) (by simp) _).setCell (p := ⟨w.heap.size + 1, 2, none⟩) (by simp) _).setCell (p := ⟨w.heap.size + 1, 3, none⟩) (by simp) _⟩
end Go.Proofs.YtoephkglpbophaaGreat.P10
