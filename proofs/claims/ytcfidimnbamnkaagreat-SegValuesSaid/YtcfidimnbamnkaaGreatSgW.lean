/-
  Layer 11: all points of a segment, in a row of their own (Points). Conditions: those written at each fact.
-/
import Derived.Test.YtcfidimnbamnkaaGreatSgV
import Derived.Test.YtcfidimnbamnkaaGreatSgO
import Derived.Test.YtcfidimnbamnkaaGreatNB
import Derived.RangeFuncNested
import Derived.Maps.AppendAt
import Derived.Maps.OwnIn
namespace Go.Proofs.YtcfidimnbamnkaaGreat.P11
open Go.RowKit Go.Shelf Go.Proofs.YtcfidimnbamnkaaGreat.P7
attribute [local go_sem] Oper.semAt_some

def flatP : List Pn → List Value
  | [] => []
  | p :: l => .int .i64 p.t :: .int .i64 p.v :: flatP l
theorem flatP_app : ∀ (l m : List Pn), flatP (l ++ m) = flatP l ++ flatP m
  | [], m => rfl
  | p :: l, m => by simp only [List.cons_append, flatP, flatP_app l m]
theorem infoPoint : (Tryz.prog.info? 53).map (fun i => (i.zero, i.size, i.bytes)) = some (some (.agg #[.int .i64 0, .int .i64 0]), 2, 16) := by kernel_rfl
theorem wp_rangeH {P : Program} {α : Type} {g : Operand} {ps : Array Tmp} {assign body : Code} {Q : Exit → Act → World → Prop} {a : Act} {w : World} {X : World → Nat → Prop} {b : Nat} (hX : Hangs X b) (hXb : b < w.heap.size)
    {gf : Nat} {lb : Array Value} (hg : a.eval g = .func (.func gf) #[] lb) (eg : ∀ args w, (callFunc gf args).run P w = .ok (.enter gf args) w)
    {encs : α → Array Value} {S Sp : List α → Prop} {N : Nat} (hseq : SeqStopsK Fence.wide 8 P gf lb encs (KeepsC X) S Sp N w) (hps : ∀ x, (encs x).size = ps.size)
    (I : List α → World → Prop) (Ix : Code → List α → World → Prop) (hI : OwnFrom w.heap.size I) (hIx : ∀ c, OwnFrom w.heap.size (Ix c)) (h0 : I [] w) (Ax : α → Act → World → Prop) (hAx : ∀ x a', OwnFrom w.heap.size (fun (_ : Unit) W => Ax x a' W))
    (hassign : ∀ (l : Nat) (pre : List α) (x : α) (W : World) (K : Act → World → Prop), I pre W → (∀ a' W', KeepsFrom w.heap.size W W' → KeepsC X W W' → I pre W' → Ax x a' W' → K a' W') →
      assign.wpIn (Fence.wide.inRound l) (9 - 1 - 1) P (Exit.then K (fun _ _ _ => False)) { tmps := (ps.zip (encs x)).foldl (fun t (p, v) => t.setIfInBounds p v) a.tmps, defers := [] } W)
    (hbody : ∀ (l : Nat) (pre : List α) (x : α) (a' : Act) (W : World), I pre W → Ax x a' W → pre.length < N → body.wpIn (Fence.wide.inRound l) (9 - 1 - 1) P (ownPostG w.heap.size (KeepsC X) I Ix (pre ++ [x]) W) a' W)
    (hdone : ∀ (D : Nat) (xs : List α) (W : World), w.heap.size ≤ D → S xs → I xs W → W.heap[D]? = some (.deferred (some [])) → Q .normal { a with defers := { target := .collected D, args := #[] } :: a.defers } W)
    (hstop : ∀ (D : Nat) (c : Code) (pre : List α) (W : World), w.heap.size ≤ D → Sp pre → Ix c pre W → W.heap[D]? = some (.deferred (some [])) → c.wp P Q { a with defers := { target := .collected D, args := #[] } :: a.defers } W) :
    (Code.rangeFunc g ps assign body).wp P Q a w :=
  wpIn_wide.1 (wpIn_rangeFunc_ownH (n := 9) rfl (by omega) hg trivial eg hseq KeepsC.trans (KeepsC.put hX hXb) (Below.refl _ _) hps I Ix hI hIx h0 Ax hAx hassign (fun l pre x a' W _ _ h1 h2 h3 => hbody l pre x a' W h1 h2 h3) hdone
    (fun D c pre W h1 h2 h3 h4 => wpIn_wide.2 (hstop D c pre W h1 h2 h3 h4)))
def PointAt (W : World) (B : Nat) (t v : Int) : Prop := W.heap[B]? = some (.cells #[.int .i64 t, .int .i64 v] 53 (0, 0))
theorem PointAt.cells {W : World} {B : Nat} {t v : Int} (h : PointAt W B t v) : W.cell? ⟨B, 0, none⟩ = some (.int .i64 t) ∧ W.cell? ⟨B, 1, none⟩ = some (.int .i64 v) ∧ B < W.heap.size := by
  have e : W.heap[B]? = _ := h
  exact ⟨by simp [World.cell?, e], by simp [World.cell?, e], (Array.getElem?_eq_some_iff.1 e).1⟩
theorem point_grown {W W' : World} {row : Option Nat} {B : Nat} {t v : Int} (h : PointAt W B t v) (hgr : W.grownBy W' row) (hr : ∀ r, row = some r → ∃ o : Obj, W.heap[r]? = some o ∧ o.isCells = false) : PointAt W' B t v := cells_kept hgr hr h rfl
theorem new_cells2 {W : World} {a b : Value} {t : TypeId} {n : Nat} (hn : n = W.heap.size) : ∀ (j : Nat) (u : Value), [a, b][j]? = some u → (W.alloc (.cells #[a, b] t)).cell? ((⟨n, 0, none⟩ : Addr).add j) = some u := by
  subst hn
  intro j u h
  match j, h with
  | 0, h => cases h; simp [Addr.add, go_sem]
  | 1, h => cases h; simp [Addr.add, go_sem]
  | j + 2, h => simp at h
theorem pointsV_any (s : Sg) (v u : Value) (w : World) : Calls Tryz.prog 79 #[sgV s.k v s.a s.r s.n s.d u s.e] w fun e w' => e = .returned (.func (.func 131) #[] #[.pointer (some ⟨w.heap.size, 0, none⟩)]) ∧ w' = w.alloc (sgO 94 s.k v s.a s.r s.n s.d u s.e) := by
  have hmf := makes_func
  go_enter Tryz.func79, Tryz.ntmps79
  go_wp2_with fail
  go_ret
  exact ⟨rfl, rfl⟩
theorem own_slw {w : World} {B : Nat} {e : TypeId} {s n : Nat} {v : Value} {xs : List Value} (h : w.ownsRow B e s v n xs) : ∃ A m c, v = .slice A m c := by
  rcases h.2 with ⟨rfl, _⟩ | ⟨g, cap, cur, rfl, _⟩
  · exact ⟨_, _, _, rfl⟩
  · exact ⟨_, _, _, rfl⟩
def GotP (w : World) (l : List Pn) (e : Ending) (w' : World) : Prop := ∃ A n c, e = .returned (.tuple #[.slice A n c, .int .i64 0]) ∧ Below w.heap.size w w' ∧ w'.ownsRow w.heap.size 53 2 (.slice A n c) l.length (flatP l)
set_option maxRecDepth 100000 in
set_option maxHeartbeats 4000000 in
theorem points1_any (s : Sg) (hs : segB s = true) (v u : Value) (w : World) (h : ReadsR w v s.R) (hu : Reads .i64 w u s.V) :
    Calls Tryz.prog 78 #[sgV s.k v s.a s.r s.n s.d u s.e] w (GotP w (ptsS s)) := by
  have hok := ((segB_iff s).1 hs).1
  have hT := times_ok hok
  have hvl := vals_length hs
  have hPL : (ptsS s).length ≤ 256 := by unfold ptsS; rw [ptsF_length 0 _ _ hvl]; exact hT.few
  obtain ⟨i0, hi, hz0, hz1, hz2⟩ := info_parts infoPoint
  refine calls_marks Tryz.func78 rfl ?_
  simp only [Tryz.ntmps78, List.size_toArray, List.length_cons, List.length_nil, Nat.reduceAdd, Nat.reduceSub, Array.replicate_succ, Array.replicate_zero, List.push_toArray, List.append_toArray, List.nil_append, List.cons_append]
  go_wp2_with (go_at_call 79; refine (pointsV_any s v u _).mono ?_; rintro e w' ⟨rfl, rfl⟩)
  obtain ⟨W2, hW2⟩ : ∃ W2, W2 = (((w.alloc (sgO 94 s.k v s.a s.r s.n s.d u s.e)).alloc (.cells #[.slice none 0 0] 35)).alloc (sgO 94 s.k v s.a s.r s.n s.d u s.e)) := ⟨_, rfl⟩
  rw [← hW2]
  have hs2 : W2.heap.size = w.heap.size + 3 := by rw [hW2]; simp
  have b1 : Boxed W2 (w.heap.size + 1) 35 (.slice none 0 0) := by
    rw [hW2]
    have := Boxed.new (w.alloc (sgO 94 s.k v s.a s.r s.n s.d u s.e)) 35 (.slice none 0 0)
    rw [World.size_alloc] at this
    exact this.alloc _
  have b2 : BoxS W2 (w.heap.size + 2) s v u := by
    rw [hW2]
    have := World.alloc_heap_new ((w.alloc (sgO 94 s.k v s.a s.r s.n s.d u s.e)).alloc (.cells #[.slice none 0 0] 35)) (sgO 94 s.k v s.a s.r s.n s.d u s.e)
    rwa [World.size_alloc, World.size_alloc] at this
  have b4 : Below w.heap.size w W2 := by rw [hW2]; exact (((Below.refl _ w).alloc (Nat.le_refl _) _).alloc (by simp) _).alloc (by simp; omega) _
  have hXs : ∀ k, XT (w.heap.size + 1) W2 k → k = w.heap.size + 1 := by
    intro k hk
    rcases hk with rfl | ⟨off, n, c, sp, e⟩
    · rfl
    · rw [b1.cell] at e
      cases e
  have hst : StandS (XT (w.heap.size + 1)) w.heap.size (w.heap.size + 2) s v u W2 :=
    ⟨h.below b4, hu.below b4, readsR_low h, readsI_low hu, by omega, b2, fun hx => by have := hXs _ hx; omega, fun k hk hx => by have := hXs k hx; omega, fun k hx => by have := hXs k hx; omega⟩
  have hseq := points1_stops s hs (XT (w.heap.size + 1)) (w.heap.size + 1) (XT_hangs _) w.heap.size (w.heap.size + 2) v u W2 (by omega) hst
  have ho0 : W2.ownsRow w.heap.size 53 2 (.slice none 0 0) ([] : List Pn).length (flatP []) := ⟨rfl, .inl ⟨rfl, rfl⟩⟩
  clear hW2 hst b2 hXs h hu hT hok hvl
  generalize ptsS s = full at *
  obtain ⟨k, R, a, r, n, d, V, e⟩ := s
  simp only
  refine wp_rangeH (X := XT (w.heap.size + 1)) (b := w.heap.size + 1) (XT_hangs _) (by omega) (gf := 131) (lb := #[.pointer (some ⟨w.heap.size + 2, 0, none⟩)]) rfl (enters_of Tryz.func131 (by kernel_rfl) rfl)
    hseq (fun _ => rfl)
    (fun pre W' => ∃ v', Boxed W' (w.heap.size + 1) 35 v' ∧ W'.ownsRow w.heap.size 53 2 v' pre.length (flatP pre) ∧ Below w.heap.size w W' ∧ w.heap.size + 3 ≤ W'.heap.size) (fun _ _ _ => False)
    ?oI (fun _ _ _ _ _ hs _ _ => hs) ⟨_, b1, ho0, b4, by omega⟩
    (fun x a' W' => ∃ B, a' = { tmps := #[sgV k v a r n d u e, Value.pointer (some ⟨w.heap.size, 0, none⟩), Value.slice none 0 0, .int .i64 0, Value.pointer (some ⟨w.heap.size + 1, 0, none⟩), undef, Value.pointer (some ⟨B, 0, none⟩), sgV k v a r n d u e, Value.func (Fn.func 131) #[] #[Value.pointer (some ⟨w.heap.size + 2, 0, none⟩)], .int .i64 x.i, .agg #[.int .i64 x.t, .int .i64 x.v], undef, undef, undef, undef, undef], defers := [] } ∧ PointAt W' B x.t x.v ∧ w.heap.size + 3 ≤ B)
    ?oA ?assign ?body ?done ?stop
  case oI =>
    intro pre W1 W1' row ⟨v', h1, h2, h3, h4⟩ hgr hr
    have hr2 : ∀ r, row = some r → ∃ o : Obj, W1.heap[r]? = some o ∧ o.isCells = false := fun r e => (hr r e).2
    exact ⟨v', cells_kept hgr hr2 h1 rfl, owns_kept h2 hgr hr2, below_grown (C := W2.heap.size) b4.size h3 hgr (fun r e => (hr r e).1), Nat.le_trans h4 hgr.size⟩
  case oA =>
    intro x a' _ W1 W1' row ⟨B, h1, h2, h3⟩ hgr hr
    exact ⟨B, h1, point_grown h2 hgr (fun r e => (hr r e).2), h3⟩
  case assign =>
    rintro l' pre ⟨q, t, x⟩ W K ⟨v', h1, h2, h3, h4⟩ hK
    have H1 := Lib.hid (And.intro h1 (And.intro h2 h3))
    clear hseq b1 ho0 h1 h2 h3
    gi_wp2
    have hb := below_alloc W (.cells #[.int .i64 t, .int .i64 x] 53)
    exact hK _ _ ((KeepsOthers.alloc W _).from _) (KeepsC.of_below (XT_hangs _) H1.out.1.lt hb) ⟨v', H1.out.1.alloc _, owns_below H1.out.2.1 hb, under H1.out.2.2 hb, Nat.le_trans h4 hb.size⟩ ⟨W.heap.size, rfl, World.alloc_heap_new W _, h4⟩
  case body =>
    rintro l' pre ⟨q, t, x⟩ a' W1 ⟨v', h1, h2, h3, h4⟩ ⟨B, rfl, hB, hBl⟩ hlt
    have hpl : pre.length ≤ 256 := by omega
    have hc1 := h1.cell
    have hf1 := h1.frozen
    have h1s := h3.size
    have hgl := h1.lt
    obtain ⟨e0, e1, e2⟩ := hB.cells
    have H1 := Lib.hid h1
    have H2 := Lib.hid h2
    have H3 := Lib.hid h3
    clear h1 h2 h3 hlt hseq b1 ho0 hB
    simp only at e0 e1 e2
    gi_wp2_with (gi_at_builtin; refine wpListIn_append_own_at _ rfl _ _ 35 rfl w.heap.size 53 i0 (.agg #[.int .i64 0, .int .i64 0]) 2 16 Tryz.underlying35 hi hz0 hz1 hz2 rfl (by decide) v' _ _ rfl (owns_below H2.out (below_alloc W1 _)) ⟨W1.heap.size, 0, none⟩ 1 1 [.int .i64 t, .int .i64 x] rfl rfl (new_cells2 rfl) (by intro u hu; simp at hu; rcases hu with rfl | rfl <;> rfl) (by unfold maxLen; omega) (by omega) (by simp; omega) ?_; intro v8 w8 hown8 hgrow8 _ h8; obtain ⟨g8, cap8, rfl⟩ := ownsRow_succ hown8; have hx8 : Boxed w8 (w.heap.size + 1) 35 v' := (hgrow8.block _ (by simp; omega) (fun e => Boxed.not_row H1.out (by decide) H2.out e)).trans (((below_alloc W1 _).block _ hgl).trans H1.out); have hc8 := hx8.cell; have hf8 := hx8.frozen)
    obtain ⟨q1, q2, q3, q4, q5⟩ := row_step (B := w.heap.size) (by decide) H1.out (by omega) h1s (below_alloc W1 _) H2.out hgrow8 h8 hown8
    refine ⟨q2.from _, q3, _, q4, ?_, H3.out.trans q1, Nat.le_trans h4 q3.1⟩
    rw [flatP_app, List.length_append]
    simpa [flatP] using q5
  case done =>
    rintro D ys W1 hD rfl ⟨v', h1, h2, h3, h4⟩ hK
    obtain ⟨A1, n1, c1, rfl⟩ := own_slw h2
    have H2 := Lib.hid h2
    have H3 := Lib.hid h3
    have hc1 := h1.cell
    clear h2 h3 hseq b1 ho0
    go_wp2_with fail
    refine ⟨by simp, .inl ⟨_, _, rfl, run_takeDeferred hK, ?_⟩⟩
    exact ⟨.tuple #[.slice A1 n1 c1, .int .i64 0], by simp [results, Tryz.results78, go_sem], A1, n1, c1, rfl, below_grown (C := W2.heap.size) b4.size H3.out (grownBy_putObj' W1 D _) (fun r e => by cases e; exact hD), owns_kept H2.out (grownBy_putObj' W1 D _) (fun r e => by cases e; exact ⟨_, hK, rfl⟩)⟩
  case stop =>
    rintro D c pre W1 _ _ h _
    exact h.elim
def PtsEnd (w : World) (s : Sg) (e : Ending) (w' : World) : Prop := if segB s then GotP w (ptsS s) e w' else e = .returned (.tuple #[.slice none 0 0, .int .i64 210]) ∧ Below w.heap.size w w'
set_option maxRecDepth 100000 in
set_option maxHeartbeats 2000000 in
theorem ofT_any (s : Sg) (hR : s.R.length ≤ 1000000) (hV : s.V.length ≤ 1000000) (v u : Value) (w : World) (h : ReadsR w v s.R) (hu : Reads .i64 w u s.V) :
    Calls Tryz.prog 77 #[sgV s.k v s.a s.r s.n s.d u s.e, fnV 78] w (PtsEnd w s) := by
  have CK := fun W (hb : Below w.heap.size w W) => check_any s hR hV v u W (h.below hb) (hu.below hb)
  have PT := fun (hs : segB s = true) W (hb : Below w.heap.size w W) => points1_any s hs v u W (h.below hb) (hu.below hb)
  unfold PtsEnd
  unfold GotP at PT ⊢
  cases g : segB s
  · rw [g] at CK
    replace CK := Lib.hid CK
    simp only [Bool.false_eq_true, if_false]
    clear PT g hR hV h hu
    obtain ⟨k, R, a, r, n, d, V, e⟩ := s
    have hK := new_seg (Below.refl w.heap.size w) 27 k v a r n d u e
    go_enter Tryz.func77, Tryz.ntmps77
    go_wp2_with fail
    refine (CK.out _ hK.1).mono ?_
    rintro e w1 ⟨rfl, hb⟩
    go_wp2_with fail
    go_returns
    exact ⟨rfl, under hK.1 hb⟩
  · rw [g] at CK
    replace CK := Lib.hid CK
    replace PT := Lib.hid (PT g)
    simp only [if_true]
    clear g hR hV h hu
    generalize ptsS s = full at *
    obtain ⟨k, R, a, r, n, d, V, e⟩ := s
    have hK := new_seg (Below.refl w.heap.size w) 27 k v a r n d u e
    go_enter Tryz.func77, Tryz.ntmps77
    go_wp2_with fail
    refine (CK.out _ hK.1).mono ?_
    rintro e w1 ⟨rfl, hb⟩
    replace hK := hK.next hb
    clear hb
    obtain ⟨⟨_,_,_⟩,⟨_,_,_⟩,⟨_,_,_⟩,⟨_,_,_⟩,⟨_,_,_⟩,⟨_,_,_⟩,⟨_,_,_⟩,⟨_,_,_⟩,_⟩ := hK.2
    go_wp2_with fail
    refine (PT.out _ hK.1).mono ?_
    rintro e w2 ⟨A, n, c, rfl, hb, ho⟩
    have hB := under hK.1 hb
    have HO := Lib.hid (owns_less (B' := w.heap.size) ho hK.1.size)
    clear ho hb
    go_wp2_with fail
    go_returns
    exact ⟨A, n, c, rfl, hB, HO.out⟩
set_option maxRecDepth 100000 in
theorem points_any (s : Sg) (hR : s.R.length ≤ 1000000) (hV : s.V.length ≤ 1000000) (v u : Value) (w : World) (h : ReadsR w v s.R) (hu : Reads .i64 w u s.V) :
    Calls Tryz.prog 29 #[sgV s.k v s.a s.r s.n s.d u s.e] w (PtsEnd w s) := by
  have OF := Lib.hid (fun W (hb : Below w.heap.size w W) => ofT_any s hR hV v u W (h.below hb) (hu.below hb))
  unfold PtsEnd GotP at *
  clear hR hV h hu
  cases g : segB s
  · rw [g] at OF
    simp only [Bool.false_eq_true, if_false] at OF ⊢
    obtain ⟨k, R, a, r, n, d, V, e⟩ := s
    have hK := new_seg (Below.refl w.heap.size w) 27 k v a r n d u e
    go_enter Tryz.func29, Tryz.ntmps29
    go_wp2_with fail
    refine (OF.out _ hK.1).mono ?_
    rintro e w1 ⟨rfl, hb⟩
    go_wp2_with fail
    go_returns
    exact ⟨rfl, under hK.1 hb⟩
  · rw [g] at OF
    simp only [if_true] at OF ⊢
    generalize ptsS s = full at *
    obtain ⟨k, R, a, r, n, d, V, e⟩ := s
    have hK := new_seg (Below.refl w.heap.size w) 27 k v a r n d u e
    go_enter Tryz.func29, Tryz.ntmps29
    go_wp2_with fail
    refine (OF.out _ hK.1).mono ?_
    rintro e w1 ⟨A, n, c, rfl, hb, ho⟩
    have hB := under hK.1 hb
    have HO := Lib.hid (owns_less (B' := w.heap.size) ho hK.1.size)
    clear ho hb
    go_wp2_with fail
    go_returns
    exact ⟨A, n, c, rfl, hB, HO.out⟩
end Go.Proofs.YtcfidimnbamnkaaGreat.P11
