/-
  Layer 2: a number is read out of bytes. Conditions: those written at each fact.
-/
import Derived.Test.YtahfopednhmbiaaGet
import Derived.Test.YtahfopednhmbiaaFrom
import Derived.Test.YtahfopednhmbiaaScan
import Derived.Test.YtahfopednhmbiaaKitX
import Derived.WalkMore
namespace Go.Proofs.Ytahfopednhmbiaa
open Go.RowKit Go.Shelf
attribute [local go_sem] Oper.semAt_some

theorem Gath.kept {W W' : World} {row : Option Nat} {G : Nat} {n s : Int} (h : Gath W G n s) (hg : W.grownBy W' row) (hne : some G ≠ row) : Gath W' G n s := (hg.block G h.lt hne).trans h
theorem gath_own {β : Type} (G : Nat) (f g : β → Int) : Own (fun s W => Gath W G (f s) (g s)) := fun s X Y row hs hg hrow =>
  hs.kept hg (fun e' => by obtain ⟨o, ho, hc⟩ := hrow G e'.symm; rw [show X.heap[G]? = _ from hs] at ho; cases ho; cases hc)
theorem Near.grown {s : Nat} {w W W' : World} {row : Option Nat} (h : Near s w W) (hg : W.grownBy W' row) (hr : ∀ k, row = some k → k = s ∨ w.heap.size ≤ k) : Near s w W' :=
  ⟨hg.os.trans h.os, hg.tape.trans h.tape, hg.output.trans h.output, Nat.le_trans h.size hg.size, fun k hk hs => (hg.block k (Nat.lt_of_lt_of_le hk h.size) (fun e => by rcases hr k e.symm with h | h <;> omega)).trans (h.block k hk hs)⟩
theorem near_own {β : Type} {G C : Nat} {w : World} (hC : w.heap.size ≤ C) : OwnFrom C (fun (_ : β) W => Near G w W) :=
  fun _ _ _ _ hs hg hr => hs.grown hg (fun k e => .inr (Nat.le_trans hC (hr k e).1))

/-- What read leaves: the error; where there is none, the number and how many bytes it has. -/
def DidRead (w : World) (G : Nat) (l : List Int) (e : Ending) (w' : World) : Prop :=
  e = .returned (.int .i64 (scan 0 l).1) ∧ Near G w w' ∧ ((scan 0 l).1 = 0 → Gath w' G (numOf (l.take (scan 0 l).2)) (scan 0 l).2)

/-- Between two rounds. -/
def Mid (w : World) (G : Nat) (pre : List B8) (W : World) : Prop :=
  ((Gath W G (numOf (pre.map (·.1))) pre.length ∧ Boxed W w.heap.size 64 (.pointer (some ⟨G, 0, none⟩))) ∧ Boxed W (w.heap.size + 1) 34 (.int .i64 6) ∧ Cont (pre.map (·.1))) ∧ Near G w W ∧ w.heap.size + 4 ≤ W.heap.size
/-- Behind the last one. -/
def Left (w : World) (G : Nat) (c : Code) (pre : List B8) (W : World) : Prop :=
  (c = .exit 0 ∧ ∃ ev : Int, ((∀ r, scan 0 (pre.map (·.1) ++ r) = (ev, pre.length)) ∧ (Boxed W (w.heap.size + 1) 34 (.int .i64 ev) ∧ (ev = 0 → Gath W G (numOf (pre.map (·.1))) pre.length)))) ∧ Near G w W
theorem took_keeps {W w' : World} {G : Nat} {n s : Int} (hG : Gath W G n s) (hg : W.grownBy w' (some G)) : KeepsOthers W w' :=
  KeepsOthers.of_grownBy hg (fun j o ej hj => by cases ej; rw [show W.heap[G]? = _ from hG] at hj; cases hj; rfl)
theorem mid_next {w W w' : World} {G B : Nat} {pre : List B8} {d : B8} {n' : Int} (h : Mid w G pre W) (hGl : G < w.heap.size) (hg : W.grownBy w' (some G)) (hn : (pre.length : Int) ≤ 8 ∨ d.1 ≤ 1 → n' = numOf (pre.map (·.1)) + d.1 % 128 * 128 ^ ((pre.length : Int)).toNat)
    (hG : Gath w' G n' (pre.length + 1)) (hd : 128 ≤ d.1) (h9 : pre.length ≠ 9) :
    KeepsFrom B W w' ∧ KeepsBut (w.heap.size + 4) (fun k => k = G ∨ k = w.heap.size + 1) W w' ∧ Mid w G (pre ++ [d]) w' := by
  obtain ⟨⟨⟨h1, h2⟩, h3, h4⟩, h5, h6⟩ := h
  have hl := h4.1
  simp only [List.length_map] at hl
  have en := hn (.inl (by omega))
  refine ⟨(took_keeps h1 hg).from _, fun k hk hx => hg.block k (by omega) (fun e => hx (.inl (by cases e; rfl))), ⟨⟨?_, h2.kept hg (fun e => by cases e; omega)⟩, h3.kept hg (fun e => by cases e; omega), ?_⟩, h5.grown hg (fun k e => .inl (by cases e; rfl)), Nat.le_trans h6 hg.size⟩
  · rw [List.map_append, List.map_cons, List.map_nil, numOf_snoc, List.length_append, List.length_map]
    rw [Int.toNat_natCast] at en
    rw [← en]
    exact hG
  · rw [List.map_append]
    exact h4.snoc hd (by simp only [List.length_map]; omega)
theorem left_next {w W w' : World} {G B : Nat} {pre : List B8} {d : B8} {n' ev : Int} (h : Mid w G pre W) (hGl : G < w.heap.size) (hg : W.grownBy w' (some G)) (hn : (pre.length : Int) ≤ 8 ∨ d.1 ≤ 1 → n' = numOf (pre.map (·.1)) + d.1 % 128 * 128 ^ ((pre.length : Int)).toNat)
    (hG : Gath w' G n' (pre.length + 1)) (hev : (if pre.length = 9 ∧ 1 < d.1 then (7, pre.length + 1) else if 128 ≤ d.1 then (9, 0) else if d.1 = 0 ∧ 1 ≤ pre.length then (7, pre.length + 1) else (0, pre.length + 1)) = (ev, pre.length + 1)) :
    KeepsFrom B W (w'.setCell ⟨w.heap.size + 1, 0, none⟩ (.int .i64 ev)) ∧ Left w G (.exit 0) (pre ++ [d]) (w'.setCell ⟨w.heap.size + 1, 0, none⟩ (.int .i64 ev)) := by
  obtain ⟨⟨⟨h1, h2⟩, h3, h4⟩, h5, h6⟩ := h
  have hl := h4.1
  simp only [List.length_map] at hl
  have b1 : Boxed w' (w.heap.size + 1) 34 (.int .i64 6) := h3.kept hg (fun e => by cases e; omega)
  have hne : G ≠ w.heap.size + 1 := by omega
  refine ⟨((took_keeps h1 hg).trans (KeepsOthers.setCell _ _ _)).from _, ⟨rfl, ev, fun r => ?_, b1.set _, fun e0 => ?_⟩, (h5.grown hg (fun k e => .inl (by cases e; rfl))).set (.inr (by simp)) _⟩
  · rw [List.map_append, List.map_cons, List.map_nil, List.append_assoc, List.singleton_append, scan_at h4, List.length_map, List.length_append, List.length_cons, List.length_nil]
    by_cases g1 : pre.length = 9 ∧ 1 < d.1
    · rw [if_pos g1] at hev ⊢; exact hev
    · rw [if_neg g1] at hev ⊢
      by_cases g2 : 128 ≤ d.1
      · rw [if_pos g2] at hev; cases hev
      · rw [if_neg g2] at hev ⊢; exact hev
  · subst e0
    have hd : (pre.length : Int) ≤ 8 ∨ d.1 ≤ 1 := by
      by_cases g1 : pre.length = 9 ∧ 1 < d.1
      · rw [if_pos g1] at hev; cases hev
      · omega
    have en := hn hd
    have hs : Gath (w'.setCell ⟨w.heap.size + 1, 0, none⟩ (.int .i64 0)) G n' (pre.length + 1) := hG.kept (grownBy_setCell' w' _ _) (fun e => hne (by cases e; rfl))
    rw [List.map_append, List.map_cons, List.map_nil, numOf_snoc, List.length_append, List.length_map]
    rw [Int.toNat_natCast] at en
    rw [← en]
    exact hs

set_option maxRecDepth 100000 in
set_option maxHeartbeats 4000000 in
theorem read_in (L : List B8) (hL : L.length ≤ 1000000) (a : Nat) (ha : a ≤ L.length) (G : Nat) (A : Option Addr) (c : Nat) (w : World) (hG : Gath w G 0 0) (hr : Reads .u8 w (.slice A L.length c) (L.map (·.1)))
    (hA : ∀ b off, L ≠ [] → A = some ⟨b, off, none⟩ → b ≠ G) :
    Calls Try.prog 47 #[.pointer (some ⟨G, 0, none⟩), .slice A L.length c, .int .i64 a] w (DidRead w G ((L.drop a).map (·.1))) := by
  have HR := Lib.hid hr
  have HA := Lib.hid hA
  have hGl := hG.lt
  have t0 : decide ((a : Int) < 0) = false := by simp
  clear hr hA
  refine calls_marks Try.func47 rfl ?_
  simp only [Try.ntmps47, List.size_toArray, List.length_cons, List.length_nil, Nat.reduceAdd, Nat.reduceSub, Array.replicate_succ, Array.replicate_zero, List.push_toArray, List.append_toArray, List.nil_append, List.cons_append]
  go_wp2_with fail
  go_step3
  go_wp2_with fail
  go_step3
  go_wp2_with (go_at_call 48; refine (from_any _ _ _ A L.length c rfl).mono ?_; rintro e w' ⟨rfl, rfl⟩)
  obtain ⟨W0, hW0⟩ : ∃ W0, W0 = ((((w.alloc (.cells #[.pointer (some ⟨G, 0, none⟩)] 64)).alloc (.cells #[.int .i64 6] 34)).alloc (.cells #[.slice A L.length c] 22)).alloc (.cells #[.int .i64 a] 3)) := ⟨_, rfl⟩
  rw [← hW0]
  have hs0 : W0.heap.size = w.heap.size + 4 := by rw [hW0]; simp
  have b0 : Boxed W0 w.heap.size 64 (.pointer (some ⟨G, 0, none⟩)) := by rw [hW0]; exact (((Boxed.new w _ _).alloc _).alloc _).alloc _
  have b1 : Boxed W0 (w.heap.size + 1) 34 (.int .i64 6) := by
    rw [hW0]; have := ((Boxed.new (w.alloc (.cells #[.pointer (some ⟨G, 0, none⟩)] 64)) 34 (.int .i64 6)).alloc (.cells #[.slice A L.length c] 22)).alloc (.cells #[.int .i64 a] 3); rwa [World.size_alloc] at this
  have b2 : Boxed W0 (w.heap.size + 1 + 1) 22 (.slice A L.length c) := by
    rw [hW0]; have := (Boxed.new ((w.alloc (.cells #[.pointer (some ⟨G, 0, none⟩)] 64)).alloc (.cells #[.int .i64 6] 34)) 22 (.slice A L.length c)).alloc (.cells #[.int .i64 a] 3); rwa [World.size_alloc, World.size_alloc] at this
  have b3 : Boxed W0 (w.heap.size + 1 + 1 + 1) 3 (.int .i64 a) := by
    rw [hW0]; have := Boxed.new (((w.alloc (.cells #[.pointer (some ⟨G, 0, none⟩)] 64)).alloc (.cells #[.int .i64 6] 34)).alloc (.cells #[.slice A L.length c] 22)) 3 (.int .i64 a); rwa [World.size_alloc, World.size_alloc, World.size_alloc] at this
  have hB0 : Below w.heap.size w W0 := by rw [hW0]; exact ((((Below.refl _ w).alloc (Nat.le_refl _) _).alloc (by simp) _).alloc (by simp; omega) _).alloc (by simp; omega) _
  have hG0 : Gath W0 G 0 0 := (hB0.block G hGl).trans hG
  have hAlt : ∀ b off, L ≠ [] → A = some ⟨b, off, none⟩ → b < w.heap.size + 4 ∧ ¬ (b = G ∨ b = w.heap.size + 1) := by
    intro b off hne e
    obtain ⟨x, L', rfl⟩ := List.exists_cons_of_ne_nil hne
    obtain ⟨b', off', e1, e2, _⟩ := HR.out.at.2.2 0 x.1 rfl
    rw [e] at e1
    cases e1
    have := HA.out b off hne e
    omega
  have hseq := from1_stops L hL a ha (w.heap.size + 1 + 1 + 1) (w.heap.size + 1 + 1) (w.heap.size + 4) (fun k => k = G ∨ k = w.heap.size + 1) W0 A c (HR.out.below hB0) b3 b2 ⟨by omega, by omega⟩ ⟨by omega, by omega⟩ hAlt
  clear hW0 b2 b3 hAlt HR HA hG
  refine wp_rangeK (n₀ := w.heap.size + 4) (X := fun k => k = G ∨ k = w.heap.size + 1) (gf := 50) (lb := #[.pointer (some ⟨w.heap.size + 1 + 1 + 1, 0, none⟩), .pointer (some ⟨w.heap.size + 1 + 1, 0, none⟩)]) rfl (enters_of Try.func50 (by kernel_rfl) rfl)
    hseq (by omega) (fun _ => rfl)
    (Mid w G) (Left w G)
    ?oI ?oIx ⟨⟨⟨hG0, b0⟩, b1, Cont.nil⟩, Near.of hB0, by omega⟩
    (fun d => { tmps := #[Value.pointer (some ⟨G, 0, none⟩), Value.slice A L.length c, Value.int .i64 a, Value.pointer (some ⟨w.heap.size, 0, none⟩), undef, undef, Value.int .i64 0, Value.pointer (some ⟨w.heap.size + 1, 0, none⟩), .int .u8 d.1, Value.int .i64 a, .bool false, .bool false, Value.int .i64 a, Value.slice A L.length c, Value.int .i64 L.length, .bool false, .bool false, Value.slice A L.length c, Value.int .i64 a, Value.func (Fn.func 50) #[] #[.pointer (some ⟨w.heap.size + 1 + 1 + 1, 0, none⟩), .pointer (some ⟨w.heap.size + 1 + 1, 0, none⟩)], .int .u8 d.1, undef, undef, undef, undef, undef, undef, undef, undef, undef, undef, undef, undef, undef, undef, undef, undef, undef, undef, undef, undef, undef, undef, undef, undef, undef, undef, undef], defers := [] }) ?assign ?body ?done ?stop
  case oI =>
    exact OwnFrom.and (OwnFrom.and (OwnFrom.and (Own.from (gath_own G _ _) _) (Own.from (boxed_own _ _ _) _)) (OwnFrom.and (Own.from (boxed_own _ _ _) _) (ownFrom_pure _ _))) (OwnFrom.and (near_own (by omega)) (fun _ _ _ _ hs hg _ => Nat.le_trans hs hg.size))
  case oIx =>
    intro c
    refine OwnFrom.and ?_ (near_own (by omega))
    rintro pre W W' row ⟨hc, ev, h1, h2, h3⟩ hg hr
    exact ⟨hc, ev, h1, Own.from (boxed_own (β := Unit) (w.heap.size + 1) 34 (fun _ => .int .i64 ev)) W0.heap.size () W W' row h2 hg hr, fun e => Own.from (gath_own (β := Unit) G (fun _ => numOf (pre.map (·.1))) (fun _ => pre.length)) W0.heap.size () W W' row (h3 e) hg hr⟩
  case assign =>
    intro l' d W K' hK
    gi_wp2
    simpa using hK
  case body =>
    rintro l' pre ⟨z, hz0, hz1⟩ W hmid hlt
    have HMid := Lib.hid hmid
    have hm9 : pre.length ≤ 9 := by simpa using hmid.1.2.2.1
    have hb0 := hmid.1.1.2
    have hb1 := hmid.1.2.1
    have hc0 := hb0.cell
    have hnr := numOf_range (pre.map (·.1))
    rw [List.length_map] at hnr
    have HT := Lib.hid (take_any G pre.length hm9 _ z W hmid.1.1.1 hnr.1 hnr.2 hz0 hz1)
    have HB0 := Lib.hid hb0
    have HB1 := Lib.hid hb1
    obtain ⟨s, hs⟩ : ∃ s, pre.length = s := ⟨_, rfl⟩
    rw [hs] at HT hm9
    have HSE := Lib.hid hs
    clear hmid hnr hs hb0 hb1 hlt
    by_cases g9 : s = 9
    · subst g9
      by_cases g1 : 1 < z
      · gi_wp2_with (refine ⟨trivial, ?_⟩; gi_at_call 49; refine (CallsIn.inRound l' (callsIn_wide.2 HT.out)).mono ?_; rintro e w' ⟨⟨v, rfl⟩, hgr, n', hn0, hn1, hn, hG'⟩; have hb0' := HB0.out.kept hgr (fun e => by cases e; omega); have hb1' := HB1.out.kept hgr (fun e => by cases e; omega); have hc0' := hb0'.cell; have hc1' := hb1'.cell; have hf1' := hb1'.frozen; have hg1 := hG'.cell1; have HGR := Lib.hid hgr; have HN := Lib.hid hn; have HG2 := Lib.hid hG'; clear hgr hn hG' hb0' hb1' hc0)
        exact left_next (d := ⟨z, hz0, hz1⟩) HMid.out hGl HGR.out (by rw [HSE.out]; exact HN.out) (by rw [HSE.out]; exact HG2.out) (by rw [HSE.out]; dsimp only; rw [if_pos ⟨rfl, g1⟩])
      · by_cases g0 : z = 0
        · subst g0
          gi_wp2_with (refine ⟨trivial, ?_⟩; gi_at_call 49; refine (CallsIn.inRound l' (callsIn_wide.2 HT.out)).mono ?_; rintro e w' ⟨⟨v, rfl⟩, hgr, n', hn0, hn1, hn, hG'⟩; have hb0' := HB0.out.kept hgr (fun e => by cases e; omega); have hb1' := HB1.out.kept hgr (fun e => by cases e; omega); have hc0' := hb0'.cell; have hc1' := hb1'.cell; have hf1' := hb1'.frozen; have hg1 := hG'.cell1; have HGR := Lib.hid hgr; have HN := Lib.hid hn; have HG2 := Lib.hid hG'; clear hgr hn hG' hb0' hb1' hc0)
          exact left_next HMid.out hGl HGR.out (by rw [HSE.out]; exact HN.out) (by rw [HSE.out]; exact HG2.out) (by rw [HSE.out]; rfl)
        · have g0' : z = 1 := by omega
          subst g0'
          gi_wp2_with (refine ⟨trivial, ?_⟩; gi_at_call 49; refine (CallsIn.inRound l' (callsIn_wide.2 HT.out)).mono ?_; rintro e w' ⟨⟨v, rfl⟩, hgr, n', hn0, hn1, hn, hG'⟩; have hb0' := HB0.out.kept hgr (fun e => by cases e; omega); have hb1' := HB1.out.kept hgr (fun e => by cases e; omega); have hc0' := hb0'.cell; have hc1' := hb1'.cell; have hf1' := hb1'.frozen; have hg1 := hG'.cell1; have HGR := Lib.hid hgr; have HN := Lib.hid hn; have HG2 := Lib.hid hG'; clear hgr hn hG' hb0' hb1' hc0)
          exact left_next HMid.out hGl HGR.out (by rw [HSE.out]; exact HN.out) (by rw [HSE.out]; exact HG2.out) (by rw [HSE.out]; rfl)
    · have t1 : (((s : Nat) : Int) + 1 == 10) = false := beq_eq_false_iff_ne.2 (by omega)
      by_cases g2 : 128 ≤ z
      · gi_wp2_with (refine ⟨trivial, ?_⟩; gi_at_call 49; refine (CallsIn.inRound l' (callsIn_wide.2 HT.out)).mono ?_; rintro e w' ⟨⟨v, rfl⟩, hgr, n', hn0, hn1, hn, hG'⟩; have hb0' := HB0.out.kept hgr (fun e => by cases e; omega); have hb1' := HB1.out.kept hgr (fun e => by cases e; omega); have hc0' := hb0'.cell; have hc1' := hb1'.cell; have hf1' := hb1'.frozen; have hg1 := hG'.cell1; have HGR := Lib.hid hgr; have HN := Lib.hid hn; have HG2 := Lib.hid hG'; clear hgr hn hG' hb0' hb1' hc0)
        exact mid_next HMid.out hGl HGR.out (by rw [HSE.out]; exact HN.out) (by rw [HSE.out]; exact HG2.out) g2 (by rw [HSE.out]; exact g9)
      · by_cases g0 : z = 0
        · subst g0
          by_cases g1 : 1 ≤ s
          · have t2 : (1 : Int) < (s : Int) + 1 := by omega
            gi_wp2_with (refine ⟨trivial, ?_⟩; gi_at_call 49; refine (CallsIn.inRound l' (callsIn_wide.2 HT.out)).mono ?_; rintro e w' ⟨⟨v, rfl⟩, hgr, n', hn0, hn1, hn, hG'⟩; have hb0' := HB0.out.kept hgr (fun e => by cases e; omega); have hb1' := HB1.out.kept hgr (fun e => by cases e; omega); have hc0' := hb0'.cell; have hc1' := hb1'.cell; have hf1' := hb1'.frozen; have hg1 := hG'.cell1; have HGR := Lib.hid hgr; have HN := Lib.hid hn; have HG2 := Lib.hid hG'; clear hgr hn hG' hb0' hb1' hc0)
            exact left_next (d := ⟨0, hz0, hz1⟩) HMid.out hGl HGR.out (by rw [HSE.out]; exact HN.out) (by rw [HSE.out]; exact HG2.out) (by rw [HSE.out]; dsimp only; rw [if_neg (by omega), if_neg (by omega), if_pos ⟨rfl, g1⟩])
          · have g1' : s = 0 := by omega
            subst g1'
            gi_wp2_with (refine ⟨trivial, ?_⟩; gi_at_call 49; refine (CallsIn.inRound l' (callsIn_wide.2 HT.out)).mono ?_; rintro e w' ⟨⟨v, rfl⟩, hgr, n', hn0, hn1, hn, hG'⟩; have hb0' := HB0.out.kept hgr (fun e => by cases e; omega); have hb1' := HB1.out.kept hgr (fun e => by cases e; omega); have hc0' := hb0'.cell; have hc1' := hb1'.cell; have hf1' := hb1'.frozen; have hg1 := hG'.cell1; have HGR := Lib.hid hgr; have HN := Lib.hid hn; have HG2 := Lib.hid hG'; clear hgr hn hG' hb0' hb1' hc0)
            exact left_next HMid.out hGl HGR.out (by rw [HSE.out]; exact HN.out) (by rw [HSE.out]; exact HG2.out) (by rw [HSE.out]; rfl)
        · have t3 : (z == 0) = false := beq_eq_false_iff_ne.2 g0
          gi_wp2_with (refine ⟨trivial, ?_⟩; gi_at_call 49; refine (CallsIn.inRound l' (callsIn_wide.2 HT.out)).mono ?_; rintro e w' ⟨⟨v, rfl⟩, hgr, n', hn0, hn1, hn, hG'⟩; have hb0' := HB0.out.kept hgr (fun e => by cases e; omega); have hb1' := HB1.out.kept hgr (fun e => by cases e; omega); have hc0' := hb0'.cell; have hc1' := hb1'.cell; have hf1' := hb1'.frozen; have hg1 := hG'.cell1; have HGR := Lib.hid hgr; have HN := Lib.hid hn; have HG2 := Lib.hid hG'; clear hgr hn hG' hb0' hb1' hc0)
          exact left_next (d := ⟨z, hz0, hz1⟩) HMid.out hGl HGR.out (by rw [HSE.out]; exact HN.out) (by rw [HSE.out]; exact HG2.out) (by rw [HSE.out]; dsimp only; rw [if_neg (by omega), if_neg (by omega), if_neg (by omega)])
  case done =>
    rintro D ys W hD rfl ⟨⟨_, hb1, hcont⟩, hN, _⟩ hKD
    have hc1 := hb1.cell
    have e := scan_short hcont
    have E := Lib.hid e
    clear e
    go_wp2_with fail
    rw [Exit.noGoto_ret]
    refine ⟨by simp, .inl ⟨_, _, rfl, run_takeDeferred hKD, ?_⟩⟩
    refine ⟨_, results_tmp rfl _ _ _, by rw [E.out]; rfl, hN.grown (grownBy_putObj' W D _) (fun k e => .inr (by cases e; omega)), fun e => ?_⟩
    rw [E.out] at e
    cases e
  case stop =>
    rintro D c pre W hD hpre ⟨⟨rfl, ev, hsc, hb1, hg1⟩, hN⟩ hKD
    have hc1 := hb1.cell
    obtain ⟨r, hr⟩ := hpre
    have e := hsc (r.map (·.1))
    rw [← List.map_append, hr] at e
    have HS := Lib.hid e
    have HG := Lib.hid hg1
    have HR := Lib.hid hr
    clear hsc hg1 hr e
    go_wp2_with fail
    rw [Exit.noGoto_ret]
    refine ⟨by simp, .inl ⟨_, _, rfl, run_takeDeferred hKD, ?_⟩⟩
    refine ⟨_, results_tmp rfl _ _ _, by rw [HS.out]; rfl, hN.grown (grownBy_putObj' W D _) (fun k e => .inr (by cases e; omega)), fun e => ?_⟩
    rw [HS.out] at e
    have hgG := HG.out e
    have e3 : ((L.drop a).map (·.1)).take (scan 0 ((L.drop a).map (·.1))).2 = pre.map (·.1) := by
      rw [HS.out, ← HR.out, List.map_append]
      exact List.take_left' (by simp)
    rw [e3, HS.out]
    exact hgG.kept (grownBy_putObj' W D _) (fun e' => by cases e'; rw [show W.heap[G]? = _ from hgG] at hKD; cases hKD)
end Go.Proofs.Ytahfopednhmbiaa
