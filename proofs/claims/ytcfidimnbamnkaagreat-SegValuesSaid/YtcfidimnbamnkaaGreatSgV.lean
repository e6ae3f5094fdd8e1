/-
  Layer 11: the points of a segment, one by one, with their places. Conditions: the segment may be.
-/
import Derived.Test.YtcfidimnbamnkaaGreatSgN
import Derived.Test.YtcfidimnbamnkaaGreatNB
namespace Go.Proofs.YtcfidimnbamnkaaGreat.P11
open Go.RowKit Go.Shelf Go.Proofs.YtcfidimnbamnkaaGreat.P7
attribute [local go_sem] Oper.semAt_some
attribute [local go_sem] fieldK0 fieldK1 fieldK2

structure Pn where
  i : Int
  t : Int
  v : Int
def ptsF : Nat → List Int → List Int → List Pn
  | k, t :: T, v :: V => ⟨k, t, v⟩ :: ptsF (k + 1) T V
  | _, _, _ => []
def ptsS (s : Sg) : List Pn := ptsF 0 (timesR s.R) (vals s)
theorem ptsF_length : ∀ (k : Nat) (T V : List Int), V.length = T.length → (ptsF k T V).length = T.length
  | _, [], [], _ => rfl
  | k, t :: T, v :: V, h => by simp only [ptsF, List.length_cons]; rw [ptsF_length (k + 1) T V (by simpa using h)]
  | _, [], _ :: _, h => by simp at h
  | _, _ :: _, [], h => by simp at h
theorem ptsF_get : ∀ (k : Nat) (T V : List Int) (q : Nat) (t v : Int), T[q]? = some t → V[q]? = some v → (ptsF k T V)[q]? = some ⟨((k + q : Nat) : Int), t, v⟩
  | _, [], _, q, t, v, h, _ => by simp at h
  | _, _ :: _, [], q, t, v, _, h => by simp at h
  | k, x :: T, y :: V, 0, t, v, h1, h2 => by simp at h1 h2; subst h1 h2; rfl
  | k, x :: T, y :: V, q + 1, t, v, h1, h2 => by
    simp only [List.getElem?_cons_succ] at h1 h2
    simp only [ptsF, List.getElem?_cons_succ]
    rw [ptsF_get (k + 1) T V q t v h1 h2]
    congr 2
    omega
def BoxS (W : World) (B : Nat) (s : Sg) (v u : Value) : Prop := W.heap[B]? = some (.cells #[.int .i64 s.k, v, .int .i64 s.a, .int .i64 s.r, .int .i64 s.n, .int .i64 s.d, u, .int .i64 s.e] 94 (0, 0))
theorem BoxS.lt {W : World} {B : Nat} {s : Sg} {v u : Value} (h : BoxS W B s v u) : B < W.heap.size := (Array.getElem?_eq_some_iff.1 (show W.heap[B]? = _ from h)).1
theorem BoxS.cells {W : World} {B : Nat} {s : Sg} {v u : Value} (h : BoxS W B s v u) : Cells [(B, 0, .int .i64 s.k), (B, 1, v), (B, 2, .int .i64 s.a), (B, 3, .int .i64 s.r), (B, 4, .int .i64 s.n), (B, 5, .int .i64 s.d), (B, 6, u), (B, 7, .int .i64 s.e)] W := by
  have hz := h.lt
  have e : W.heap[B]? = _ := h
  exact ⟨⟨hz, by simp [World.cell?, e], by simp [World.frozen?, e]⟩, ⟨hz, by simp [World.cell?, e], by simp [World.frozen?, e]⟩, ⟨hz, by simp [World.cell?, e], by simp [World.frozen?, e]⟩, ⟨hz, by simp [World.cell?, e], by simp [World.frozen?, e]⟩, ⟨hz, by simp [World.cell?, e], by simp [World.frozen?, e]⟩, ⟨hz, by simp [World.cell?, e], by simp [World.frozen?, e]⟩, ⟨hz, by simp [World.cell?, e], by simp [World.frozen?, e]⟩, ⟨hz, by simp [World.cell?, e], by simp [World.frozen?, e]⟩, trivial⟩
theorem cell_kept {X : World → Nat → Prop} {A B : World} {b o : Nat} {x : Value} (k : KeepsC X A B) (hx : ¬ X A b) (h : A.cell? ⟨b, o, none⟩ = some x) : B.cell? ⟨b, o, none⟩ = some x := by
  cases ho : A.heap[b]? with
  | none => simp [World.cell?, ho] at h
  | some ob =>
    have hoc : ob.isCells = true := by
      cases ob with
      | cells _ _ _ => rfl
      | _ => simp [World.cell?, ho] at h
    exact (World.cell?_of_block (w := A) ((k.2.2 b ob ho hoc hx).trans ho.symm)).trans h
theorem readsR_kept {X : World → Nat → Prop} {A B : World} {v : Value} {l : List Rn} (h : ReadsR A v l) (n0 : Nat) (hn : ∀ C a c n, v = .slice (some ⟨C, a, none⟩) n c → l ≠ [] → C < n0) (hx : ∀ k, k < n0 → ¬ X A k) (k : KeepsC X A B) : ReadsR B v l := by
  obtain ⟨Ad, c, rfl, hc, hk⟩ := h
  refine ⟨Ad, c, rfl, hc, fun i r hi => ?_⟩
  obtain ⟨b, off, e1, e2, e3, e4, e5⟩ := hk i r hi
  have hne : l ≠ [] := by rintro rfl; simp at hi
  have hb := hx b (hn b off c l.length (by rw [e1]) hne)
  exact ⟨b, off, e1, Nat.lt_of_lt_of_le e2 k.1, cell_kept k hb e3, cell_kept k hb e4, cell_kept k hb e5⟩
theorem readsI_kept {X : World → Nat → Prop} {A B : World} {v : Value} {l : List Int} (h : Reads .i64 A v l) (n0 : Nat) (hn : ∀ C a c n, v = .slice (some ⟨C, a, none⟩) n c → l ≠ [] → C < n0) (hx : ∀ k, k < n0 → ¬ X A k) (k : KeepsC X A B) : Reads .i64 B v l := by
  obtain ⟨Ad, c, rfl, hc, hk⟩ := h
  refine ⟨Ad, c, rfl, hc, fun i r hi => ?_⟩
  obtain ⟨b, off, e1, e2, e3⟩ := hk i r hi
  have hne : l ≠ [] := by rintro rfl; simp at hi
  have hb := hx b (hn b off c l.length (by rw [e1]) hne)
  exact ⟨b, off, e1, Nat.lt_of_lt_of_le e2 k.1, cell_kept k hb e3⟩
theorem readsR_low {w0 : World} {v : Value} {l : List Rn} (h : ReadsR w0 v l) : ∀ C a c n, v = .slice (some ⟨C, a, none⟩) n c → l ≠ [] → C < w0.heap.size := by
  intro C a c n e hne
  obtain ⟨r, l', rfl⟩ := List.exists_cons_of_ne_nil hne
  obtain ⟨Ad, c', rfl, _, hk⟩ := h
  obtain ⟨b, off, e1, e2, _⟩ := hk 0 r rfl
  rw [e1] at e
  cases e
  exact e2
theorem readsI_low {w0 : World} {v : Value} {l : List Int} (h : Reads .i64 w0 v l) : ∀ C a c n, v = .slice (some ⟨C, a, none⟩) n c → l ≠ [] → C < w0.heap.size := by
  intro C a c n e hne
  obtain ⟨r, l', rfl⟩ := List.exists_cons_of_ne_nil hne
  obtain ⟨Ad, c', rfl, _, hk⟩ := h
  obtain ⟨b, off, e1, e2, _⟩ := hk 0 r rfl
  rw [e1] at e
  cases e
  exact e2
structure StandS (X : World → Nat → Prop) (n0 Bs : Nat) (s : Sg) (v u : Value) (W : World) : Prop where
  reads : ReadsR W v s.R
  raws : Reads .i64 W u s.V
  lowR : ∀ C a c n, v = .slice (some ⟨C, a, none⟩) n c → s.R ≠ [] → C < n0
  lowI : ∀ C a c n, u = .slice (some ⟨C, a, none⟩) n c → s.V ≠ [] → C < n0
  size : n0 ≤ W.heap.size
  box : BoxS W Bs s v u
  off : ¬ X W Bs
  far : ∀ k, k < n0 → ¬ X W k
  small : ∀ k, X W k → k < W.heap.size
theorem StandS.next {X : World → Nat → Prop} {n0 Bs : Nat} {s : Sg} {v u : Value} {W W' : World} (h : StandS X n0 Bs s v u W) (k : KeepsC X W W') : StandS X n0 Bs s v u W' :=
  ⟨readsR_kept h.reads n0 h.lowR h.far k, readsI_kept h.raws n0 h.lowI h.far k, h.lowR, h.lowI, Nat.le_trans h.size k.1, k.2.2 Bs _ h.box rfl h.off,
    fun hx => by
      rcases k.2.1 Bs hx with h1 | h1
      · exact h.off h1
      · have := h.box.lt; omega,
    fun j hj hx => by
      rcases k.2.1 j hx with h1 | h1
      · exact h.far j hj h1
      · have := h.size; omega,
    fun j hj => by
      rcases k.2.1 j hj with h1 | h1
      · exact Nat.lt_of_lt_of_le (h.small j h1) k.1
      · exact h1.2⟩
theorem one_moreV {k N : Nat} (h : k < N) (hN : N ≤ 1000000) : wrap64 ((k : Int) + 1) = (k : Int) + 1 := i64_keeps (by omega) (by omega)
theorem turn_lessV {k N : Nat} (h : k < N) : N - (intOf (Value.int .i64 ((k : Int) + 1))).toNat < N - (intOf (Value.int .i64 (k : Int))).toNat := by simp [intOf]; omega
set_option maxRecDepth 100000 in
set_option maxHeartbeats 4000000 in
theorem points1_stops (s : Sg) (hs : segB s = true) (X : World → Nat → Prop) (b : Nat) (hX : Hangs X b) (n0 Bs : Nat) (v u : Value) (w : World) (hb : b < w.heap.size) (hst : StandS X n0 Bs s v u w) :
    SeqStopsK Fence.wide 8 Tryz.prog 131 #[.pointer (some ⟨Bs, 0, none⟩)] (fun z : Pn => #[Value.int .i64 z.i, Value.agg #[.int .i64 z.t, .int .i64 z.v]]) (KeepsC X) (fun ys => ys = ptsS s) (fun pre => pre <+: ptsS s) (ptsS s).length w := by
  intro g J Jx W hW hJa hJxa hY h0
  have hbW : b < W.heap.size := Nat.lt_of_lt_of_le hb hW.size
  have hst' := hst.next (KeepsC.of_below hX hb hW)
  clear hst hW
  have hok := ((segB_iff s).1 hs).1
  have hT := times_ok hok
  have hvl := vals_length hs
  have hR1 : s.R.length ≤ 1000000 := by have := hT.runs; omega
  have SY := Lib.hid (fun W => says_any s hs v u W)
  have TM := Lib.hid (fun W (h : ReadsR W v s.R) => timesA_any s.R hR1 v W h)
  have VF := Lib.hid (fun (q : Nat) (t x : Int) W (hq : (timesR s.R)[q]? = some t) (hx : (vals s)[q]? = some x) (h : StandS X n0 Bs s v u W) => value_any s hs q t x hq hx v u W h.reads h.raws)
  have eK := val_enters s.k
  have PG := Lib.hid (fun (q : Nat) (t x : Int) (hq : (timesR s.R)[q]? = some t) (hx : (vals s)[q]? = some x) => ptsF_get 0 _ _ q t x hq hx)
  have PL := ptsF_length 0 _ _ hvl
  have HTL := Lib.hid hT.few
  have HVL := Lib.hid hvl
  have HT0 := Lib.hid hT.one
  refine callsIn_of_wp Tryz.func131 rfl trivial ?_ rfl
  simp only [Tryz.ntmps131, List.size_toArray, List.length_cons, List.length_nil, Nat.reduceAdd, Nat.reduceSub, Array.replicate_succ, Array.replicate_zero, List.push_toArray, List.append_toArray, List.nil_append, List.cons_append]
  have HY := Lib.hid hY
  have HJA := Lib.hid hJa
  have HJX := Lib.hid hJxa
  clear hY hJa hJxa hT
  obtain ⟨⟨kz0,kc0,kf0⟩,⟨kz1,kc1,kf1⟩,⟨kz2,kc2,kf2⟩,⟨kz3,kc3,kf3⟩,⟨kz4,kc4,kf4⟩,⟨kz5,kc5,kf5⟩,⟨kz6,kc6,kf6⟩,⟨kz7,kc7,kf7⟩,_⟩ := hst'.box.cells
  gi_wp2_with fail
  refine ⟨trivial, ?_⟩
  refine (callsIn_wide.2 (SY.out _)).mono ?_
  rintro en w1 ⟨rfl, hb1⟩
  have hst1 := hst'.next (KeepsC.of_below hX hbW hb1)
  have hb1s : b < w1.heap.size := Nat.lt_of_lt_of_le hbW hb1.size
  have hJ1 := abides_below HJA.out h0 hb1
  (try clear kz0 kc0 kf0); (try clear kz1 kc1 kf1); (try clear kz2 kc2 kf2); (try clear kz3 kc3 kf3); (try clear kz4 kc4 kf4); (try clear kz5 kc5 kf5); (try clear kz6 kc6 kf6); (try clear kz7 kc7 kf7)
  clear hst' h0
  obtain ⟨⟨kz0,kc0,kf0⟩,⟨kz1,kc1,kf1⟩,⟨kz2,kc2,kf2⟩,⟨kz3,kc3,kf3⟩,⟨kz4,kc4,kf4⟩,⟨kz5,kc5,kf5⟩,⟨kz6,kc6,kf6⟩,⟨kz7,kc7,kf7⟩,_⟩ := hst1.box.cells
  gi_wp2_with fail
  refine ⟨trivial, ?_⟩
  refine (callsIn_wide.2 (TM.out _ hst1.reads)).mono ?_
  rintro en w2 htm
  have htm2 : GotI w1 (timesR s.R) en w2 := by
    unfold TimesRes at htm
    rw [hok] at htm
    simpa using htm
  clear htm
  obtain ⟨v2, rfl, hb2, hrow⟩ := htm2
  have hrd := reads_own (k := .i64) hrow
  obtain ⟨g2, c2, rfl, hg2⟩ : ∃ g2 c2, v2 = .slice (some ⟨g2, 0, none⟩) (timesR s.R).length c2 ∧ w1.heap.size ≤ g2 := by
    rcases hrow.2 with ⟨_, h0⟩ | ⟨g2, cap2, cur2, rfl, hB2, _⟩
    · have := HT0.out; omega
    · exact ⟨g2, cap2, rfl, hB2⟩
  have hst2 := hst1.next (KeepsC.of_below hX hb1s hb2)
  have hxg : ¬ X w2 g2 := fun h => by
    have := hst1.small _ (hX w1 w2 g2 (hb2.block b hb1s) h)
    omega
  have hJ2 := abides_below HJA.out hJ1 hb2
  obtain ⟨A2, cc2, e2, hc2, hk2⟩ := hrd
  cases e2
  have HC : Hid (∀ (W : World), KeepsC X w2 W → ∀ (q : Nat) (t : Int), (timesR s.R)[q]? = some t → W.cell? ⟨g2, q, none⟩ = some (.int .i64 t)) := Lib.hid (fun W hk q t hq => by
    obtain ⟨b', off', e1, _, e3⟩ := hk2 q t hq
    cases e1
    rw [Nat.zero_add] at e3
    exact cell_kept hk hxg e3)
  have HS := Lib.hid (fun (W : World) (hk : KeepsC X w2 W) => hst2.next hk)
  have hgl : g2 < w2.heap.size := by
    obtain ⟨t0, h0⟩ : ∃ t0, (timesR s.R)[0]? = some t0 := ⟨_, List.getElem?_eq_getElem HT0.out⟩
    obtain ⟨b', off', e1, e2, _⟩ := hk2 0 t0 h0
    cases e1
    exact e2
  have HG := Lib.hid hgl
  clear hst1 hst2 hb1 hJ1 hk2 hrow hxg hgl hg2
  generalize hN : (timesR s.R).length = N at *
  have HN := Lib.hid hN
  clear hN
  (try clear kz0 kc0 kf0); (try clear kz1 kc1 kf1); (try clear kz2 kc2 kf2); (try clear kz3 kc3 kf3); (try clear kz4 kc4 kf4); (try clear kz5 kc5 kf5); (try clear kz6 kc6 kf6); (try clear kz7 kc7 kf7)
  gi_wp2_with fail
  gi_loopw [20] (fun i wr => ∃ (k : Nat) (pre : List Pn), i = .int .i64 k ∧ k ≤ N ∧ Hid (pre = (ptsS s).take k) ∧ J pre wr ∧ Hid (KeepsC X w2 wr))
    (fun i _ => N - (intOf i).toNat)
  case atStart => exact ⟨0, [], rfl, Nat.zero_le _, Lib.hid rfl, hJ2, Lib.hid ⟨Nat.le_refl _, fun _ h => .inl h, fun _ _ h _ _ => h⟩⟩
  case round =>
    obtain ⟨k, pre, rfl, hkl, hp, hJ, hk⟩ := hrel
    clear hJ2
    by_cases gk : k < N
    · obtain ⟨t, ht⟩ : ∃ t, (timesR s.R)[k]? = some t := ⟨_, List.getElem?_eq_getElem (by rw [HN.out]; exact gk)⟩
      obtain ⟨x, hx⟩ : ∃ x, (vals s)[k]? = some x := ⟨_, List.getElem?_eq_getElem (by rw [HVL.out]; exact gk)⟩
      have cc := HC.out wr hk.out k t ht
      have hSt := HS.out wr hk.out
      have hpt := PG.out k t x ht hx
      rw [Nat.zero_add] at hpt
      have hpl : pre.length < (ptsS s).length := by rw [hp.out, List.length_take]; have := (List.getElem?_eq_some_iff.1 hpt).1; show min k (ptsF 0 _ _).length < _; unfold ptsS; omega
      have hpn : Hid (pre ++ [⟨(k : Int), t, x⟩] = (ptsS s).take (k + 1)) := Lib.hid (by rw [hp.out, List.take_add_one]; unfold ptsS; rw [hpt]; rfl)
      have HPL := Lib.hid hpl
      have i1 : (k : Int) < (N : Int) := by omega
      have i0 : (0 : Int) ≤ (k : Int) := by omega
      have wk := one_moreV gk (show N ≤ 1000000 by have := HTL.out; omega)
      have tl := Lib.hid (turn_lessV gk)
      have VC := VF.out k t x wr ht hx hSt
      obtain ⟨⟨kz0,kc0,kf0⟩,⟨kz1,kc1,kf1⟩,⟨kz2,kc2,kf2⟩,⟨kz3,kc3,kf3⟩,⟨kz4,kc4,kf4⟩,⟨kz5,kc5,kf5⟩,⟨kz6,kc6,kf6⟩,⟨kz7,kc7,kf7⟩,_⟩ := hSt.box.cells
      have hglr : g2 < wr.heap.size := Nat.lt_of_lt_of_le HG.out hk.out.1
      have HST := Lib.hid hSt
      clear hpl hpt ht hx hSt
      gi_wp2_with fail
      refine ⟨trivial, ?_⟩
      refine (callsIn_wide.2 VC).mono ?_
      rintro en w3 ⟨rfl, hb3⟩
      have hbr : b < wr.heap.size := Nat.lt_of_lt_of_le hb1s (Nat.le_trans hb2.size hk.out.1)
      have hkc := KeepsC.of_below hX hbr hb3
      have hJ3 := abides_below HJA.out hJ hb3
      have HK3 := Lib.hid (hk.out.trans hkc)
      obtain ⟨fn, tmps, assign, body, hyl, hR⟩ := HY.out pre ⟨(k : Int), t, x⟩ w3 hJ3 HPL.out
      clear hJ3 hJ hb3 hkc VC cc
      (try clear kz0 kc0 kf0); (try clear kz1 kc1 kf1); (try clear kz2 kc2 kf2); (try clear kz3 kc3 kf3); (try clear kz4 kc4 kf4); (try clear kz5 kc5 kf5); (try clear kz6 kc6 kf6); (try clear kz7 kc7 kf7)
      gi_wp2
      refine hR.mono ?_
      rintro e W3 (⟨rfl, hJ4, hk4⟩ | ⟨rfl, hJx4⟩)
      · have HK4 := Lib.hid (HK3.out.trans hk4)
        clear hk4
        gi_wp2
        go_roundw
        case rel => exact ⟨k + 1, _, by simp [wk], gk, hpn, hJ4, HK4⟩
        case measure => rw [wk]; exact tl.out
      · gi_wp2
        refine bodyPost_ret (results_none rfl _ _ _) rfl ?_
        exact ⟨⟨_, rfl⟩, .inr ⟨_, by rw [hpn.out]; exact List.take_prefix _ _, hJx4⟩⟩
    · have hkk : k = N := by omega
      have E : Hid (pre = ptsS s) := Lib.hid (by
        rw [hp.out, hkk, List.take_of_length_le]
        unfold ptsS
        rw [PL]
        exact Nat.le_refl _)
      have i1 : ¬ (k : Int) < (N : Int) := by omega
      clear hp HY
      gi_wp2
      go_end0
      exact ⟨⟨_, rfl⟩, .inl (E.out ▸ hJ)⟩
end Go.Proofs.YtcfidimnbamnkaaGreat.P11
