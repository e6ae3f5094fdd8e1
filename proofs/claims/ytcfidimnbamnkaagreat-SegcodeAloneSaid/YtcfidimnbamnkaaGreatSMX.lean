/-
 Layer 11: the points of a segment, one by one, with their places. Conditions: the segment may be.
-/
import Derived.Test.YtcfidimnbamnkaaGreatSGA
import Derived.Test.YtcfidimnbamnkaaGreatNB
import Derived.Test.YtcfidimnbamnkaaGreatKitW
import Derived.Maps.RangeWalk
import Derived.RangeFuncNested
import Derived.Maps.AppendAt
import Derived.Maps.OwnIn
import Derived.Test.YtcfidimnbamnkaaGreatKitT
import Derived.Test.YtcfidimnbamnkaaGreatEq
import Derived.Test.YtcfidimnbamnkaaGreatNE
namespace Go.Proofs.YtcfidimnbamnkaaGreat.P11
open Go.RowKit Go.Shelf Go.Proofs.YtcfidimnbamnkaaGreat.P7
attribute [local go_sem] Oper.semAt_some
attribute [local go_sem] fieldK0 fieldK1 fieldK2

def BoxS (W : World) (B : Nat) (s : Sg) (v u : Value) : Prop := W.heap[B]? = some (.cells #[.int .i64 s.k, v, .int .i64 s.a, .int .i64 s.r, .int .i64 s.n, .int .i64 s.d, u, .int .i64 s.e] 94 (0, 0))
theorem BoxS.lt {W : World} {B : Nat} {s : Sg} {v u : Value} (h : BoxS W B s v u) : B < W.heap.size := (Array.getElem?_eq_some_iff.1 (show W.heap[B]? = _ from h)).1
theorem BoxS.cells {W : World} {B : Nat} {s : Sg} {v u : Value} (h : BoxS W B s v u) : Cells [(B, 0, .int .i64 s.k), (B, 1, v), (B, 2, .int .i64 s.a), (B, 3, .int .i64 s.r), (B, 4, .int .i64 s.n), (B, 5, .int .i64 s.d), (B, 6, u), (B, 7, .int .i64 s.e)] W := by
 have hz := h.lt
 have e : W.heap[B]? = _ := h
 exact ⟨⟨hz, by simp [World.cell?, e], by simp [World.frozen?, e]⟩, ⟨hz, by simp [World.cell?, e], by simp [World.frozen?, e]⟩, ⟨hz, by simp [World.cell?, e], by simp [World.frozen?, e]⟩, ⟨hz, by simp [World.cell?, e], by simp [World.frozen?, e]⟩, ⟨hz, by simp [World.cell?, e], by simp [World.frozen?, e]⟩, ⟨hz, by simp [World.cell?, e], by simp [World.frozen?, e]⟩, ⟨hz, by simp [World.cell?, e], by simp [World.frozen?, e]⟩, ⟨hz, by simp [World.cell?, e], by simp [World.frozen?, e]⟩, trivial⟩
theorem cell_kept {X : World → Nat → Prop} {A B : World} {b o : Nat} {x : Value} (k : KeepsC X A B) (hx : ¬ X A b) (h : A.cell? ⟨b, o, none⟩ = some x) : B.cell? ⟨b, o, none⟩ = some x := by
 cases ho : A.heap[b]? with
 | none => simp [World.cell?, ho] at h
 | some ob =>
  have hoc : ob.isCells = true := by
   cases ob with
   | cells _ _ _ => rfl
   | _ => simp [World.cell?, ho] at h
  exact (World.cell?_of_block (w := A) ((k.2.2 b ob ho hoc hx).trans ho.symm)).trans h
theorem readsR_kept {X : World → Nat → Prop} {A B : World} {v : Value} {l : List Rn} (h : ReadsR A v l) (n0 : Nat) (hn : ∀ C a c n, v = .slice (some ⟨C, a, none⟩) n c → l ≠ [] → C < n0) (hx : ∀ k, k < n0 → ¬ X A k) (k : KeepsC X A B) : ReadsR B v l := by
 obtain ⟨Ad, c, rfl, hc, hk⟩ := h
 refine ⟨Ad, c, rfl, hc, fun i r hi => ?_⟩
 obtain ⟨b, off, e1, e2, e3, e4, e5⟩ := hk i r hi
 have hne : l ≠ [] := by rintro rfl; simp at hi
 have hb := hx b (hn b off c l.length (by rw [e1]) hne)
 exact ⟨b, off, e1, Nat.lt_of_lt_of_le e2 k.1, cell_kept k hb e3, cell_kept k hb e4, cell_kept k hb e5⟩
theorem readsI_kept {X : World → Nat → Prop} {A B : World} {v : Value} {l : List Int} (h : Reads .i64 A v l) (n0 : Nat) (hn : ∀ C a c n, v = .slice (some ⟨C, a, none⟩) n c → l ≠ [] → C < n0) (hx : ∀ k, k < n0 → ¬ X A k) (k : KeepsC X A B) : Reads .i64 B v l := by
 obtain ⟨Ad, c, rfl, hc, hk⟩ := h
 refine ⟨Ad, c, rfl, hc, fun i r hi => ?_⟩
 obtain ⟨b, off, e1, e2, e3⟩ := hk i r hi
 have hne : l ≠ [] := by rintro rfl; simp at hi
 have hb := hx b (hn b off c l.length (by rw [e1]) hne)
 exact ⟨b, off, e1, Nat.lt_of_lt_of_le e2 k.1, cell_kept k hb e3⟩
structure StandS (X : World → Nat → Prop) (n0 Bs : Nat) (s : Sg) (v u : Value) (W : World) : Prop where
 reads : ReadsR W v s.R
 raws : Reads .i64 W u s.V
 lowR : ∀ C a c n, v = .slice (some ⟨C, a, none⟩) n c → s.R ≠ [] → C < n0
 lowI : ∀ C a c n, u = .slice (some ⟨C, a, none⟩) n c → s.V ≠ [] → C < n0
 size : n0 ≤ W.heap.size
 box : BoxS W Bs s v u
 off : ¬ X W Bs
 far : ∀ k, k < n0 → ¬ X W k
 small : ∀ k, X W k → k < W.heap.size
theorem StandS.next {X : World → Nat → Prop} {n0 Bs : Nat} {s : Sg} {v u : Value} {W W' : World} (h : StandS X n0 Bs s v u W) (k : KeepsC X W W') : StandS X n0 Bs s v u W' :=
 ⟨readsR_kept h.reads n0 h.lowR h.far k, readsI_kept h.raws n0 h.lowI h.far k, h.lowR, h.lowI, Nat.le_trans h.size k.1, k.2.2 Bs _ h.box rfl h.off,
  fun hx => by
   rcases k.2.1 Bs hx with h1 | h1
   ·exact h.off h1
   ·have := h.box.lt; omega,
  fun j hj hx => by
   rcases k.2.1 j hx with h1 | h1
   ·exact h.far j hj h1
   ·have := h.size; omega,
  fun j hj => by
   rcases k.2.1 j hj with h1 | h1
   ·exact Nat.lt_of_lt_of_le (h.small j h1) k.1
   ·exact h1.2⟩
theorem one_moreV {k N : Nat} (h : k < N) (hN : N ≤ 1000000) : wrap64 ((k : Int) + 1) = (k : Int) + 1 := i64_keeps (by omega) (by omega)
theorem turn_lessV {k N : Nat} (h : k < N) : N - (intOf (Value.int .i64 ((k : Int) + 1))).toNat < N - (intOf (Value.int .i64 (k : Int))).toNat := by simp [intOf]; omega
end Go.Proofs.YtcfidimnbamnkaaGreat.P11

/-
 Layer 11: Value and At. Conditions: those written at each fact.
-/
namespace Go.Proofs.YtcfidimnbamnkaaGreat.P11
open Go.RowKit Go.Shelf Go.Proofs.YtcfidimnbamnkaaGreat.P7

attribute [local go_sem] fieldK0 fieldK1 fieldK2
end Go.Proofs.YtcfidimnbamnkaaGreat.P11

/-
 Layer 11: all points of a segment, in a row of their own (Points). Conditions: those written at each fact.
-/
namespace Go.Proofs.YtcfidimnbamnkaaGreat.P11
open Go.RowKit Go.Shelf Go.Proofs.YtcfidimnbamnkaaGreat.P7
attribute [local go_sem] Oper.semAt_some

def PointAt (W : World) (B : Nat) (t v : Int) : Prop := W.heap[B]? = some (.cells #[.int .i64 t, .int .i64 v] 53 (0, 0))
theorem PointAt.cells {W : World} {B : Nat} {t v : Int} (h : PointAt W B t v) : W.cell? ⟨B, 0, none⟩ = some (.int .i64 t) ∧ W.cell? ⟨B, 1, none⟩ = some (.int .i64 v) ∧ B < W.heap.size := by
 have e : W.heap[B]? = _ := h
 exact ⟨by simp [World.cell?, e], by simp [World.cell?, e], (Array.getElem?_eq_some_iff.1 e).1⟩
end Go.Proofs.YtcfidimnbamnkaaGreat.P11

/-
 Layer 11: slices of points that are read; a block of five cells in a region. Conditions: those written at each fact.
-/
namespace Go.Proofs.YtcfidimnbamnkaaGreat.P11
open Go.RowKit Go.Shelf Go.Proofs.YtcfidimnbamnkaaGreat.P7

def ReadsP (w : World) (v : Value) (l : List (Int × Int)) : Prop :=
 ∃ A c, v = .slice A l.length c ∧ l.length ≤ c ∧ ∀ i p, l[i]? = some p → ∃ b off, A = some ⟨b, off, none⟩ ∧ b < w.heap.size ∧ w.cell? ⟨b, off + i * 2, none⟩ = some (.int .i64 p.1) ∧ w.cell? ⟨b, off + i * 2 + 1, none⟩ = some (.int .i64 p.2)
theorem ReadsP.below {w w' : World} {v : Value} {l : List (Int × Int)} (h : ReadsP w v l) (hb : Below w.heap.size w w') : ReadsP w' v l := by
 obtain ⟨A, c, e, hc, hk⟩ := h
 refine ⟨A, c, e, hc, fun i s hi => ?_⟩
 obtain ⟨b, off, e1, e2, e3, e4⟩ := hk i s hi
 exact ⟨b, off, e1, Nat.lt_of_lt_of_le e2 hb.size, (hb.cell (by exact e2)).trans e3, (hb.cell (by exact e2)).trans e4⟩
end Go.Proofs.YtcfidimnbamnkaaGreat.P11

/-
 Layer 11: equal rows of runs, and segments that are the same. Conditions: rows of at most a million.
-/
namespace Go.Proofs.YtcfidimnbamnkaaGreat.P11
open Go.RowKit Go.Shelf Go.Proofs.YtcfidimnbamnkaaGreat.P7

set_option maxRecDepth 100000 in
set_option maxHeartbeats 4000000 in
theorem eqRuns_any (l m : List Rn) (hl : l.length ≤ 1000000) (v u : Value) (w : World) (h : ReadsR w v l) (hu : ReadsR w u m) : Calls Tryz.prog 61 #[v, u] w (Ret w (.bool (decide (l = m)))) := by
 obtain ⟨A, c, rfl, hc, hk⟩ := h
 obtain ⟨A2, c2, rfl, hc2, hk2⟩ := hu
 have HK := Lib.hid hk
 have HK2 := Lib.hid hk2
 clear hk hk2
 by_cases g : l.length = m.length
 ·have t0 : ((l.length : Int) != (m.length : Int)) = false := by simp [g]
  have HG := Lib.hid g
  rw [show (Value.slice A2 m.length c2) = Value.slice A2 l.length c2 from by rw [g]]
  have t' : ((l.length : Int) != (l.length : Int)) = false := by simp
  clear g t0 hc2
  go_enter Tryz.func61, Tryz.ntmps61
  go_wp2_with fail
  go_loopw [13] (fun i wr => ∃ k : Nat, i = .int .i64 k ∧ k ≤ l.length ∧ Hid (l.take k = m.take k) ∧ Below w.heap.size w wr) (fun i _ => l.length - (intOf i).toNat)
  case atStart => exact ⟨0, rfl, by omega, Lib.hid rfl, Below.refl _ _⟩
  case round =>
   obtain ⟨k, rfl, hkl, HT, hB⟩ := hrel
   by_cases gk : k < l.length
   ·obtain ⟨⟨x, y, z⟩, hx⟩ : ∃ s, l[k]? = some s := ⟨_, List.getElem?_eq_getElem gk⟩
    obtain ⟨⟨x2, y2, z2⟩, hx2⟩ : ∃ s, m[k]? = some s := ⟨_, List.getElem?_eq_getElem (by have := HG.out; omega)⟩
    obtain ⟨b, off, rfl, hbw, d1, d2, d5⟩ := HK.out k _ hx
    obtain ⟨b2, off2, rfl, hbw2, d3, d4, d6⟩ := HK2.out k _ hx2
    have c1 := (hB.cell (p := ⟨b, off + k * 3, none⟩) hbw).trans d1
    have c2 := (hB.cell (p := ⟨b, off + k * 3 + 1, none⟩) hbw).trans d2
    have c5 := (hB.cell (p := ⟨b, off + k * 3 + 2, none⟩) hbw).trans d5
    have c3 := (hB.cell (p := ⟨b2, off2 + k * 3, none⟩) hbw2).trans d3
    have c4 := (hB.cell (p := ⟨b2, off2 + k * 3 + 1, none⟩) hbw2).trans d4
    have c6 := (hB.cell (p := ⟨b2, off2 + k * 3 + 2, none⟩) hbw2).trans d6
    simp only at c1 c2 c3 c4 c5 c6
    have i1 : (k : Int) < (l.length : Int) := by omega
    have i0 : (0 : Int) ≤ (k : Int) := by omega
    clear d1 d2 d3 d4 d5 d6
    by_cases ge : (⟨x, y, z⟩ : Rn) = ⟨x2, y2, z2⟩
    ·have HT2 := Lib.hid (take_step HT.out hx (by rw [hx2, ge]))
     cases ge
     clear hx hx2
     go_wp2_with fail
     go_quiet (fail)
     go_wp2_with fail
     go_roundw
     case rel => exact ⟨k + 1, by simp, by omega, HT2, below_drewN hB _⟩
     case measure => exact index_less7 gk
    ·have HN : Hid (decide (l = m) = false) := Lib.hid (decide_eq_false fun e => by
      subst e
      rw [hx] at hx2
      injection hx2 with hx2
      exact ge hx2)
     have bx : (x == x2) = false ∨ (x = x2 ∧ (y == y2) = false) ∨ (x = x2 ∧ y = y2 ∧ (z == z2) = false) := by
      by_cases g1 : x = x2
      ·by_cases g2 : y = y2
       ·by_cases g3 : z = z2
        ·exact absurd (by rw [g1, g2, g3]) ge
        ·exact .inr (.inr ⟨g1, g2, beq_eq_false_iff_ne.2 g3⟩)
       ·exact .inr (.inl ⟨g1, beq_eq_false_iff_ne.2 g2⟩)
      ·exact .inl (beq_eq_false_iff_ne.2 g1)
     clear hx hx2 ge HT
     rcases bx with bx | ⟨rfl, bx⟩ | ⟨rfl, rfl, bx⟩
     all_goals
      go_wp2_with fail
      go_quiet (fail)
      go_wp2_with fail
      go_ret
      exact ⟨by rw [HN.out]; rfl, below_drewN hB _⟩
   ·have hkk : k = l.length := by omega
    have i1 : ¬ (k : Int) < (l.length : Int) := by omega
    have EL : Hid (decide (l = m) = true) := Lib.hid (decide_eq_true (by
     have h1 := HT.out
     rw [hkk, List.take_length] at h1
     rw [h1, HG.out, List.take_length]))
    go_wp2_with fail
    go_ret
    exact ⟨by rw [EL.out]; rfl, hB⟩
 ·have t0 : ((l.length : Int) != (m.length : Int)) = true := by rw [bne_iff_ne]; omega
  have t2 : (l.length != m.length) = true := by rw [bne_iff_ne]; omega
  have e0 : decide (l = m) = false := decide_eq_false fun e => g (by rw [e])
  rw [e0]
  clear e0
  go_enter Tryz.func61, Tryz.ntmps61
  go_wp2_with fail
  go_ret
  exact ⟨rfl, Below.refl _ _⟩
def sameB (s t : Sg) : Bool := decide (s.k = t.k ∧ s.a = t.a ∧ s.r = t.r ∧ s.n = t.n ∧ s.d = t.d ∧ s.e = t.e ∧ s.R = t.R ∧ s.V = t.V)
end Go.Proofs.YtcfidimnbamnkaaGreat.P11

/-
 Layer 11: segments that are the same. Conditions: rows of at most a million.
-/
namespace Go.Proofs.YtcfidimnbamnkaaGreat.P11
open Go.RowKit Go.Shelf Go.Proofs.YtcfidimnbamnkaaGreat.P7

theorem kb_both {w W : World} {L M : List (Nat × Nat × Value)} {o : Obj} (h1 : Keeps w L W) (h2 : Keeps w M (W.alloc o)) : Keeps w (L ++ M) (W.alloc o) := Keeps.app ⟨h2.1, h1.2.next (below_alloc W o)⟩ h2
theorem alloc_size (w : World) (o : Obj) : (w.alloc o).heap.size = w.heap.size + 1 := by simp [go_sem]
set_option maxRecDepth 100000 in
set_option maxHeartbeats 4000000 in
theorem sameS_any (s t : Sg) (hR : s.R.length ≤ 1000000) (hV : s.V.length ≤ 1000000) (v u v2 u2 : Value) (w : World) (h : ReadsR w v s.R) (hu : Reads .i64 w u s.V) (h' : ReadsR w v2 t.R) (hu' : Reads .i64 w u2 t.V) :
  Calls Tryz.prog 19 #[sgOf s v u, sgOf t v2 u2] w (Ret w (.bool (sameB s t))) := by
 have EQ : Hid (∀ W, Below w.heap.size w W → Calls Tryz.prog 61 #[v, v2] W (Ret W (.bool (decide (s.R = t.R))))) := Lib.hid (fun W hb => eqRuns_any s.R t.R hR v v2 W (h.below hb) (h'.below hb))
 have EI : Hid (∀ W, Below w.heap.size w W → Calls Tryz.prog 62 #[u, u2] W (Ret W (.bool (eqB s.V t.V)))) := Lib.hid (fun W hb => equalI s.V t.V (by omega) u u2 W (hu.below hb) (hu'.below hb))
 obtain ⟨k, R, a, r, n, d, V, e⟩ := s
 obtain ⟨k2, R2, a2, r2, n2, d2, V2, e2⟩ := t
 simp only at EQ EI
 unfold sgOf
 simp only
 clear h hu h' hu' hR hV
 by_cases gk : k = k2
 rotate_left
 ·have t5 : (k == k2) = false := by simpa using gk
  have t6 : (k != k2) = true := by simpa using gk
  have e5 : sameB ⟨k, R, a, r, n, d, V, e⟩ ⟨k2, R2, a2, r2, n2, d2, V2, e2⟩ = false := by simp [sameB, gk]
  rw [e5]
  clear e5 EQ EI gk
  have h1 := new_seg (Below.refl w.heap.size w) 27 k v a r n d u e
  have h2 := new_seg h1.1 27 k2 v2 a2 r2 n2 d2 u2 e2
  have h3 := h2.1
  go_enter Tryz.func19, Tryz.ntmps19
  go_wp2_with fail
  go_returns
  exact ⟨rfl, by go_grown⟩
 subst gk
 by_cases ga : a = a2
 rotate_left
 ·have t5 : (a == a2) = false := by simpa using ga
  have t6 : (a != a2) = true := by simpa using ga
  have e5 : sameB ⟨k, R, a, r, n, d, V, e⟩ ⟨k, R2, a2, r2, n2, d2, V2, e2⟩ = false := by simp [sameB, ga]
  rw [e5]
  clear e5 EQ EI ga
  have h1 := new_seg (Below.refl w.heap.size w) 27 k v a r n d u e
  have h2 := new_seg h1.1 27 k v2 a2 r2 n2 d2 u2 e2
  have h3 := h2.1
  go_enter Tryz.func19, Tryz.ntmps19
  go_wp2_with fail
  go_returns
  exact ⟨rfl, by go_grown⟩
 subst ga
 by_cases gr : r = r2
 rotate_left
 ·have t5 : (r == r2) = false := by simpa using gr
  have t6 : (r != r2) = true := by simpa using gr
  have e5 : sameB ⟨k, R, a, r, n, d, V, e⟩ ⟨k, R2, a, r2, n2, d2, V2, e2⟩ = false := by simp [sameB, gr]
  rw [e5]
  clear e5 EQ EI gr
  have h1 := new_seg (Below.refl w.heap.size w) 27 k v a r n d u e
  have h2 := new_seg h1.1 27 k v2 a r2 n2 d2 u2 e2
  have h3 := h2.1
  go_enter Tryz.func19, Tryz.ntmps19
  go_wp2_with fail
  go_returns
  exact ⟨rfl, by go_grown⟩
 subst gr
 by_cases gn : n = n2
 rotate_left
 ·have t5 : (n == n2) = false := by simpa using gn
  have t6 : (n != n2) = true := by simpa using gn
  have e5 : sameB ⟨k, R, a, r, n, d, V, e⟩ ⟨k, R2, a, r, n2, d2, V2, e2⟩ = false := by simp [sameB, gn]
  rw [e5]
  clear e5 EQ EI gn
  have h1 := new_seg (Below.refl w.heap.size w) 27 k v a r n d u e
  have h2 := new_seg h1.1 27 k v2 a r n2 d2 u2 e2
  have h3 := h2.1
  go_enter Tryz.func19, Tryz.ntmps19
  go_wp2_with fail
  go_returns
  exact ⟨rfl, by go_grown⟩
 subst gn
 by_cases gd : d = d2
 rotate_left
 ·have t5 : (d == d2) = false := by simpa using gd
  have t6 : (d != d2) = true := by simpa using gd
  have e5 : sameB ⟨k, R, a, r, n, d, V, e⟩ ⟨k, R2, a, r, n, d2, V2, e2⟩ = false := by simp [sameB, gd]
  rw [e5]
  clear e5 EQ EI gd
  have h1 := new_seg (Below.refl w.heap.size w) 27 k v a r n d u e
  have h2 := new_seg h1.1 27 k v2 a r n d2 u2 e2
  have h3 := h2.1
  go_enter Tryz.func19, Tryz.ntmps19
  go_wp2_with fail
  go_returns
  exact ⟨rfl, by go_grown⟩
 subst gd
 by_cases ge : e = e2
 rotate_left
 ·have t5 : (e == e2) = false := by simpa using ge
  have t6 : (e != e2) = true := by simpa using ge
  have e5 : sameB ⟨k, R, a, r, n, d, V, e⟩ ⟨k, R2, a, r, n, d, V2, e2⟩ = false := by simp [sameB, ge]
  rw [e5]
  clear e5 EQ EI ge
  have h1 := new_seg (Below.refl w.heap.size w) 27 k v a r n d u e
  have h2 := new_seg h1.1 27 k v2 a r n d u2 e2
  have h3 := h2.1
  go_enter Tryz.func19, Tryz.ntmps19
  go_wp2_with fail
  go_returns
  exact ⟨rfl, by go_grown⟩
 subst ge
 by_cases gR : R = R2
 rotate_left
 ·have e5 : sameB ⟨k, R, a, r, n, d, V, e⟩ ⟨k, R2, a, r, n, d, V2, e⟩ = false := by simp [sameB, gR]
  rw [e5]
  rw [show decide (R = R2) = false from decide_eq_false gR] at EQ
  clear e5 EI gR
  have h1 := new_seg (Below.refl w.heap.size w) 27 k v a r n d u e
  have h2 := new_seg h1.1 27 k v2 a r n d u2 e
  have h3 := h2.1
  go_enter Tryz.func19, Tryz.ntmps19
  go_wp2_with fail
  refine (EQ.out _ h3).mono ?_
  rintro e' w1 ⟨rfl, hb⟩
  have hB := under h3 hb
  clear hb
  go_wp2_with fail
  go_returns
  exact ⟨rfl, hB⟩
 ·subst gR
  have e5 : sameB ⟨k, R, a, r, n, d, V, e⟩ ⟨k, R, a, r, n, d, V2, e⟩ = eqB V V2 := by simp [sameB, eqB]
  rw [e5]
  rw [show decide (R = R) = true from by simp] at EQ
  clear e5
  generalize eqB V V2 = bb at *
  have h1 := new_seg (Below.refl w.heap.size w) 27 k v a r n d u e
  have h2 := new_seg h1.1 27 k v2 a r n d u2 e
  have h3 := h2.1
  go_enter Tryz.func19, Tryz.ntmps19
  go_wp2_with fail
  have k1 := kb_both h1 h2
  rw [alloc_size] at k1
  refine (EQ.out _ h3).mono ?_
  rintro e' w1 ⟨rfl, hb⟩
  have hB := under h3 hb
  have k2 := k1.next hb
  clear hb k1
  obtain ⟨⟨kz0,kc0,kf0⟩,⟨kz1,kc1,kf1⟩,⟨kz2,kc2,kf2⟩,⟨kz3,kc3,kf3⟩,⟨kz4,kc4,kf4⟩,⟨kz5,kc5,kf5⟩,⟨kz6,kc6,kf6⟩,⟨kz7,kc7,kf7⟩,⟨kz8,kc8,kf8⟩,⟨kz9,kc9,kf9⟩,⟨kz10,kc10,kf10⟩,⟨kz11,kc11,kf11⟩,⟨kz12,kc12,kf12⟩,⟨kz13,kc13,kf13⟩,⟨_,_,_⟩,⟨_,_,_⟩,_⟩ := k2.2
  go_wp2_with fail
  refine (EI.out _ hB).mono ?_
  rintro e' w2 ⟨rfl, hb⟩
  have hB2 := under hB hb
  clear hb k2
  (try clear kz0 kc0 kf0); (try clear kz1 kc1 kf1); (try clear kz2 kc2 kf2); (try clear kz3 kc3 kf3); (try clear kz4 kc4 kf4); (try clear kz5 kc5 kf5); (try clear kz6 kc6 kf6); (try clear kz7 kc7 kf7); (try clear kz8 kc8 kf8); (try clear kz9 kc9 kf9); (try clear kz10 kc10 kf10); (try clear kz11 kc11 kf11); (try clear kz12 kc12 kf12); (try clear kz13 kc13 kf13)
  go_wp2_with fail
  go_returns
  exact ⟨rfl, hB2⟩
end Go.Proofs.YtcfidimnbamnkaaGreat.P11

/-
 Layer 11: segments that are the same, by the document. Conditions: rows of at most a million.
-/
namespace Go.Proofs.YtcfidimnbamnkaaGreat.P11
open Go.RowKit Go.Shelf Go.Proofs.YtcfidimnbamnkaaGreat.P7

set_option maxRecDepth 100000 in
set_option maxHeartbeats 8000000 in
theorem refSameS_any (s t : Sg) (hR : s.R.length ≤ 1000000) (hR' : t.R.length ≤ 1000000) (hV : s.V.length ≤ 1000000) (v u v2 u2 : Value) (w : World) (h : ReadsR w v s.R) (hu : Reads .i64 w u s.V) (h' : ReadsR w v2 t.R) (hu' : Reads .i64 w u2 t.V) :
  Calls Tryz.prog 20 #[sgOf s v u, sgOf t v2 u2] w (Ret w (.bool (sameB s t))) := by
 have EQ : Hid (∀ W, Below w.heap.size w W → Calls Tryz.prog 63 #[v, v2] W (Ret W (.bool (decide (s.R = t.R))))) := Lib.hid (fun W hb => P7.refSame_any s.R t.R hR hR' v v2 W (h.below hb) (h'.below hb))
 obtain ⟨k, R, a, r, n, d, V, e⟩ := s
 obtain ⟨k2, R2, a2, r2, n2, d2, V2, e2⟩ := t
 simp only at EQ hu hu' hV
 unfold sgOf
 simp only
 obtain ⟨A, c, rfl, _, hk⟩ := hu
 obtain ⟨A2, c2, rfl, _, hk2⟩ := hu'
 have HK := Lib.hid hk
 have HK2 := Lib.hid hk2
 clear h h' hR hR' hk hk2
 have EI : True := trivial
 by_cases gk : k = k2
 rotate_left
 ·have t5 : (k == k2) = false := by simpa using gk
  have t6 : (k != k2) = true := by simpa using gk
  have e5 : sameB ⟨k, R, a, r, n, d, V, e⟩ ⟨k2, R2, a2, r2, n2, d2, V2, e2⟩ = false := by simp [sameB, gk]
  rw [e5]
  clear e5 EQ EI gk
  have h1 := new_seg (Below.refl w.heap.size w) 27 k v a r n d (.slice A V.length c) e
  have h2 := new_seg h1.1 27 k2 v2 a2 r2 n2 d2 (.slice A2 V2.length c2) e2
  have h3 := h2.1
  go_enter Tryz.func20, Tryz.ntmps20
  go_wp2_with fail
  go_returns
  exact ⟨rfl, by go_grown⟩
 subst gk
 by_cases ga : a = a2
 rotate_left
 ·have t5 : (a == a2) = false := by simpa using ga
  have t6 : (a != a2) = true := by simpa using ga
  have e5 : sameB ⟨k, R, a, r, n, d, V, e⟩ ⟨k, R2, a2, r2, n2, d2, V2, e2⟩ = false := by simp [sameB, ga]
  rw [e5]
  clear e5 EQ EI ga
  have h1 := new_seg (Below.refl w.heap.size w) 27 k v a r n d (.slice A V.length c) e
  have h2 := new_seg h1.1 27 k v2 a2 r2 n2 d2 (.slice A2 V2.length c2) e2
  have h3 := h2.1
  go_enter Tryz.func20, Tryz.ntmps20
  go_wp2_with fail
  go_returns
  exact ⟨rfl, by go_grown⟩
 subst ga
 by_cases gr : r = r2
 rotate_left
 ·have t5 : (r == r2) = false := by simpa using gr
  have t6 : (r != r2) = true := by simpa using gr
  have e5 : sameB ⟨k, R, a, r, n, d, V, e⟩ ⟨k, R2, a, r2, n2, d2, V2, e2⟩ = false := by simp [sameB, gr]
  rw [e5]
  clear e5 EQ EI gr
  have h1 := new_seg (Below.refl w.heap.size w) 27 k v a r n d (.slice A V.length c) e
  have h2 := new_seg h1.1 27 k v2 a r2 n2 d2 (.slice A2 V2.length c2) e2
  have h3 := h2.1
  go_enter Tryz.func20, Tryz.ntmps20
  go_wp2_with fail
  go_returns
  exact ⟨rfl, by go_grown⟩
 subst gr
 by_cases gn : n = n2
 rotate_left
 ·have t5 : (n == n2) = false := by simpa using gn
  have t6 : (n != n2) = true := by simpa using gn
  have e5 : sameB ⟨k, R, a, r, n, d, V, e⟩ ⟨k, R2, a, r, n2, d2, V2, e2⟩ = false := by simp [sameB, gn]
  rw [e5]
  clear e5 EQ EI gn
  have h1 := new_seg (Below.refl w.heap.size w) 27 k v a r n d (.slice A V.length c) e
  have h2 := new_seg h1.1 27 k v2 a r n2 d2 (.slice A2 V2.length c2) e2
  have h3 := h2.1
  go_enter Tryz.func20, Tryz.ntmps20
  go_wp2_with fail
  go_returns
  exact ⟨rfl, by go_grown⟩
 subst gn
 by_cases gd : d = d2
 rotate_left
 ·have t5 : (d == d2) = false := by simpa using gd
  have t6 : (d != d2) = true := by simpa using gd
  have e5 : sameB ⟨k, R, a, r, n, d, V, e⟩ ⟨k, R2, a, r, n, d2, V2, e2⟩ = false := by simp [sameB, gd]
  rw [e5]
  clear e5 EQ EI gd
  have h1 := new_seg (Below.refl w.heap.size w) 27 k v a r n d (.slice A V.length c) e
  have h2 := new_seg h1.1 27 k v2 a r n d2 (.slice A2 V2.length c2) e2
  have h3 := h2.1
  go_enter Tryz.func20, Tryz.ntmps20
  go_wp2_with fail
  go_returns
  exact ⟨rfl, by go_grown⟩
 subst gd
 by_cases ge : e = e2
 rotate_left
 ·have t5 : (e == e2) = false := by simpa using ge
  have t6 : (e != e2) = true := by simpa using ge
  have e5 : sameB ⟨k, R, a, r, n, d, V, e⟩ ⟨k, R2, a, r, n, d, V2, e2⟩ = false := by simp [sameB, ge]
  rw [e5]
  clear e5 EQ EI ge
  have h1 := new_seg (Below.refl w.heap.size w) 27 k v a r n d (.slice A V.length c) e
  have h2 := new_seg h1.1 27 k v2 a r n d (.slice A2 V2.length c2) e2
  have h3 := h2.1
  go_enter Tryz.func20, Tryz.ntmps20
  go_wp2_with fail
  go_returns
  exact ⟨rfl, by go_grown⟩
 subst ge
 by_cases gR : R = R2
 rotate_left
 ·have e5 : sameB ⟨k, R, a, r, n, d, V, e⟩ ⟨k, R2, a, r, n, d, V2, e⟩ = false := by simp [sameB, gR]
  rw [e5]
  rw [show decide (R = R2) = false from decide_eq_false gR] at EQ
  clear e5 EI gR HK HK2
  have h1 := new_seg (Below.refl w.heap.size w) 27 k v a r n d (.slice A V.length c) e
  have h2 := new_seg h1.1 27 k v2 a r n d (.slice A2 V2.length c2) e
  have h3 := h2.1
  go_enter Tryz.func20, Tryz.ntmps20
  go_wp2_with fail
  refine (EQ.out _ h3).mono ?_
  rintro e' w1 ⟨rfl, hb⟩
  have hB := under h3 hb
  clear hb
  go_wp2_with fail
  go_returns
  exact ⟨rfl, hB⟩
 subst gR
 rw [show decide (R = R) = true from by simp] at EQ
 by_cases gV : V.length = V2.length
 rotate_left
 ·have e5 : sameB ⟨k, R, a, r, n, d, V, e⟩ ⟨k, R, a, r, n, d, V2, e⟩ = false := by
   have : V ≠ V2 := fun h => gV (by rw [h])
   simp [sameB, this]
  rw [e5]
  have t7 : ((V.length : Int) != (V2.length : Int)) = true := by rw [bne_iff_ne]; omega
  have t8 : (V.length != V2.length) = true := by rw [bne_iff_ne]; exact gV
  clear e5 gV HK HK2 EI
  have h1 := new_seg (Below.refl w.heap.size w) 27 k v a r n d (.slice A V.length c) e
  have h2 := new_seg h1.1 27 k v2 a r n d (.slice A2 V2.length c2) e
  have h3 := h2.1
  go_enter Tryz.func20, Tryz.ntmps20
  go_wp2_with fail
  have k1 := kb_both h1 h2
  rw [alloc_size] at k1
  refine (EQ.out _ h3).mono ?_
  rintro e' w1 ⟨rfl, hb⟩
  have hB := under h3 hb
  have k2 := k1.next hb
  clear hb k1
  obtain ⟨⟨kz0,kc0,kf0⟩,⟨kz1,kc1,kf1⟩,⟨kz2,kc2,kf2⟩,⟨kz3,kc3,kf3⟩,⟨kz4,kc4,kf4⟩,⟨kz5,kc5,kf5⟩,⟨kz6,kc6,kf6⟩,⟨kz7,kc7,kf7⟩,⟨kz8,kc8,kf8⟩,⟨kz9,kc9,kf9⟩,⟨kz10,kc10,kf10⟩,⟨kz11,kc11,kf11⟩,⟨kz12,kc12,kf12⟩,⟨kz13,kc13,kf13⟩,⟨kz14,kc14,kf14⟩,⟨kz15,kc15,kf15⟩,_⟩ := k2.2
  clear k2
  go_wp2_with fail
  go_returns
  exact ⟨rfl, hB⟩
 ·have e5 : sameB ⟨k, R, a, r, n, d, V, e⟩ ⟨k, R, a, r, n, d, V2, e⟩ = eqB V V2 := by simp [sameB, eqB]
  rw [e5]
  clear e5 EI
  have HL := Lib.hid gV
  rw [show (Value.slice A2 V2.length c2) = Value.slice A2 V.length c2 from by rw [gV]]
  clear gV
  generalize hN : V.length = N at *
  have HN := Lib.hid hN
  clear hN
  have h1 := new_seg (Below.refl w.heap.size w) 27 k v a r n d (.slice A N c) e
  have h2 := new_seg h1.1 27 k v2 a r n d (.slice A2 N c2) e
  have h3 := h2.1
  go_enter Tryz.func20, Tryz.ntmps20
  go_wp2_with fail
  have k1 := kb_both h1 h2
  rw [alloc_size] at k1
  refine (EQ.out _ h3).mono ?_
  rintro e' w1 ⟨rfl, hb⟩
  have hB := under h3 hb
  have k2 := k1.next hb
  clear hb k1
  have hBX : Cells [(w.heap.size, 0, .int .i64 k), (w.heap.size, 1, v), (w.heap.size, 2, .int .i64 a), (w.heap.size, 3, .int .i64 r), (w.heap.size, 4, .int .i64 n), (w.heap.size, 5, .int .i64 d), (w.heap.size, 6, .slice A N c), (w.heap.size, 7, .int .i64 e), (w.heap.size + 1, 0, .int .i64 k), (w.heap.size + 1, 1, v2), (w.heap.size + 1, 2, .int .i64 a), (w.heap.size + 1, 3, .int .i64 r), (w.heap.size + 1, 4, .int .i64 n), (w.heap.size + 1, 5, .int .i64 d), (w.heap.size + 1, 6, .slice A2 N c2), (w.heap.size + 1, 7, .int .i64 e)] w1 := k2.2
  have HBX := Lib.hid hBX
  clear hBX
  obtain ⟨⟨kz0,kc0,kf0⟩,⟨kz1,kc1,kf1⟩,⟨kz2,kc2,kf2⟩,⟨kz3,kc3,kf3⟩,⟨kz4,kc4,kf4⟩,⟨kz5,kc5,kf5⟩,⟨kz6,kc6,kf6⟩,⟨kz7,kc7,kf7⟩,⟨kz8,kc8,kf8⟩,⟨kz9,kc9,kf9⟩,⟨kz10,kc10,kf10⟩,⟨kz11,kc11,kf11⟩,⟨kz12,kc12,kf12⟩,⟨kz13,kc13,kf13⟩,⟨kz14,kc14,kf14⟩,⟨kz15,kc15,kf15⟩,_⟩ := k2.2
  clear k2
  go_wp2_with fail
  (try clear kz0 kc0 kf0); (try clear kz1 kc1 kf1); (try clear kz2 kc2 kf2); (try clear kz3 kc3 kf3); (try clear kz4 kc4 kf4); (try clear kz5 kc5 kf5); (try clear kz6 kc6 kf6); (try clear kz7 kc7 kf7); (try clear kz8 kc8 kf8); (try clear kz9 kc9 kf9); (try clear kz10 kc10 kf10); (try clear kz11 kc11 kf11); (try clear kz12 kc12 kf12); (try clear kz13 kc13 kf13)
  (try clear kz14 kc14 kf14); (try clear kz15 kc15 kf15)
  have HB := Lib.hid hB
  clear hB h1 h2 h3 EQ
  go_loopw [5] (fun i wr => ∃ j : Nat, i = .int .i64 j ∧ j ≤ N ∧ Hid (V.take j = V2.take j) ∧ Below w1.heap.size w1 wr) (fun i _ => N - (intOf i).toNat)
  case atStart => exact ⟨0, rfl, Nat.zero_le _, Lib.hid (by simp), Below.refl _ _⟩
  case round =>
   obtain ⟨j, rfl, hjl, HT, hBw⟩ := hrel
   have hcx := HBX.out.next hBw
   by_cases gj : j < N
   ·obtain ⟨x, hx⟩ : ∃ x, V[j]? = some x := ⟨_, List.getElem?_eq_getElem (by rw [HN.out]; exact gj)⟩
    obtain ⟨y, hy⟩ : ∃ y, V2[j]? = some y := ⟨_, List.getElem?_eq_getElem (by rw [← HL.out]; exact gj)⟩
    obtain ⟨b1, o1, rfl, hb1, hc1⟩ := HK.out j x hx
    obtain ⟨b2, o2, rfl, hb2, hc2⟩ := HK2.out j y hy
    have hz := HB.out.size
    have f1 := (hBw.cell (p := ⟨b1, o1 + j, none⟩) (Nat.lt_of_lt_of_le hb1 hz)).trans ((HB.out.cell (p := ⟨b1, o1 + j, none⟩) hb1).trans hc1)
    have f2 := (hBw.cell (p := ⟨b2, o2 + j, none⟩) (Nat.lt_of_lt_of_le hb2 hz)).trans ((HB.out.cell (p := ⟨b2, o2 + j, none⟩) hb2).trans hc2)
    have HX := Lib.hid hx
    have HY := Lib.hid hy
    have i1 : (j : Int) < (N : Int) := by omega
    have i0 : (0 : Int) ≤ (j : Int) := by omega
    have wk := one_moreV gj (show N ≤ 1000000 by omega)
    have tl := Lib.hid (turn_lessV gj)
    have hB2 := Lib.hid (under HB.out hBw)
    clear hc1 hc2 hx hy hz hb1 hb2
    obtain ⟨⟨kz0,kc0,kf0⟩,⟨kz1,kc1,kf1⟩,⟨kz2,kc2,kf2⟩,⟨kz3,kc3,kf3⟩,⟨kz4,kc4,kf4⟩,⟨kz5,kc5,kf5⟩,⟨kz6,kc6,kf6⟩,⟨kz7,kc7,kf7⟩,⟨kz8,kc8,kf8⟩,⟨kz9,kc9,kf9⟩,⟨kz10,kc10,kf10⟩,⟨kz11,kc11,kf11⟩,⟨kz12,kc12,kf12⟩,⟨kz13,kc13,kf13⟩,⟨kz14,kc14,kf14⟩,⟨kz15,kc15,kf15⟩,_⟩ := hcx
    by_cases gx : x = y
    ·subst gx
     have HT2 := Lib.hid (take_next HT.out HX.out HY.out)
     clear HT HX HY
     go_wp2_with fail
     go_quiet (fail)
     go_wp2_with fail
     go_roundw
     case rel => exact ⟨j + 1, by first | (simp; done) | (rw [wk]; simp; done), gj, HT2, below_drewN hBw _⟩
     case measure => first | exact tl.out | (rw [wk]; exact tl.out)
    ·have t1 : (x == y) = false := by simpa using gx
     have t2 : (x != y) = true := by simpa using gx
     have HF := Lib.hid (eqB_false (l := V) (m := V2) (fun h => gx (by have := HX.out; rw [h] at this; have h3 := HY.out; rw [h3] at this; cases this; rfl)))
     clear gx HT HX HY
     go_wp2_with fail
     go_quiet (fail)
     go_wp2_with fail
     go_ret
     exact ⟨by rw [HF.out]; rfl, below_drewN hB2.out _⟩
   ·have i1 : ¬ (j : Int) < (N : Int) := by omega
    have HF := Lib.hid (eqB_true (take_all_eq (l := V) (m := V2) (by rw [HN.out]; exact HL.out) (by rw [HN.out]; omega) HT.out))
    have hB2 := under HB.out hBw
    obtain ⟨⟨kz0,kc0,kf0⟩,⟨kz1,kc1,kf1⟩,⟨kz2,kc2,kf2⟩,⟨kz3,kc3,kf3⟩,⟨kz4,kc4,kf4⟩,⟨kz5,kc5,kf5⟩,⟨kz6,kc6,kf6⟩,⟨kz7,kc7,kf7⟩,⟨kz8,kc8,kf8⟩,⟨kz9,kc9,kf9⟩,⟨kz10,kc10,kf10⟩,⟨kz11,kc11,kf11⟩,⟨kz12,kc12,kf12⟩,⟨kz13,kc13,kf13⟩,⟨kz14,kc14,kf14⟩,⟨kz15,kc15,kf15⟩,_⟩ := hcx
    clear HT hBw
    go_wp2_with fail
    go_ret
    exact ⟨by rw [HF.out]; rfl, hB2⟩
end Go.Proofs.YtcfidimnbamnkaaGreat.P11
