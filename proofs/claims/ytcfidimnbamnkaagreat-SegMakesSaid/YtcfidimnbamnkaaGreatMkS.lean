/-
 Layer 11: the law SegMakes holds of every input. Conditions: those of the law's row.
-/
import Derived.Test.YtcfidimnbamnkaaGreatSgX
import Derived.Test.YtcfidimnbamnkaaGreatSgS
import Derived.Test.YtcfidimnbamnkaaGreatEq
import Derived.Test.YtcfidimnbamnkaaGreatNE
import Derived.Test.YtcfidimnbamnkaaGreatLdC
import Derived.Test.YtcfidimnbamnkaaGreatKitW
import Derived.Maps.RangeWalk
import Derived.Test.YtcfidimnbamnkaaGreatSgO
import Derived.Test.YtcfidimnbamnkaaGreatSgT
/-
 Layer 11: equal rows of runs, and segments that are the same. Conditions: rows of at most a million.
-/
namespace Go.Proofs.YtcfidimnbamnkaaGreat.P11
open Go.RowKit Go.Shelf Go.Proofs.YtcfidimnbamnkaaGreat.P7

set_option maxRecDepth 100000 in
set_option maxHeartbeats 4000000 in
theorem eqRuns_any (l m : List Rn) (hl : l.length ≤ 1000000) (v u : Value) (w : World) (h : ReadsR w v l) (hu : ReadsR w u m) : Calls Tryz.prog 61 #[v, u] w (Ret w (.bool (decide (l = m)))) := by
 obtain ⟨A, c, rfl, hc, hk⟩ := h
 obtain ⟨A2, c2, rfl, hc2, hk2⟩ := hu
 have HK := Lib.hid hk
 have HK2 := Lib.hid hk2
 clear hk hk2
 by_cases g : l.length = m.length
 ·have t0 : ((l.length : Int) != (m.length : Int)) = false := by simp [g]
  have HG := Lib.hid g
  rw [show (Value.slice A2 m.length c2) = Value.slice A2 l.length c2 from by rw [g]]
  have t' : ((l.length : Int) != (l.length : Int)) = false := by simp
  clear g t0 hc2
  go_enter Tryz.func61, Tryz.ntmps61
  go_wp2_with fail
  go_loopw [13] (fun i wr => ∃ k : Nat, i = .int .i64 k ∧ k ≤ l.length ∧ Hid (l.take k = m.take k) ∧ Below w.heap.size w wr) (fun i _ => l.length - (intOf i).toNat)
  case atStart => exact ⟨0, rfl, by omega, Lib.hid rfl, Below.refl _ _⟩
  case round =>
   obtain ⟨k, rfl, hkl, HT, hB⟩ := hrel
   by_cases gk : k < l.length
   ·obtain ⟨⟨x, y, z⟩, hx⟩ : ∃ s, l[k]? = some s := ⟨_, List.getElem?_eq_getElem gk⟩
    obtain ⟨⟨x2, y2, z2⟩, hx2⟩ : ∃ s, m[k]? = some s := ⟨_, List.getElem?_eq_getElem (by have := HG.out; omega)⟩
    obtain ⟨b, off, rfl, hbw, d1, d2, d5⟩ := HK.out k _ hx
    obtain ⟨b2, off2, rfl, hbw2, d3, d4, d6⟩ := HK2.out k _ hx2
    have c1 := (hB.cell (p := ⟨b, off + k * 3, none⟩) hbw).trans d1
    have c2 := (hB.cell (p := ⟨b, off + k * 3 + 1, none⟩) hbw).trans d2
    have c5 := (hB.cell (p := ⟨b, off + k * 3 + 2, none⟩) hbw).trans d5
    have c3 := (hB.cell (p := ⟨b2, off2 + k * 3, none⟩) hbw2).trans d3
    have c4 := (hB.cell (p := ⟨b2, off2 + k * 3 + 1, none⟩) hbw2).trans d4
    have c6 := (hB.cell (p := ⟨b2, off2 + k * 3 + 2, none⟩) hbw2).trans d6
    simp only at c1 c2 c3 c4 c5 c6
    have i1 : (k : Int) < (l.length : Int) := by omega
    have i0 : (0 : Int) ≤ (k : Int) := by omega
    clear d1 d2 d3 d4 d5 d6
    by_cases ge : (⟨x, y, z⟩ : Rn) = ⟨x2, y2, z2⟩
    ·have HT2 := Lib.hid (take_step HT.out hx (by rw [hx2, ge]))
     cases ge
     clear hx hx2
     go_wp2_with fail
     go_quiet (fail)
     go_wp2_with fail
     go_roundw
     case rel => exact ⟨k + 1, by simp, by omega, HT2, below_drewN hB _⟩
     case measure => exact index_less7 gk
    ·have HN : Hid (decide (l = m) = false) := Lib.hid (decide_eq_false fun e => by
      subst e
      rw [hx] at hx2
      injection hx2 with hx2
      exact ge hx2)
     have bx : (x == x2) = false ∨ (x = x2 ∧ (y == y2) = false) ∨ (x = x2 ∧ y = y2 ∧ (z == z2) = false) := by
      by_cases g1 : x = x2
      ·by_cases g2 : y = y2
       ·by_cases g3 : z = z2
        ·exact absurd (by rw [g1, g2, g3]) ge
        ·exact .inr (.inr ⟨g1, g2, beq_eq_false_iff_ne.2 g3⟩)
       ·exact .inr (.inl ⟨g1, beq_eq_false_iff_ne.2 g2⟩)
      ·exact .inl (beq_eq_false_iff_ne.2 g1)
     clear hx hx2 ge HT
     rcases bx with bx | ⟨rfl, bx⟩ | ⟨rfl, rfl, bx⟩
     all_goals
      go_wp2_with fail
      go_quiet (fail)
      go_wp2_with fail
      go_ret
      exact ⟨by rw [HN.out]; rfl, below_drewN hB _⟩
   ·have hkk : k = l.length := by omega
    have i1 : ¬ (k : Int) < (l.length : Int) := by omega
    have EL : Hid (decide (l = m) = true) := Lib.hid (decide_eq_true (by
     have h1 := HT.out
     rw [hkk, List.take_length] at h1
     rw [h1, HG.out, List.take_length]))
    go_wp2_with fail
    go_ret
    exact ⟨by rw [EL.out]; rfl, hB⟩
 ·have t0 : ((l.length : Int) != (m.length : Int)) = true := by rw [bne_iff_ne]; omega
  have t2 : (l.length != m.length) = true := by rw [bne_iff_ne]; omega
  have e0 : decide (l = m) = false := decide_eq_false fun e => g (by rw [e])
  rw [e0]
  clear e0
  go_enter Tryz.func61, Tryz.ntmps61
  go_wp2_with fail
  go_ret
  exact ⟨rfl, Below.refl _ _⟩
def sameB (s t : Sg) : Bool := decide (s.k = t.k ∧ s.a = t.a ∧ s.r = t.r ∧ s.n = t.n ∧ s.d = t.d ∧ s.e = t.e ∧ s.R = t.R ∧ s.V = t.V)
theorem sameB_refl (s : Sg) : sameB s s = true := by unfold sameB; simp
end Go.Proofs.YtcfidimnbamnkaaGreat.P11

/-
 Layer 11: segments that are the same. Conditions: rows of at most a million.
-/
namespace Go.Proofs.YtcfidimnbamnkaaGreat.P11
open Go.RowKit Go.Shelf Go.Proofs.YtcfidimnbamnkaaGreat.P7

theorem kb_both {w W : World} {L M : List (Nat × Nat × Value)} {o : Obj} (h1 : Keeps w L W) (h2 : Keeps w M (W.alloc o)) : Keeps w (L ++ M) (W.alloc o) := Keeps.app ⟨h2.1, h1.2.next (below_alloc W o)⟩ h2
theorem alloc_size (w : World) (o : Obj) : (w.alloc o).heap.size = w.heap.size + 1 := by simp [go_sem]
set_option maxRecDepth 100000 in
set_option maxHeartbeats 4000000 in
theorem sameS_any (s t : Sg) (hR : s.R.length ≤ 1000000) (hV : s.V.length ≤ 1000000) (v u v2 u2 : Value) (w : World) (h : ReadsR w v s.R) (hu : Reads .i64 w u s.V) (h' : ReadsR w v2 t.R) (hu' : Reads .i64 w u2 t.V) :
  Calls Tryz.prog 19 #[sgOf s v u, sgOf t v2 u2] w (Ret w (.bool (sameB s t))) := by
 have EQ : Hid (∀ W, Below w.heap.size w W → Calls Tryz.prog 61 #[v, v2] W (Ret W (.bool (decide (s.R = t.R))))) := Lib.hid (fun W hb => eqRuns_any s.R t.R hR v v2 W (h.below hb) (h'.below hb))
 have EI : Hid (∀ W, Below w.heap.size w W → Calls Tryz.prog 62 #[u, u2] W (Ret W (.bool (eqB s.V t.V)))) := Lib.hid (fun W hb => equalI s.V t.V (by omega) u u2 W (hu.below hb) (hu'.below hb))
 obtain ⟨k, R, a, r, n, d, V, e⟩ := s
 obtain ⟨k2, R2, a2, r2, n2, d2, V2, e2⟩ := t
 simp only at EQ EI
 unfold sgOf
 simp only
 clear h hu h' hu' hR hV
 by_cases gk : k = k2
 rotate_left
 ·have t5 : (k == k2) = false := by simpa using gk
  have t6 : (k != k2) = true := by simpa using gk
  have e5 : sameB ⟨k, R, a, r, n, d, V, e⟩ ⟨k2, R2, a2, r2, n2, d2, V2, e2⟩ = false := by simp [sameB, gk]
  rw [e5]
  clear e5 EQ EI gk
  have h1 := new_seg (Below.refl w.heap.size w) 27 k v a r n d u e
  have h2 := new_seg h1.1 27 k2 v2 a2 r2 n2 d2 u2 e2
  have h3 := h2.1
  go_enter Tryz.func19, Tryz.ntmps19
  go_wp2_with fail
  go_returns
  exact ⟨rfl, by go_grown⟩
 subst gk
 by_cases ga : a = a2
 rotate_left
 ·have t5 : (a == a2) = false := by simpa using ga
  have t6 : (a != a2) = true := by simpa using ga
  have e5 : sameB ⟨k, R, a, r, n, d, V, e⟩ ⟨k, R2, a2, r2, n2, d2, V2, e2⟩ = false := by simp [sameB, ga]
  rw [e5]
  clear e5 EQ EI ga
  have h1 := new_seg (Below.refl w.heap.size w) 27 k v a r n d u e
  have h2 := new_seg h1.1 27 k v2 a2 r2 n2 d2 u2 e2
  have h3 := h2.1
  go_enter Tryz.func19, Tryz.ntmps19
  go_wp2_with fail
  go_returns
  exact ⟨rfl, by go_grown⟩
 subst ga
 by_cases gr : r = r2
 rotate_left
 ·have t5 : (r == r2) = false := by simpa using gr
  have t6 : (r != r2) = true := by simpa using gr
  have e5 : sameB ⟨k, R, a, r, n, d, V, e⟩ ⟨k, R2, a, r2, n2, d2, V2, e2⟩ = false := by simp [sameB, gr]
  rw [e5]
  clear e5 EQ EI gr
  have h1 := new_seg (Below.refl w.heap.size w) 27 k v a r n d u e
  have h2 := new_seg h1.1 27 k v2 a r2 n2 d2 u2 e2
  have h3 := h2.1
  go_enter Tryz.func19, Tryz.ntmps19
  go_wp2_with fail
  go_returns
  exact ⟨rfl, by go_grown⟩
 subst gr
 by_cases gn : n = n2
 rotate_left
 ·have t5 : (n == n2) = false := by simpa using gn
  have t6 : (n != n2) = true := by simpa using gn
  have e5 : sameB ⟨k, R, a, r, n, d, V, e⟩ ⟨k, R2, a, r, n2, d2, V2, e2⟩ = false := by simp [sameB, gn]
  rw [e5]
  clear e5 EQ EI gn
  have h1 := new_seg (Below.refl w.heap.size w) 27 k v a r n d u e
  have h2 := new_seg h1.1 27 k v2 a r n2 d2 u2 e2
  have h3 := h2.1
  go_enter Tryz.func19, Tryz.ntmps19
  go_wp2_with fail
  go_returns
  exact ⟨rfl, by go_grown⟩
 subst gn
 by_cases gd : d = d2
 rotate_left
 ·have t5 : (d == d2) = false := by simpa using gd
  have t6 : (d != d2) = true := by simpa using gd
  have e5 : sameB ⟨k, R, a, r, n, d, V, e⟩ ⟨k, R2, a, r, n, d2, V2, e2⟩ = false := by simp [sameB, gd]
  rw [e5]
  clear e5 EQ EI gd
  have h1 := new_seg (Below.refl w.heap.size w) 27 k v a r n d u e
  have h2 := new_seg h1.1 27 k v2 a r n d2 u2 e2
  have h3 := h2.1
  go_enter Tryz.func19, Tryz.ntmps19
  go_wp2_with fail
  go_returns
  exact ⟨rfl, by go_grown⟩
 subst gd
 by_cases ge : e = e2
 rotate_left
 ·have t5 : (e == e2) = false := by simpa using ge
  have t6 : (e != e2) = true := by simpa using ge
  have e5 : sameB ⟨k, R, a, r, n, d, V, e⟩ ⟨k, R2, a, r, n, d, V2, e2⟩ = false := by simp [sameB, ge]
  rw [e5]
  clear e5 EQ EI ge
  have h1 := new_seg (Below.refl w.heap.size w) 27 k v a r n d u e
  have h2 := new_seg h1.1 27 k v2 a r n d u2 e2
  have h3 := h2.1
  go_enter Tryz.func19, Tryz.ntmps19
  go_wp2_with fail
  go_returns
  exact ⟨rfl, by go_grown⟩
 subst ge
 by_cases gR : R = R2
 rotate_left
 ·have e5 : sameB ⟨k, R, a, r, n, d, V, e⟩ ⟨k, R2, a, r, n, d, V2, e⟩ = false := by simp [sameB, gR]
  rw [e5]
  rw [show decide (R = R2) = false from decide_eq_false gR] at EQ
  clear e5 EI gR
  have h1 := new_seg (Below.refl w.heap.size w) 27 k v a r n d u e
  have h2 := new_seg h1.1 27 k v2 a r n d u2 e
  have h3 := h2.1
  go_enter Tryz.func19, Tryz.ntmps19
  go_wp2_with fail
  refine (EQ.out _ h3).mono ?_
  rintro e' w1 ⟨rfl, hb⟩
  have hB := under h3 hb
  clear hb
  go_wp2_with fail
  go_returns
  exact ⟨rfl, hB⟩
 ·subst gR
  have e5 : sameB ⟨k, R, a, r, n, d, V, e⟩ ⟨k, R, a, r, n, d, V2, e⟩ = eqB V V2 := by simp [sameB, eqB]
  rw [e5]
  rw [show decide (R = R) = true from by simp] at EQ
  clear e5
  generalize eqB V V2 = bb at *
  have h1 := new_seg (Below.refl w.heap.size w) 27 k v a r n d u e
  have h2 := new_seg h1.1 27 k v2 a r n d u2 e
  have h3 := h2.1
  go_enter Tryz.func19, Tryz.ntmps19
  go_wp2_with fail
  have k1 := kb_both h1 h2
  rw [alloc_size] at k1
  refine (EQ.out _ h3).mono ?_
  rintro e' w1 ⟨rfl, hb⟩
  have hB := under h3 hb
  have k2 := k1.next hb
  clear hb k1
  obtain ⟨⟨kz0,kc0,kf0⟩,⟨kz1,kc1,kf1⟩,⟨kz2,kc2,kf2⟩,⟨kz3,kc3,kf3⟩,⟨kz4,kc4,kf4⟩,⟨kz5,kc5,kf5⟩,⟨kz6,kc6,kf6⟩,⟨kz7,kc7,kf7⟩,⟨kz8,kc8,kf8⟩,⟨kz9,kc9,kf9⟩,⟨kz10,kc10,kf10⟩,⟨kz11,kc11,kf11⟩,⟨kz12,kc12,kf12⟩,⟨kz13,kc13,kf13⟩,⟨_,_,_⟩,⟨_,_,_⟩,_⟩ := k2.2
  go_wp2_with fail
  refine (EI.out _ hB).mono ?_
  rintro e' w2 ⟨rfl, hb⟩
  have hB2 := under hB hb
  clear hb k2
  (try clear kz0 kc0 kf0); (try clear kz1 kc1 kf1); (try clear kz2 kc2 kf2); (try clear kz3 kc3 kf3); (try clear kz4 kc4 kf4); (try clear kz5 kc5 kf5); (try clear kz6 kc6 kf6); (try clear kz7 kc7 kf7); (try clear kz8 kc8 kf8); (try clear kz9 kc9 kf9); (try clear kz10 kc10 kf10); (try clear kz11 kc11 kf11); (try clear kz12 kc12 kf12); (try clear kz13 kc13 kf13)
  go_wp2_with fail
  go_returns
  exact ⟨rfl, hB2⟩
end Go.Proofs.YtcfidimnbamnkaaGreat.P11

/-
 Layer 11: segments that are the same, by the document. Conditions: rows of at most a million.
-/
namespace Go.Proofs.YtcfidimnbamnkaaGreat.P11
open Go.RowKit Go.Shelf Go.Proofs.YtcfidimnbamnkaaGreat.P7

end Go.Proofs.YtcfidimnbamnkaaGreat.P11

/-
 Layer 11: the document's points of a segment. Conditions: its runs may be, and it has as many numbers as times, or a line that may be.
-/
namespace Go.Proofs.YtcfidimnbamnkaaGreat.P11
open Go.RowKit Go.Shelf Go.Proofs.YtcfidimnbamnkaaGreat.P7

def AskOk (s : Sg) : Prop := okB s.R = true ∧ (s.k = 4 ∧ (s.V.length : Int) = totalR s.R ∨ s.k ≠ 4 ∧ lineB s.a s.r s.n s.d = true)
theorem ask_len {s : Sg} (h : AskOk s) : (vals s).length = (timesR s.R).length := by
 obtain ⟨hok, ⟨hk, hl⟩ | ⟨hk, hl⟩⟩ := h
 ·have hT := times_ok hok
  unfold vals
  rw [if_pos hk]
  have := hT.total
  omega
 ·unfold vals
  rw [if_neg hk, List.length_map]
def RowP (W : World) (B : Nat) (u : Value) (l : List Pn) : Prop := W.ownsRow B 53 2 u l.length (flatP l)
def PointsD (w : World) (s : Sg) (e : Ending) (w' : World) : Prop := if backs (vals s) then ∃ A n c, e = .returned (.tuple #[.slice A n c, .bool true]) ∧ Below w.heap.size w w' ∧ RowP w' w.heap.size (.slice A n c) (ptsS s) else e = .returned (.tuple #[.slice none 0 0, .bool false]) ∧ Below w.heap.size w w'
theorem backs_at {s : Sg} {k : Nat} {x : Int} (hx : (vals s)[k]? = some x) (hb : backB x = false) : backs (vals s) = false := by
 rw [← Bool.not_eq_true, backs_iff]
 intro h
 have := h x (List.mem_of_getElem? hx)
 rw [hb] at this
 cases this
theorem owns_pt {W : World} {B pb i : Nat} {e : TypeId} {size n : Nat} {v : Value} {xs : List Value} (h : W.ownsRow B e size v n xs) (hpb : v.ownBlock ≠ some pb) (u : Value) : (W.setCell ⟨pb, i, none⟩ u).ownsRow B e size v n xs := by
 refine ⟨h.1, ?_⟩
 rcases h.2 with h2 | ⟨g', cap, cur, rfl, e2, e3, e4⟩
 ·exact .inl h2
 ·exact .inr ⟨g', cap, cur, rfl, e2, (Below.heap_setCell W ⟨pb, i, none⟩ u g' (fun e => hpb (by rw [show pb = g' from e.symm]; rfl))).trans e3, e4⟩
theorem take_few {α : Type} (l : List α) {j N : Nat} (h : j < N) (hN : N ≤ 256) : (l.take j).length ≤ 256 := by
 rw [List.length_take]
 omega
theorem keeps_named {w1 W : World} {L : List (Nat × Nat × Value)} (h : Keeps w1 L W) : ∃ W', W' = W ∧ Keeps w1 L W' := ⟨_, rfl, h⟩
theorem back_more {Vs : List Int} {j : Nat} {x : Int} (hx : Vs[j]? = some x) (h : ∀ (q : Nat) (y : Int), q < j → Vs[q]? = some y → backB y = true) : backB x = true → ∀ (q : Nat) (y : Int), q < j + 1 → Vs[q]? = some y → backB y = true := by
 intro hb q y hq hy
 by_cases e : q = j
 ·subst e
  rw [hx] at hy
  cases hy
  exact hb
 ·exact h q y (by omega) hy
theorem lt_of_eqV {j N M : Nat} (h : M = N) (hj : j < N) : (j : Int) < (M : Int) := by omega
end Go.Proofs.YtcfidimnbamnkaaGreat.P11

/-
 Layer 11: the document's Points. Conditions: its runs may be, and it has as many numbers as times, or a line that may be.
-/
namespace Go.Proofs.YtcfidimnbamnkaaGreat.P11
open Go.RowKit Go.Shelf Go.Proofs.YtcfidimnbamnkaaGreat.P7

set_option maxRecDepth 100000 in
set_option maxHeartbeats 8000000 in
theorem refPoints_raw (s : Sg) (hA : AskOk s) (hk : s.k = 4) (v u : Value) (w : World) (h : ReadsR w v s.R) (hu : Reads .i64 w u s.V) :
  Calls Tryz.prog 21 #[sgOf s v u] w (PointsD w s) := by
 have hok := hA.1
 have hT := times_ok hok
 have hlen := ask_len hA
 have hR1 : s.R.length ≤ 1000000 := by have := hT.runs; omega
 obtain ⟨i0, hi, hz0, hz1, hz2⟩ := info_parts infoPoint
 have TM : Hid (∀ W, Below w.heap.size w W → Calls Tryz.prog 56 #[v] W (LaidI W (timesR s.R))) := Lib.hid (fun W hb => by
  have := P7.refTimes_any s.R hR1 v W (h.below hb)
  rwa [timesD_ok hok] at this)
 have HW0 : Hid (∀ W, Below w.heap.size w W → Reads .i64 W u s.V) := Lib.hid (fun W hb => hu.below hb)
 have HP := Lib.hid (fun (q : Nat) (t x : Int) (hq : (timesR s.R)[q]? = some t) (hx : (vals s)[q]? = some x) => ptsF_get 0 _ _ q t x hq hx)
 have HPL : Hid ((ptsS s).length = (timesR s.R).length) := Lib.hid (ptsF_length 0 _ _ hlen)
 have HF := Lib.hid (fun (q : Nat) (t : Int) (hq : (timesR s.R)[q]? = some t) => since_time hT hq)
 have HF0 := Lib.hid (times_first hT)
 have HBK := Lib.hid (fun (q : Nat) (x : Int) (hx : (vals s)[q]? = some x) (hb : backB x = false) => backs_at hx hb)
 have hv4 : vals s = s.V := by unfold vals; rw [if_pos hk]
 have hu9 := hu
 have HT1 := Lib.hid hT.one
 have HT2 := Lib.hid hT.few
 have HVL := Lib.hid hlen
 unfold PointsD
 have HALL : Hid ((∀ j x, (vals s)[j]? = some x → backB x = true) → backs (vals s) = true) := Lib.hid (fun hh => (backs_iff _).2 (fun x hx => by obtain ⟨j, hj⟩ := List.getElem?_of_mem hx; exact hh j x hj))
 generalize backs (vals s) = bk at *
 obtain ⟨full, hfull⟩ : ∃ f, f = ptsS s := ⟨_, rfl⟩
 obtain ⟨T, hTT⟩ : ∃ T, T = timesR s.R := ⟨_, rfl⟩
 obtain ⟨Vs, hVs⟩ : ∃ V, V = vals s := ⟨_, rfl⟩
 have HP2 : Hid (∀ (q : Nat) (t x : Int), T[q]? = some t → Vs[q]? = some x → full[q]? = some ⟨(q : Int), t, x⟩) := Lib.hid (fun q t x h1 h2 => by
  rw [hTT] at h1
  rw [hVs] at h2
  have := HP.out q t x h1 h2
  rw [Nat.zero_add] at this
  rw [hfull]; exact this)
 rw [← hfull, ← hTT] at HPL
 rw [← hTT] at TM HF HF0 HT1 HT2 HVL
 rw [← hVs] at HBK HVL HALL hv4
 rw [← hfull]
 generalize fstT s.R = f0 at *
 clear HP hA hok hT hlen hR1 h hu hfull hTT hVs
 obtain ⟨k, R, a, r, n, d, V, e⟩ := s
 simp only at *
 subst hk
 subst hv4
 obtain ⟨A9, c9, rfl, hc9, hk9⟩ := hu9
 obtain ⟨y0, hy0⟩ : ∃ z, Vs[0]? = some z := ⟨_, List.getElem?_eq_getElem (by rw [HVL.out]; exact HT1.out)⟩
 obtain ⟨b9, o9, rfl, hb9, hy9⟩ := hk9 0 y0 hy0
 have HK9 := Lib.hid hk9
 clear hy9 hy0 hk9
 have hK := new_seg (Below.refl w.heap.size w) 27 4 v a r n d (.slice (some ⟨b9, o9, none⟩) Vs.length c9) e
 go_enter Tryz.func21, Tryz.ntmps21
 go_wp2_with fail
 refine (TM.out _ hK.1).mono ?_
 rintro e w1 ⟨vt, rfl, hb, hrow⟩
 replace hK := hK.next hb
 have hrd := reads_own (k := .i64) (show World.ownsRow _ _ _ _ _ _ _ from hrow)
 clear hb hrow TM
 obtain ⟨A2, c2, rfl, hc2, hk2⟩ := hrd
 have HK2 := Lib.hid hk2
 have HU := Lib.hid (HW0.out w1 hK.1)
 have HBW := Lib.hid hK.1
 have hBX : Cells [(w.heap.size, 0, .int .i64 4), (w.heap.size, 1, v), (w.heap.size, 2, .int .i64 a), (w.heap.size, 3, .int .i64 r), (w.heap.size, 4, .int .i64 n), (w.heap.size, 5, .int .i64 d), (w.heap.size, 6, .slice (some ⟨b9, o9, none⟩) Vs.length c9), (w.heap.size, 7, .int .i64 e)] w1 := hK.2
 have HBX := Lib.hid hBX
 clear hk2 HW0 hK hBX
 generalize hN : T.length = N at *
 have HN := Lib.hid hN
 clear hN
 go_wp2_with fail
 go_loopw [5, 6] (fun uu i wr => ∃ j : Nat, i = .int .i64 j ∧ j ≤ N ∧ Hid (∀ q x, q < j → Vs[q]? = some x → backB x = true) ∧ Hid (RowP wr w1.heap.size uu (full.take j)) ∧ Below w1.heap.size w1 wr) (fun _ i => fun _ => N - (intOf i).toNat)
 case atStart => exact ⟨0, rfl, Nat.zero_le _, Lib.hid (fun q x hq _ => by omega), Lib.hid (World.ownsRow_nil _ _ _ _), Below.refl _ _⟩
 case round =>
  obtain ⟨j, rfl, hjl, HB, HO, hB⟩ := hrel
  by_cases gj : j < N
  ·obtain ⟨t, ht⟩ : ∃ t, T[j]? = some t := ⟨_, List.getElem?_eq_getElem (by rw [HN.out]; exact gj)⟩
   obtain ⟨x, hx⟩ : ∃ x, Vs[j]? = some x := ⟨_, List.getElem?_eq_getElem (by rw [HVL.out]; exact gj)⟩
   obtain ⟨bb, off, rfl, hbw, hc1⟩ := HK2.out j _ ht
   obtain ⟨bb', off', hbe, hbw', hc0⟩ := HK2.out 0 f0 HF0.out
   cases hbe
   have hc1w := Lib.hid hc1
   have hc0w : Hid (w1.cell? ⟨bb, off, none⟩ = some (.int .i64 f0)) := Lib.hid (by simpa using hc0)
   have c1 := (hB.cell (p := ⟨bb, off + j, none⟩) hbw).trans hc1
   have c0 := (hB.cell (p := ⟨bb, off, none⟩) hbw).trans (by simpa using hc0)
   have j1 : (j : Int) < (N : Int) := by omega
   have j0 : (0 : Int) ≤ (j : Int) := by omega
   have jn : (0 : Int) < (N : Int) := by omega
   have jn2 : 0 < N := by omega
   have wk := one_moreV gj (show N ≤ 1000000 by have := HT2.out; omega)
   have tl := Lib.hid (turn_lessV gj)
   have hfp : Hid (full.take (j + 1) = full.take j ++ [⟨(j : Int), t, x⟩]) := Lib.hid (by rw [List.take_add_one, HP2.out j t x ht hx]; rfl)
   have hpl := take_few full gj HT2.out
   have HB2 : Hid (backB x = true → ∀ q y, q < j + 1 → Vs[q]? = some y → backB y = true) := Lib.hid (back_more hx HB.out)
   have hBX := HBX.out.next hB
   obtain ⟨z1, z2, z3, z4, z5, z6⟩ := HF.out j t ht
   have RB := fun W => refBack_any x W
   have HX := Lib.hid hx
   have HBN := Lib.hid (HBK.out j x hx)
   obtain ⟨b8, o8, hbe9, _, hx9⟩ := HK9.out j x hx
   cases hbe9
   have hb91 : b9 < w1.heap.size := Nat.lt_of_lt_of_le hb9 HBW.out.size
   have c5 := (hB.cell (p := ⟨b9, o9 + j, none⟩) hb91).trans ((HBW.out.cell (p := ⟨b9, o9 + j, none⟩) hb9).trans hx9)
   have hl9 : Vs.length = N := HVL.out
   have j9 := lt_of_eqV hl9 gj
   clear hl9
   clear hx9
   clear hc1 hc0 hbw' ht hx HB
   obtain ⟨A3, n3, c3, rfl⟩ := own_slw HO.out
   have hK0 : Keeps w1 [(w.heap.size, 0, .int .i64 4), (w.heap.size, 1, v), (w.heap.size, 2, .int .i64 a), (w.heap.size, 3, .int .i64 r), (w.heap.size, 4, .int .i64 n), (w.heap.size, 5, .int .i64 d), (w.heap.size, 6, .slice (some ⟨b9, o9, none⟩) Vs.length c9), (w.heap.size, 7, .int .i64 e), (wr.heap.size, 0, .int .i64 t), (wr.heap.size, 1, .int .i64 0)] (wr.alloc (.cells #[.int .i64 t, .int .i64 0] 53)) := Keeps.app (l := [(w.heap.size, 0, .int .i64 4), (w.heap.size, 1, v), (w.heap.size, 2, .int .i64 a), (w.heap.size, 3, .int .i64 r), (w.heap.size, 4, .int .i64 n), (w.heap.size, 5, .int .i64 d), (w.heap.size, 6, .slice (some ⟨b9, o9, none⟩) Vs.length c9), (w.heap.size, 7, .int .i64 e)]) ⟨under hB (below_alloc _ _), hBX.next (below_alloc _ _)⟩ (newK2 (L := []) ⟨under hB (below_alloc _ _), trivial⟩)
   have hgz : w1.heap.size ≤ wr.heap.size := hB.size
   have hpb : (Value.slice A3 n3 c3).ownBlock ≠ some wr.heap.size := fun e => by have := ((show World.ownsRow _ _ _ _ _ _ _ from HO.out).lt _ e).2; omega
   have HO2 : Hid (RowP (wr.alloc (.cells #[.int .i64 t, .int .i64 0] 53)) w1.heap.size (.slice A3 n3 c3) (full.take j)) := Lib.hid (owns_below (show World.ownsRow _ _ _ _ _ _ _ from HO.out) (below_alloc _ _))
   have c5' := ((below_alloc wr (.cells #[.int .i64 t, .int .i64 0] 53)).cell (p := ⟨b9, o9 + j, none⟩) (Nat.lt_of_lt_of_le hb91 hB.size)).trans c5
   have hb9' : b9 < wr.heap.size := Nat.lt_of_lt_of_le hb91 hB.size
   clear c5
   clear HO hBX c0
   go_upto_region 7 with (fail)
   clear c1 hB
   generalize wr.alloc (.cells #[.int .i64 t, .int .i64 0] 53) = wp at *
   generalize wr.heap.size = pb at *
   ·obtain ⟨⟨kz0,kc0,kf0⟩,⟨kz1,kc1,kf1⟩,⟨kz2,kc2,kf2⟩,⟨kz3,kc3,kf3⟩,⟨kz4,kc4,kf4⟩,⟨kz5,kc5,kf5⟩,⟨kz6,kc6,kf6⟩,⟨kz7,kc7,kf7⟩,⟨kz8,kc8,kf8⟩,⟨kz9,kc9,kf9⟩,_⟩ := hK0.2
    cases gb : backB x
    ·rw [gb] at RB
     replace RB := Lib.hid RB
     obtain rfl : bk = false := HBN.out gb
     have hP := hK0.1.setCell (p := ⟨pb, 1, none⟩) hgz (.int .i64 x)
     clear hK0 HO2
     go_wp2_with fail
     refine (RB.out _).mono ?_
     rintro e w6 ⟨rfl, hb⟩
     have hP2 := under hP hb
     clear hP hb
     (try clear kz0 kc0 kf0); (try clear kz1 kc1 kf1); (try clear kz2 kc2 kf2); (try clear kz3 kc3 kf3); (try clear kz4 kc4 kf4); (try clear kz5 kc5 kf5); (try clear kz6 kc6 kf6); (try clear kz7 kc7 kf7); (try clear kz8 kc8 kf8); (try clear kz9 kc9 kf9)
     go_wp2_with fail
     go_returns
     exact ⟨rfl, under HBW.out hP2⟩
    ·rw [gb] at RB
     replace RB := Lib.hid RB
     have hQ := kupd (M := [(pb, 0, .int .i64 t), (pb, 1, .int .i64 x)]) (hK0.sub (L' := [(pb, 0, .int .i64 t), (pb, 1, .int .i64 0)]) (by simp)) kc9 hgz (.int .i64 x) (by simp [updL])
     have HQ := Lib.hid (owns_pt (i := 1) (show World.ownsRow _ _ _ _ _ _ _ from HO2.out) hpb (.int .i64 x))
     have GB := Lib.hid gb
     clear hK0 HO2 gb
     go_wp2_with fail
     refine (RB.out _).mono ?_
     rintro e w6 ⟨rfl, hb⟩
     have hQ2 := hQ.next hb
     have HQ2 := Lib.hid (owns_below (show World.ownsRow _ _ _ _ _ _ _ from HQ.out) hb)
     clear hQ HQ hb
     (try clear kz0 kc0 kf0); (try clear kz1 kc1 kf1); (try clear kz2 kc2 kf2); (try clear kz3 kc3 kf3); (try clear kz4 kc4 kf4); (try clear kz5 kc5 kf5); (try clear kz6 kc6 kf6); (try clear kz7 kc7 kf7); (try clear kz8 kc8 kf8); (try clear kz9 kc9 kf9)
     go_upto_region 15 with (fail)
     have hH := hQ2
     have HO3 : Hid (RowP w6 w1.heap.size (.slice A3 n3 c3) (full.take j)) := HQ2
     have HBT := GB
     clear hQ2 HQ2 GB RB HBN
     have hHs := hH.1.size
     obtain ⟨⟨kz0, kc0, kf0⟩, ⟨kz1, kc1, kf1⟩, _⟩ := hH.2
     have hHB := Lib.hid hH.1
     skip
     go_wp2_with (at_builtin; go_loud (refine wpList_append_own _ rfl _ _ 35 rfl w1.heap.size 53 i0 (.agg #[.int .i64 0, .int .i64 0]) 2 16 Tryz.underlying35 hi hz0 hz1 hz2 rfl (by decide) _ _ _ rfl (owns_below (show World.ownsRow _ _ _ _ _ _ _ from HO3.out) (below_alloc w6 _)) ⟨w6.heap.size, 0, none⟩ 1 1 [.int .i64 t, .int .i64 x] rfl rfl ?c1 ?c2 ?c3 ?c4 ?c5 ?_))
     case c1 => exact new_cells2 rfl
     case c2 => intro u hu; simp at hu; rcases hu with rfl | rfl <;> rfl
     case c3 => unfold maxLen; omega
     case c4 => omega
     case c5 => simp; omega
     intro v' w12 hown' hgrow _
     have HO4 : Hid (RowP w12 w1.heap.size v' (full.take (j + 1))) := Lib.hid (by
      unfold RowP
      rw [hfp.out, List.length_append, flatP_app]
      simpa [flatP] using hown')
     have hB4 := own_grows hHB.out (show World.ownsRow _ _ _ _ _ _ _ from HO3.out) hgrow
     have HB3 := Lib.hid (HB2.out HBT.out)
     clear hown' hgrow hH HO3 HB2 hHB
     (try clear kz0 kc0 kf0); (try clear kz1 kc1 kf1); (try clear kz2 kc2 kf2); (try clear kz3 kc3 kf3); (try clear kz4 kc4 kf4); (try clear kz5 kc5 kf5); (try clear kz6 kc6 kf6); (try clear kz7 kc7 kf7); (try clear kz8 kc8 kf8); (try clear kz9 kc9 kf9)
     go_wp2_with fail
     go_roundw
     case rel => exact ⟨j + 1, by first | (simp; done) | (rw [wk]; simp; done), gj, HB3, HO4, hB4⟩
     case measure => first | exact tl.out | (rw [wk]; exact tl.out)
  ·have i1 : ¬ (j : Int) < (N : Int) := by omega
   have e : j = N := by omega
   subst e
   have EB : Hid (bk = true) := Lib.hid (HALL.out (fun q x hx => HB.out q x (by have := (List.getElem?_eq_some_iff.1 hx).1; rw [HVL.out] at this; exact this) hx))
   have HO2 := HO.out
   rw [List.take_of_length_le (by rw [HPL.out]; exact Nat.le_refl _)] at HO2
   replace HO2 := Lib.hid HO2
   obtain ⟨A3, n3, c3, rfl⟩ := own_slw HO2.out
   have hB2 := under HBW.out hB
   have HO3 := Lib.hid (owns_less (B' := w.heap.size) HO2.out (by have := HBW.out.size; omega))
   obtain rfl : bk = true := EB.out
   clear HB HO HO2 hB
   go_wp2_with fail
   go_returns
   exact ⟨A3, n3, c3, rfl, hB2, HO3.out⟩
end Go.Proofs.YtcfidimnbamnkaaGreat.P11

/-
 Layer 11: the document's Points. Conditions: its runs may be, and it has as many numbers as times, or a line that may be.
-/
namespace Go.Proofs.YtcfidimnbamnkaaGreat.P11
open Go.RowKit Go.Shelf Go.Proofs.YtcfidimnbamnkaaGreat.P7

set_option maxRecDepth 100000 in
set_option maxHeartbeats 8000000 in
theorem refPoints_line (s : Sg) (hA : AskOk s) (hk : s.k ≠ 4) (v u : Value) (w : World) (h : ReadsR w v s.R) (hu : Reads .i64 w u s.V) :
  Calls Tryz.prog 21 #[sgOf s v u] w (PointsD w s) := by
 have hok := hA.1
 have hT := times_ok hok
 have hlen := ask_len hA
 have hR1 : s.R.length ≤ 1000000 := by have := hT.runs; omega
 obtain ⟨i0, hi, hz0, hz1, hz2⟩ := info_parts infoPoint
 have TM : Hid (∀ W, Below w.heap.size w W → Calls Tryz.prog 56 #[v] W (LaidI W (timesR s.R))) := Lib.hid (fun W hb => by
  have := P7.refTimes_any s.R hR1 v W (h.below hb)
  rwa [timesD_ok hok] at this)
 have HW0 : Hid (∀ W, Below w.heap.size w W → Reads .i64 W u s.V) := Lib.hid (fun W hb => hu.below hb)
 have HP := Lib.hid (fun (q : Nat) (t x : Int) (hq : (timesR s.R)[q]? = some t) (hx : (vals s)[q]? = some x) => ptsF_get 0 _ _ q t x hq hx)
 have HPL : Hid ((ptsS s).length = (timesR s.R).length) := Lib.hid (ptsF_length 0 _ _ hlen)
 have HF := Lib.hid (fun (q : Nat) (t : Int) (hq : (timesR s.R)[q]? = some t) => since_time hT hq)
 have HF0 := Lib.hid (times_first hT)
 have HBK := Lib.hid (fun (q : Nat) (x : Int) (hx : (vals s)[q]? = some x) (hb : backB x = false) => backs_at hx hb)
 have HV4 : ∀ (q : Nat) (t : Int), (timesR s.R)[q]? = some t → (vals s)[q]? = some (exV s.a s.r s.n s.d (t - fstT s.R) / s.d) := fun q t hq => by unfold vals; rw [if_neg hk, List.getElem?_map, hq]; rfl
 have hln : lineB s.a s.r s.n s.d = true := by rcases hA.2 with ⟨h4, _⟩ | ⟨_, h⟩; exact absurd h4 hk; exact h
 have t4 : (s.k == 4) = false := by simpa using hk
 replace HV4 := Lib.hid HV4
 have HT1 := Lib.hid hT.one
 have HT2 := Lib.hid hT.few
 have HVL := Lib.hid hlen
 unfold PointsD
 have HALL : Hid ((∀ j x, (vals s)[j]? = some x → backB x = true) → backs (vals s) = true) := Lib.hid (fun hh => (backs_iff _).2 (fun x hx => by obtain ⟨j, hj⟩ := List.getElem?_of_mem hx; exact hh j x hj))
 generalize backs (vals s) = bk at *
 obtain ⟨full, hfull⟩ : ∃ f, f = ptsS s := ⟨_, rfl⟩
 obtain ⟨T, hTT⟩ : ∃ T, T = timesR s.R := ⟨_, rfl⟩
 obtain ⟨Vs, hVs⟩ : ∃ V, V = vals s := ⟨_, rfl⟩
 have HP2 : Hid (∀ (q : Nat) (t x : Int), T[q]? = some t → Vs[q]? = some x → full[q]? = some ⟨(q : Int), t, x⟩) := Lib.hid (fun q t x h1 h2 => by
  rw [hTT] at h1
  rw [hVs] at h2
  have := HP.out q t x h1 h2
  rw [Nat.zero_add] at this
  rw [hfull]; exact this)
 rw [← hfull, ← hTT] at HPL
 rw [← hTT] at TM HF HF0 HT1 HT2 HVL
 rw [← hVs] at HBK HVL HALL HV4
 rw [← hTT] at HV4
 rw [← hfull]
 generalize fstT s.R = f0 at *
 clear HP hA hok hT hlen hR1 h hu hfull hTT hVs
 obtain ⟨k, R, a, r, n, d, V, e⟩ := s
 simp only at *
 have hK := new_seg (Below.refl w.heap.size w) 27 k v a r n d (u) e
 go_enter Tryz.func21, Tryz.ntmps21
 go_wp2_with fail
 refine (TM.out _ hK.1).mono ?_
 rintro e w1 ⟨vt, rfl, hb, hrow⟩
 replace hK := hK.next hb
 have hrd := reads_own (k := .i64) (show World.ownsRow _ _ _ _ _ _ _ from hrow)
 clear hb hrow TM
 obtain ⟨A2, c2, rfl, hc2, hk2⟩ := hrd
 have HK2 := Lib.hid hk2
 have HU := Lib.hid (HW0.out w1 hK.1)
 have HBW := Lib.hid hK.1
 have hBX : Cells [(w.heap.size, 0, .int .i64 k), (w.heap.size, 1, v), (w.heap.size, 2, .int .i64 a), (w.heap.size, 3, .int .i64 r), (w.heap.size, 4, .int .i64 n), (w.heap.size, 5, .int .i64 d), (w.heap.size, 6, u), (w.heap.size, 7, .int .i64 e)] w1 := hK.2
 have HBX := Lib.hid hBX
 clear hk2 HW0 hK hBX
 generalize hN : T.length = N at *
 have HN := Lib.hid hN
 clear hN
 go_wp2_with fail
 go_loopw [5, 6] (fun uu i wr => ∃ j : Nat, i = .int .i64 j ∧ j ≤ N ∧ Hid (∀ q x, q < j → Vs[q]? = some x → backB x = true) ∧ Hid (RowP wr w1.heap.size uu (full.take j)) ∧ Below w1.heap.size w1 wr) (fun _ i => fun _ => N - (intOf i).toNat)
 case atStart => exact ⟨0, rfl, Nat.zero_le _, Lib.hid (fun q x hq _ => by omega), Lib.hid (World.ownsRow_nil _ _ _ _), Below.refl _ _⟩
 case round =>
  obtain ⟨j, rfl, hjl, HB, HO, hB⟩ := hrel
  by_cases gj : j < N
  ·obtain ⟨t, ht⟩ : ∃ t, T[j]? = some t := ⟨_, List.getElem?_eq_getElem (by rw [HN.out]; exact gj)⟩
   obtain ⟨x, hx⟩ : ∃ x, Vs[j]? = some x := ⟨_, List.getElem?_eq_getElem (by rw [HVL.out]; exact gj)⟩
   obtain ⟨bb, off, rfl, hbw, hc1⟩ := HK2.out j _ ht
   obtain ⟨bb', off', hbe, hbw', hc0⟩ := HK2.out 0 f0 HF0.out
   cases hbe
   have hc1w := Lib.hid hc1
   have hc0w : Hid (w1.cell? ⟨bb, off, none⟩ = some (.int .i64 f0)) := Lib.hid (by simpa using hc0)
   have c1 := (hB.cell (p := ⟨bb, off + j, none⟩) hbw).trans hc1
   have c0 := (hB.cell (p := ⟨bb, off, none⟩) hbw).trans (by simpa using hc0)
   have j1 : (j : Int) < (N : Int) := by omega
   have j0 : (0 : Int) ≤ (j : Int) := by omega
   have jn : (0 : Int) < (N : Int) := by omega
   have jn2 : 0 < N := by omega
   have wk := one_moreV gj (show N ≤ 1000000 by have := HT2.out; omega)
   have tl := Lib.hid (turn_lessV gj)
   have hfp : Hid (full.take (j + 1) = full.take j ++ [⟨(j : Int), t, x⟩]) := Lib.hid (by rw [List.take_add_one, HP2.out j t x ht hx]; rfl)
   have hpl := take_few full gj HT2.out
   have HB2 : Hid (backB x = true → ∀ q y, q < j + 1 → Vs[q]? = some y → backB y = true) := Lib.hid (back_more hx HB.out)
   have hBX := HBX.out.next hB
   obtain ⟨z1, z2, z3, z4, z5, z6⟩ := HF.out j t ht
   have RB := fun W => refBack_any x W
   have HX := Lib.hid hx
   have HBN := Lib.hid (HBK.out j x hx)
   have hxv : x = exV a r n d (t - f0) / d := by have := HV4.out j t ht; rw [hx] at this; injection this
   have AT' := fun W => refAt_any a r n d (t - f0) hln z3 W
   rw [← hxv] at AT'
   have HQV : Hid (backB x = true → ovQ (exV a r n d (t - f0)) d = x) := Lib.hid (fun hb => by unfold ovQ; rw [← hxv, hb, if_pos rfl])
   obtain ⟨gg, hgg⟩ : ∃ g, g = backB x := ⟨_, rfl⟩
   rw [← hgg] at AT'
   obtain ⟨qv, hqv⟩ : ∃ q, q = ovQ (exV a r n d (t - f0)) d := ⟨_, rfl⟩
   rw [← hqv] at AT' HQV
   have AT := Lib.hid AT'
   have ws : IntKind.i64.wrap (t - f0) = t - f0 := iwrap (by omega) (by omega)
   clear AT' hxv hqv RB
   clear hc1 hc0 hbw' ht hx HB
   obtain ⟨A3, n3, c3, rfl⟩ := own_slw HO.out
   have hK0 : Keeps w1 [(w.heap.size, 0, .int .i64 k), (w.heap.size, 1, v), (w.heap.size, 2, .int .i64 a), (w.heap.size, 3, .int .i64 r), (w.heap.size, 4, .int .i64 n), (w.heap.size, 5, .int .i64 d), (w.heap.size, 6, u), (w.heap.size, 7, .int .i64 e), (wr.heap.size, 0, .int .i64 t), (wr.heap.size, 1, .int .i64 0)] (wr.alloc (.cells #[.int .i64 t, .int .i64 0] 53)) := Keeps.app (l := [(w.heap.size, 0, .int .i64 k), (w.heap.size, 1, v), (w.heap.size, 2, .int .i64 a), (w.heap.size, 3, .int .i64 r), (w.heap.size, 4, .int .i64 n), (w.heap.size, 5, .int .i64 d), (w.heap.size, 6, u), (w.heap.size, 7, .int .i64 e)]) ⟨under hB (below_alloc _ _), hBX.next (below_alloc _ _)⟩ (newK2 (L := []) ⟨under hB (below_alloc _ _), trivial⟩)
   have hgz : w1.heap.size ≤ wr.heap.size := hB.size
   have hpb : (Value.slice A3 n3 c3).ownBlock ≠ some wr.heap.size := fun e => by have := ((show World.ownsRow _ _ _ _ _ _ _ from HO.out).lt _ e).2; omega
   have HO2 : Hid (RowP (wr.alloc (.cells #[.int .i64 t, .int .i64 0] 53)) w1.heap.size (.slice A3 n3 c3) (full.take j)) := Lib.hid (owns_below (show World.ownsRow _ _ _ _ _ _ _ from HO.out) (below_alloc _ _))
   clear HO hBX c0
   go_upto_region 7 with (fail)
   clear c1 hB
   generalize wr.alloc (.cells #[.int .i64 t, .int .i64 0] 53) = wp at *
   generalize wr.heap.size = pb at *
   ·obtain ⟨⟨kz0,kc0,kf0⟩,⟨kz1,kc1,kf1⟩,⟨kz2,kc2,kf2⟩,⟨kz3,kc3,kf3⟩,⟨kz4,kc4,kf4⟩,⟨kz5,kc5,kf5⟩,⟨kz6,kc6,kf6⟩,⟨kz7,kc7,kf7⟩,⟨kz8,kc8,kf8⟩,⟨kz9,kc9,kf9⟩,_⟩ := hK0.2
    have hL8 : Keeps w1 [(w.heap.size, 0, .int .i64 k), (w.heap.size, 1, v), (w.heap.size, 2, .int .i64 a), (w.heap.size, 3, .int .i64 r), (w.heap.size, 4, .int .i64 n), (w.heap.size, 5, .int .i64 d), (w.heap.size, 6, u), (w.heap.size, 7, .int .i64 e)] wp := hK0.sub (by simp)
    have hPB : Keeps w1 [(pb, 0, .int .i64 t), (pb, 1, .int .i64 0)] wp := hK0.sub (by simp)
    clear hK0
    go_upto_region 11 with (fail)
    (try clear hHeld0); (try clear hHeld1); (try clear kz0 kc0 kf0); (try clear kz1 kc1 kf1); (try clear kz2 kc2 kf2); (try clear kz3 kc3 kf3); (try clear kz4 kc4 kf4); (try clear kz5 kc5 kf5); (try clear kz6 kc6 kf6); (try clear kz7 kc7 kf7); (try clear kz8 kc8 kf8); (try clear kz9 kc9 kf9)
    refine region_keeps (w0 := w1) (L := [(w.heap.size, 0, .int .i64 k), (w.heap.size, 1, v), (w.heap.size, 2, .int .i64 a), (w.heap.size, 3, .int .i64 r), (w.heap.size, 4, .int .i64 n), (w.heap.size, 5, .int .i64 d), (w.heap.size, 6, u), (w.heap.size, 7, .int .i64 e)]) (by kernel_rfl) hL8 (fun hHeld0 => ?_)
    refine tv 0 38 rfl rfl ?_
    try go_frame
    refine tk 1 39 rfl rfl ?_ ?_ ?_
    rotate_left
    ·intro wq hSw; obtain ⟨⟨_,_,_⟩,⟨_,_,_⟩,⟨_,_,_⟩,⟨_,_,_⟩,⟨_,_,_⟩,⟨_,_,_⟩,⟨_,_,_⟩,⟨_,_,_⟩,_⟩ := hSw.2; have x1 := (hSw.1.cell (p := ⟨bb, off + j, none⟩) hbw).trans hc1w.out; have x0 := (hSw.1.cell (p := ⟨bb, off, none⟩) hbw).trans hc0w.out; go_simp; (try with_reducible rfl)
    try go_frame
    refine tv 2 40 rfl rfl ?_
    try go_frame
    refine tv 3 41 rfl rfl ?_
    try go_frame
    refine tv 4 42 rfl rfl ?_
    try go_frame
    refine tk 5 43 rfl rfl ?_ ?_ ?_
    rotate_left
    ·intro wq hSw; obtain ⟨⟨_,_,_⟩,⟨_,_,_⟩,⟨_,_,_⟩,⟨_,_,_⟩,⟨_,_,_⟩,⟨_,_,_⟩,⟨_,_,_⟩,⟨_,_,_⟩,_⟩ := hSw.2; have x1 := (hSw.1.cell (p := ⟨bb, off + j, none⟩) hbw).trans hc1w.out; have x0 := (hSw.1.cell (p := ⟨bb, off, none⟩) hbw).trans hc0w.out; go_simp; (try with_reducible rfl)
    try go_frame
    refine tv 6 44 rfl rfl ?_
    try go_frame
    refine tv 7 45 rfl rfl ?_
    try go_frame
    refine tk 8 46 rfl rfl ?_ ?_ ?_
    rotate_left
    ·intro wq hSw; obtain ⟨⟨_,_,_⟩,⟨_,_,_⟩,⟨_,_,_⟩,⟨_,_,_⟩,⟨_,_,_⟩,⟨_,_,_⟩,⟨_,_,_⟩,⟨_,_,_⟩,_⟩ := hSw.2; have x1 := (hSw.1.cell (p := ⟨bb, off + j, none⟩) hbw).trans hc1w.out; have x0 := (hSw.1.cell (p := ⟨bb, off, none⟩) hbw).trans hc0w.out; go_simp; (try with_reducible rfl)
    try go_frame
    refine tv 9 47 rfl rfl ?_
    try go_frame
    refine ty [10] ?_
    refine AllReadyH.cons rfl (fun K hK => ?_) AllReadyH.nil
    go_simp
    ((with_reducible refine (AT.out _).mono ?_); rintro e w6 ⟨rfl, hb⟩; have hb6 := hb)
    refine hK.out _ _ (hHeld0.next hb) (fun hHeld1 => ?_)
    clear hK K; try clear hb
    try go_frame
    refine tv 11 37 rfl rfl ?_
    try go_frame
    refine tv 12 49 rfl rfl ?_
    try go_frame
    refine tv 13 50 rfl rfl ?_
    try go_frame
    refine tv 14 8 rfl rfl ?_
    try go_frame
    refine tv 15 9 rfl rfl ?_
    try go_frame
    refine wpAnyH_done (by kernel_rfl) ?_ _
    have hHeld := hHeld1
    obtain ⟨⟨kz0,kc0,kf0⟩,⟨kz1,kc1,kf1⟩,⟨kz2,kc2,kf2⟩,⟨kz3,kc3,kf3⟩,⟨kz4,kc4,kf4⟩,⟨kz5,kc5,kf5⟩,⟨kz6,kc6,kf6⟩,⟨kz7,kc7,kf7⟩,_⟩ := hHeld.2
    all_goals
     have hPB2 := hPB.next (undrew hb6)
     have HQ := Lib.hid (owns_below (show World.ownsRow _ _ _ _ _ _ _ from HO2.out) (undrew hb6))
     (try clear hHeld); (try clear hHeld0); (try clear hHeld1); (try clear kz0 kc0 kf0) ; (try clear kz1 kc1 kf1) ; (try clear kz2 kc2 kf2) ; (try clear kz3 kc3 kf3) ; (try clear kz4 kc4 kf4) ; (try clear kz5 kc5 kf5)
     (try clear hHeld0); (try clear hHeld1); (try clear kz0 kc0 kf0); (try clear kz1 kc1 kf1); (try clear kz2 kc2 kf2); (try clear kz3 kc3 kf3); (try clear kz4 kc4 kf4); (try clear kz5 kc5 kf5); (try clear kz6 kc6 kf6); (try clear kz7 kc7 kf7); (try clear kz8 kc8 kf8); (try clear kz9 kc9 kf9)
     cases gb : backB x
     ·have g2 : gg = false := hgg.trans gb
      clear hgg
      subst g2
      obtain rfl : bk = false := HBN.out gb
      have hP2 := hPB2.1
      clear hPB2 HQ HO2 hb6
      go_wp2_with fail
      go_returns
      exact ⟨rfl, under HBW.out hP2⟩
     ·have g2 : gg = true := hgg.trans gb
      clear hgg
      subst g2
      have hqv := HQV.out gb
      subst hqv
      obtain ⟨⟨kz0, kc0, kf0⟩, ⟨kz1, kc1, kf1⟩, _⟩ := hPB2.2
      have hQ := kupd (M := [(pb, 0, .int .i64 t), (pb, 1, .int .i64 qv)]) hPB2 kc1 hgz (.int .i64 qv) (by simp [updL])
      have HQ3 := Lib.hid (owns_pt (i := 1) (show World.ownsRow _ _ _ _ _ _ _ from HQ.out) hpb (.int .i64 qv))
      have GB := Lib.hid gb
      clear hPB2 HQ HO2 hb6
      go_upto_region 15 with (fail)
      obtain ⟨wc, ewc, hH⟩ := keeps_named hQ
      rw [← ewc] at HQ3 ⊢
      have HO3 : Hid (RowP wc w1.heap.size (.slice A3 n3 c3) (full.take j)) := HQ3
      have HBT := GB
      clear ewc hQ HQ3 GB HBN HQV AT
      have hHs := hH.1.size
      obtain ⟨⟨kz0, kc0, kf0⟩, ⟨kz1, kc1, kf1⟩, _⟩ := hH.2
      have hHB := Lib.hid hH.1
      skip
      go_wp2_with (at_builtin; go_loud (refine wpList_append_own _ rfl _ _ 35 rfl w1.heap.size 53 i0 (.agg #[.int .i64 0, .int .i64 0]) 2 16 Tryz.underlying35 hi hz0 hz1 hz2 rfl (by decide) _ _ _ rfl (owns_below (show World.ownsRow _ _ _ _ _ _ _ from HO3.out) (below_alloc wc _)) ⟨wc.heap.size, 0, none⟩ 1 1 [.int .i64 t, .int .i64 qv] rfl rfl ?c1 ?c2 ?c3 ?c4 ?c5 ?_))
      case c1 => exact new_cells2 rfl
      case c2 => intro u hu; simp at hu; rcases hu with rfl | rfl <;> rfl
      case c3 => unfold maxLen; omega
      case c4 => omega
      case c5 => simp; omega
      intro v' w12 hown' hgrow _
      have HO4 : Hid (RowP w12 w1.heap.size v' (full.take (j + 1))) := Lib.hid (by
       unfold RowP
       rw [hfp.out, List.length_append, flatP_app]
       simpa [flatP] using hown')
      have hB4 := own_grows hHB.out (show World.ownsRow _ _ _ _ _ _ _ from HO3.out) hgrow
      have HB3 := Lib.hid (HB2.out HBT.out)
      clear hown' hgrow hH HO3 HB2 hHB
      (try clear hHeld0); (try clear hHeld1); (try clear kz0 kc0 kf0); (try clear kz1 kc1 kf1); (try clear kz2 kc2 kf2); (try clear kz3 kc3 kf3); (try clear kz4 kc4 kf4); (try clear kz5 kc5 kf5); (try clear kz6 kc6 kf6); (try clear kz7 kc7 kf7); (try clear kz8 kc8 kf8); (try clear kz9 kc9 kf9)
      go_wp2_with fail
      go_roundw
      case rel => exact ⟨j + 1, by first | (simp; done) | (rw [wk]; simp; done), gj, HB3, HO4, hB4⟩
      case measure => first | exact tl.out | (rw [wk]; exact tl.out)
  ·have i1 : ¬ (j : Int) < (N : Int) := by omega
   have e : j = N := by omega
   subst e
   have EB : Hid (bk = true) := Lib.hid (HALL.out (fun q x hx => HB.out q x (by have := (List.getElem?_eq_some_iff.1 hx).1; rw [HVL.out] at this; exact this) hx))
   have HO2 := HO.out
   rw [List.take_of_length_le (by rw [HPL.out]; exact Nat.le_refl _)] at HO2
   replace HO2 := Lib.hid HO2
   obtain ⟨A3, n3, c3, rfl⟩ := own_slw HO2.out
   have hB2 := under HBW.out hB
   have HO3 := Lib.hid (owns_less (B' := w.heap.size) HO2.out (by have := HBW.out.size; omega))
   obtain rfl : bk = true := EB.out
   clear HB HO HO2 hB
   go_wp2_with fail
   go_returns
   exact ⟨A3, n3, c3, rfl, hB2, HO3.out⟩
end Go.Proofs.YtcfidimnbamnkaaGreat.P11

/-
 Layer 11: the document's Kind and Right.
-/
namespace Go.Proofs.YtcfidimnbamnkaaGreat.P11
open Go.RowKit Go.Shelf Go.Proofs.YtcfidimnbamnkaaGreat.P7

set_option maxHeartbeats 2000000 in
theorem refKind_any (a r n d : Int) (w : World) : Calls Tryz.prog 23 #[lnV a r n d] w (Ret w (.int .i64 (kindL n r))) := by
 by_cases h1 : n = 0
 ·subst h1
  have e5 : kindL 0 r = 1 := rfl
  rw [e5]
  clear e5
  go_enter Tryz.func23, Tryz.ntmps23
  go_wp2_with fail
  go_returns
  exact ⟨rfl, by go_grown⟩
 ·have t1 : (n == 0) = false := by simpa using h1
  by_cases h2 : r = 0
  ·subst h2
   have e5 : kindL n 0 = 2 := by unfold kindL; rw [if_neg h1, if_pos rfl]
   rw [e5]
   clear e5 h1
   go_enter Tryz.func23, Tryz.ntmps23
   go_wp2_with fail
   go_returns
   exact ⟨rfl, by go_grown⟩
  ·have t2 : (r == 0) = false := by simpa using h2
   have e5 : kindL n r = 3 := by unfold kindL; rw [if_neg h1, if_neg h2]
   rw [e5]
   clear e5 h1 h2
   go_enter Tryz.func23, Tryz.ntmps23
   go_wp2_with fail
   go_returns
   exact ⟨rfl, by go_grown⟩
theorem points_bk {w : World} {s : Sg} {e : Ending} {w' : World} (h : PointsD w s e w') : ∃ A n c, e = .returned (.tuple #[.slice A n c, .bool (backs (vals s))]) ∧ Below w.heap.size w w' := by
 unfold PointsD at h
 cases g : backs (vals s)
 ·rw [g] at h
  simp only [Bool.false_eq_true, if_false] at h
  exact ⟨none, 0, 0, h.1, h.2⟩
 ·rw [g] at h
  simp only [if_true] at h
  obtain ⟨A, n, c, h1, h2, _⟩ := h
  exact ⟨A, n, c, h1, h2⟩
set_option maxRecDepth 100000 in
set_option maxHeartbeats 8000000 in
theorem refRightS_any (s : Sg) (hR : s.R.length ≤ 1000000) (hV : s.V.length ≤ 1000000) (v u : Value) (w : World) (h : ReadsR w v s.R) (hu : Reads .i64 w u s.V) :
  Calls Tryz.prog 16 #[sgOf s v u] w (Ret w (.bool (segB s))) := by
 have RR : Hid (∀ W, Below w.heap.size w W → Calls Tryz.prog 55 #[v] W (Ret W (.bool (okB s.R)))) := Lib.hid (fun W hb => P7.refRight_any s.R hR v W (h.below hb))
 have TM : Hid (okB s.R = true → ∀ W, Below w.heap.size w W → Calls Tryz.prog 56 #[v] W (LaidI W (timesR s.R))) := Lib.hid (fun hok W hb => by
  have := P7.refTimes_any s.R hR v W (h.below hb)
  rwa [timesD_ok hok] at this)
 have TT : Hid (okB s.R = true → ((timesR s.R).length : Int) = totalR s.R) := Lib.hid (fun hok => (times_ok hok).total)
 have PT : Hid (AskOk s → ∀ W, Below w.heap.size w W → Calls Tryz.prog 21 #[sgOf s v u] W (fun e w' => ∃ A n c, e = .returned (.tuple #[.slice A n c, .bool (backs (vals s))]) ∧ Below W.heap.size W w')) := Lib.hid (fun ha W hb => by
  by_cases g : s.k = 4
  ·exact (refPoints_raw s ha g v u W (h.below hb) (hu.below hb)).mono (fun _ _ hp => points_bk hp)
  ·exact (refPoints_line s ha g v u W (h.below hb) (hu.below hb)).mono (fun _ _ hp => points_bk hp))
 have RL : Hid (∀ W, Calls Tryz.prog 22 #[lnV s.a s.r s.n s.d] W (Ret W (.bool (lineB s.a s.r s.n s.d)))) := Lib.hid (fun W => Go.Proofs.YtcfidimnbamnkaaGreat.refRight_any s.a s.r s.n s.d W)
 have RK : Hid (∀ W, Calls Tryz.prog 23 #[lnV s.a s.r s.n s.d] W (Ret W (.int .i64 (kindL s.n s.r)))) := Lib.hid (fun W => refKind_any s.a s.r s.n s.d W)
 obtain ⟨k, R, a, r, n, d, V, e⟩ := s
 simp only at hR hV RR TM TT RL RK h hu
 obtain ⟨A9, c9, rfl, _, _⟩ := hu
 unfold sgOf
 unfold sgOf at PT
 simp only at PT ⊢
 cases g1 : okB R
 ·have e5 : segB ⟨k, R, a, r, n, d, V, e⟩ = false := by simp [segB, g1]
  rw [e5]
  rw [g1] at RR
  clear e5 TM TT PT RL RK h
  have hK := new_seg (Below.refl w.heap.size w) 27 k v a r n d (.slice A9 V.length c9) e
  go_enter Tryz.func16, Tryz.ntmps16
  go_wp2_with fail
  refine (RR.out _ hK.1).mono ?_
  rintro e' w1 ⟨rfl, hb⟩
  replace hK := hK.next hb
  clear hb RR
  obtain ⟨⟨kz0,kc0,kf0⟩,⟨kz1,kc1,kf1⟩,⟨kz2,kc2,kf2⟩,⟨kz3,kc3,kf3⟩,⟨kz4,kc4,kf4⟩,⟨kz5,kc5,kf5⟩,⟨kz6,kc6,kf6⟩,⟨kz7,kc7,kf7⟩,_⟩ := hK.2
  go_wp2_with fail
  go_returns
  exact ⟨rfl, hK.1⟩
 rw [g1] at RR
 replace TM := Lib.hid (TM.out g1)
 replace TT := TT.out g1
 by_cases g2 : e < 0
 ·have e5 : segB ⟨k, R, a, r, n, d, V, e⟩ = false := by
   have : ¬ 0 ≤ e := by omega
   simp [segB, this]
  rw [e5]
  clear e5 TM TT PT RL RK h
  have hK := new_seg (Below.refl w.heap.size w) 27 k v a r n d (.slice A9 V.length c9) e
  go_enter Tryz.func16, Tryz.ntmps16
  go_wp2_with fail
  refine (RR.out _ hK.1).mono ?_
  rintro e' w1 ⟨rfl, hb⟩
  replace hK := hK.next hb
  clear hb RR
  obtain ⟨⟨kz0,kc0,kf0⟩,⟨kz1,kc1,kf1⟩,⟨kz2,kc2,kf2⟩,⟨kz3,kc3,kf3⟩,⟨kz4,kc4,kf4⟩,⟨kz5,kc5,kf5⟩,⟨kz6,kc6,kf6⟩,⟨kz7,kc7,kf7⟩,_⟩ := hK.2
  go_wp2_with fail
  go_returns
  exact ⟨rfl, hK.1⟩
 by_cases g3 : 1099511627776 < e
 ·have e5 : segB ⟨k, R, a, r, n, d, V, e⟩ = false := by
   have : ¬ e ≤ 1099511627776 := by omega
   simp [segB, this]
  rw [e5]
  clear e5 TM TT PT RL RK h
  have hK := new_seg (Below.refl w.heap.size w) 27 k v a r n d (.slice A9 V.length c9) e
  go_enter Tryz.func16, Tryz.ntmps16
  go_wp2_with fail
  refine (RR.out _ hK.1).mono ?_
  rintro e' w1 ⟨rfl, hb⟩
  replace hK := hK.next hb
  clear hb RR
  obtain ⟨⟨kz0,kc0,kf0⟩,⟨kz1,kc1,kf1⟩,⟨kz2,kc2,kf2⟩,⟨kz3,kc3,kf3⟩,⟨kz4,kc4,kf4⟩,⟨kz5,kc5,kf5⟩,⟨kz6,kc6,kf6⟩,⟨kz7,kc7,kf7⟩,_⟩ := hK.2
  go_wp2_with fail
  go_returns
  exact ⟨rfl, hK.1⟩
 have g4 : 0 ≤ e := by omega
 have g5 : e ≤ 1099511627776 := by omega
 have SG : segB ⟨k, R, a, r, n, d, V, e⟩ = ((if k = 4 then rawOk ⟨k, R, a, r, n, d, V, e⟩ else lineOk ⟨k, R, a, r, n, d, V, e⟩) && backs (vals ⟨k, R, a, r, n, d, V, e⟩)) := by simp [segB, g1, g4, g5]
 rw [SG]
 have hRO : rawOk ⟨k, R, a, r, n, d, V, e⟩ = (decide (a = 0 ∧ r = 0 ∧ n = 0 ∧ d = 0) && decide ((V.length : Int) = totalR R)) := rfl
 have hLO : lineOk ⟨k, R, a, r, n, d, V, e⟩ = (decide (V.length = 0) && (lineB a r n d && decide (k = kindL n r))) := by
  have h0 : decide (V.length = 0) = decide (V = []) := decide_eq_decide.2 List.length_eq_zero_iff
  rw [h0]
  rfl
 rw [hRO, hLO, ← TT]
 clear SG hRO hLO g4 g5 h
 have PA1 : Hid (k = 4 → (V.length : Int) = ((timesR R).length : Int) → ∀ W, Below w.heap.size w W → Calls Tryz.prog 21 #[.agg #[.int .i64 k, v, .int .i64 a, .int .i64 r, .int .i64 n, .int .i64 d, .slice A9 V.length c9, .int .i64 e]] W (fun e' w' => ∃ A' n' c', e' = .returned (.tuple #[.slice A' n' c', .bool (backs (vals ⟨k, R, a, r, n, d, V, e⟩))]) ∧ Below W.heap.size W w')) := Lib.hid (fun hk hl => PT.out ⟨g1, .inl ⟨hk, by show (V.length : Int) = totalR R; rw [← TT]; exact hl⟩⟩)
 have PA2 : Hid (k ≠ 4 → lineB a r n d = true → ∀ W, Below w.heap.size w W → Calls Tryz.prog 21 #[.agg #[.int .i64 k, v, .int .i64 a, .int .i64 r, .int .i64 n, .int .i64 d, .slice A9 V.length c9, .int .i64 e]] W (fun e' w' => ∃ A' n' c', e' = .returned (.tuple #[.slice A' n' c', .bool (backs (vals ⟨k, R, a, r, n, d, V, e⟩))]) ∧ Below W.heap.size W w')) := Lib.hid (fun hk hl => PT.out ⟨g1, .inr ⟨hk, hl⟩⟩)
 clear PT g1 TT
 generalize backs (vals ⟨k, R, a, r, n, d, V, e⟩) = bk at *
 replace TM : Hid (∀ W, Below w.heap.size w W → Calls Tryz.prog 56 #[v] W (fun e' w' => ∃ A c, e' = .returned (.slice A (timesR R).length c) ∧ Below W.heap.size W w')) := Lib.hid (fun W hb => (TM.out W hb).mono (fun _ _ ⟨vt, h1, h2, h3⟩ => by
  obtain ⟨A2, c2, rfl, _, _⟩ := reads_own (k := .i64) (show World.ownsRow _ _ _ _ _ _ _ from h3)
  exact ⟨A2, c2, h1, h2⟩))
 generalize (timesR R).length = M at *
 generalize V.length = N at *
 generalize kindL n r = kl at *
 have q2 : ¬ e < 0 := g2
 have q3 : ¬ 1099511627776 < e := g3
 clear g2 g3 hR hV
 by_cases hk : k = 4
 ·subst hk
  rw [if_pos rfl]
  replace PA1 := Lib.hid (PA1.out rfl)
  clear PA2 RL RK
  by_cases ga : a = 0
  rotate_left
  ·have t5 : (a == 0) = false := by simpa using ga
   have e5 : (decide (a = 0 ∧ r = 0 ∧ n = 0 ∧ d = 0) && decide ((N : Int) = (M : Int)) && bk) = false := by simp [ga]
   rw [e5]
   clear e5 ga PA1 TM
   have hK := new_seg (Below.refl w.heap.size w) 27 4 v a r n d (.slice A9 N c9) e
   go_enter Tryz.func16, Tryz.ntmps16
   go_wp2_with fail
   refine (RR.out _ hK.1).mono ?_
   rintro e' w1 ⟨rfl, hb⟩
   replace hK := hK.next hb
   clear hb RR
   obtain ⟨⟨kz0,kc0,kf0⟩,⟨kz1,kc1,kf1⟩,⟨kz2,kc2,kf2⟩,⟨kz3,kc3,kf3⟩,⟨kz4,kc4,kf4⟩,⟨kz5,kc5,kf5⟩,⟨kz6,kc6,kf6⟩,⟨kz7,kc7,kf7⟩,_⟩ := hK.2
   go_upto_region 4 with (fail)
   (try clear hHeld0); (try clear hHeld1); (try clear hHeld2); (try clear kz0 kc0 kf0); (try clear kz1 kc1 kf1); (try clear kz2 kc2 kf2); (try clear kz3 kc3 kf3); (try clear kz4 kc4 kf4); (try clear kz5 kc5 kf5); (try clear kz6 kc6 kf6); (try clear kz7 kc7 kf7)
   refine region_keeps (w0 := w) (L := [(w.heap.size, 0, .int .i64 4), (w.heap.size, 1, v), (w.heap.size, 2, .int .i64 a), (w.heap.size, 3, .int .i64 r), (w.heap.size, 4, .int .i64 n), (w.heap.size, 5, .int .i64 d), (w.heap.size, 6, .slice A9 N c9), (w.heap.size, 7, .int .i64 e)]) (by kernel_rfl) hK (fun hHeld0 => ?_)
   refine tv 0 22 rfl rfl ?_
   try go_frame
   refine tk 1 23 rfl rfl ?_ ?_ ?_
   rotate_left
   ·intro wq hSw; obtain ⟨⟨_,_,_⟩,⟨_,_,_⟩,⟨_,_,_⟩,⟨_,_,_⟩,⟨_,_,_⟩,⟨_,_,_⟩,⟨_,_,_⟩,⟨_,_,_⟩,_⟩ := hSw.2; go_simp; (try with_reducible rfl)
   try go_frame
   refine tv 2 24 rfl rfl ?_
   try go_frame
   refine tv 3 25 rfl rfl ?_
   try go_frame
   refine tv 4 26 rfl rfl ?_
   try go_frame
   refine tu 5 27 rfl rfl ?_
   try go_frame
   refine tu 6 28 rfl rfl ?_
   try go_frame
   refine tu 7 29 rfl rfl ?_
   try go_frame
   refine tu 8 30 rfl rfl ?_
   try go_frame
   refine tu 9 31 rfl rfl ?_
   try go_frame
   refine tu 10 32 rfl rfl ?_
   try go_frame
   refine tu 11 33 rfl rfl ?_
   try go_frame
   refine tu 12 34 rfl rfl ?_
   try go_frame
   refine tv 13 35 rfl rfl ?_
   try go_frame
   refine wpAnyH_done (by kernel_rfl) ?_ _
   have hHeld := hHeld0
   obtain ⟨⟨kz0,kc0,kf0⟩,⟨kz1,kc1,kf1⟩,⟨kz2,kc2,kf2⟩,⟨kz3,kc3,kf3⟩,⟨kz4,kc4,kf4⟩,⟨kz5,kc5,kf5⟩,⟨kz6,kc6,kf6⟩,⟨kz7,kc7,kf7⟩,_⟩ := hHeld.2
   all_goals
    (try clear hHeld0); (try clear hHeld1); (try clear hHeld2); (try clear kz0 kc0 kf0); (try clear kz1 kc1 kf1); (try clear kz2 kc2 kf2); (try clear kz3 kc3 kf3); (try clear kz4 kc4 kf4); (try clear kz5 kc5 kf5); (try clear kz6 kc6 kf6); (try clear kz7 kc7 kf7)
    go_wp2_with fail
    go_returns
    exact ⟨rfl, hHeld.1⟩
  subst ga
  by_cases gr : r = 0
  rotate_left
  ·have t5 : (r == 0) = false := by simpa using gr
   have e5 : (decide ((0 : Int) = 0 ∧ r = 0 ∧ n = 0 ∧ d = 0) && decide ((N : Int) = (M : Int)) && bk) = false := by simp [gr]
   rw [e5]
   clear e5 gr PA1 TM
   have hK := new_seg (Below.refl w.heap.size w) 27 4 v 0 r n d (.slice A9 N c9) e
   go_enter Tryz.func16, Tryz.ntmps16
   go_wp2_with fail
   refine (RR.out _ hK.1).mono ?_
   rintro e' w1 ⟨rfl, hb⟩
   replace hK := hK.next hb
   clear hb RR
   obtain ⟨⟨kz0,kc0,kf0⟩,⟨kz1,kc1,kf1⟩,⟨kz2,kc2,kf2⟩,⟨kz3,kc3,kf3⟩,⟨kz4,kc4,kf4⟩,⟨kz5,kc5,kf5⟩,⟨kz6,kc6,kf6⟩,⟨kz7,kc7,kf7⟩,_⟩ := hK.2
   go_upto_region 4 with (fail)
   (try clear hHeld0); (try clear hHeld1); (try clear hHeld2); (try clear kz0 kc0 kf0); (try clear kz1 kc1 kf1); (try clear kz2 kc2 kf2); (try clear kz3 kc3 kf3); (try clear kz4 kc4 kf4); (try clear kz5 kc5 kf5); (try clear kz6 kc6 kf6); (try clear kz7 kc7 kf7)
   refine region_keeps (w0 := w) (L := [(w.heap.size, 0, .int .i64 4), (w.heap.size, 1, v), (w.heap.size, 2, .int .i64 0), (w.heap.size, 3, .int .i64 r), (w.heap.size, 4, .int .i64 n), (w.heap.size, 5, .int .i64 d), (w.heap.size, 6, .slice A9 N c9), (w.heap.size, 7, .int .i64 e)]) (by kernel_rfl) hK (fun hHeld0 => ?_)
   refine tv 0 22 rfl rfl ?_
   try go_frame
   refine tk 1 23 rfl rfl ?_ ?_ ?_
   rotate_left
   ·intro wq hSw; obtain ⟨⟨_,_,_⟩,⟨_,_,_⟩,⟨_,_,_⟩,⟨_,_,_⟩,⟨_,_,_⟩,⟨_,_,_⟩,⟨_,_,_⟩,⟨_,_,_⟩,_⟩ := hSw.2; go_simp; (try with_reducible rfl)
   try go_frame
   refine tv 2 24 rfl rfl ?_
   try go_frame
   refine tv 3 25 rfl rfl ?_
   try go_frame
   refine tv 4 26 rfl rfl ?_
   try go_frame
   refine tu 5 27 rfl rfl ?_
   try go_frame
   refine tu 6 28 rfl rfl ?_
   try go_frame
   refine tu 7 29 rfl rfl ?_
   try go_frame
   refine tu 8 30 rfl rfl ?_
   try go_frame
   refine tu 9 31 rfl rfl ?_
   try go_frame
   refine tu 10 32 rfl rfl ?_
   try go_frame
   refine tu 11 33 rfl rfl ?_
   try go_frame
   refine tu 12 34 rfl rfl ?_
   try go_frame
   refine tv 13 35 rfl rfl ?_
   try go_frame
   refine wpAnyH_done (by kernel_rfl) ?_ _
   have hHeld := hHeld0
   obtain ⟨⟨kz0,kc0,kf0⟩,⟨kz1,kc1,kf1⟩,⟨kz2,kc2,kf2⟩,⟨kz3,kc3,kf3⟩,⟨kz4,kc4,kf4⟩,⟨kz5,kc5,kf5⟩,⟨kz6,kc6,kf6⟩,⟨kz7,kc7,kf7⟩,_⟩ := hHeld.2
   all_goals
    (try clear hHeld0); (try clear hHeld1); (try clear hHeld2); (try clear kz0 kc0 kf0); (try clear kz1 kc1 kf1); (try clear kz2 kc2 kf2); (try clear kz3 kc3 kf3); (try clear kz4 kc4 kf4); (try clear kz5 kc5 kf5); (try clear kz6 kc6 kf6); (try clear kz7 kc7 kf7)
    go_wp2_with fail
    go_returns
    exact ⟨rfl, hHeld.1⟩
  subst gr
  by_cases gn : n = 0
  rotate_left
  ·have t5 : (n == 0) = false := by simpa using gn
   have e5 : (decide ((0 : Int) = 0 ∧ (0 : Int) = 0 ∧ n = 0 ∧ d = 0) && decide ((N : Int) = (M : Int)) && bk) = false := by simp [gn]
   rw [e5]
   clear e5 gn PA1 TM
   have hK := new_seg (Below.refl w.heap.size w) 27 4 v 0 0 n d (.slice A9 N c9) e
   go_enter Tryz.func16, Tryz.ntmps16
   go_wp2_with fail
   refine (RR.out _ hK.1).mono ?_
   rintro e' w1 ⟨rfl, hb⟩
   replace hK := hK.next hb
   clear hb RR
   obtain ⟨⟨kz0,kc0,kf0⟩,⟨kz1,kc1,kf1⟩,⟨kz2,kc2,kf2⟩,⟨kz3,kc3,kf3⟩,⟨kz4,kc4,kf4⟩,⟨kz5,kc5,kf5⟩,⟨kz6,kc6,kf6⟩,⟨kz7,kc7,kf7⟩,_⟩ := hK.2
   go_upto_region 4 with (fail)
   (try clear hHeld0); (try clear hHeld1); (try clear hHeld2); (try clear kz0 kc0 kf0); (try clear kz1 kc1 kf1); (try clear kz2 kc2 kf2); (try clear kz3 kc3 kf3); (try clear kz4 kc4 kf4); (try clear kz5 kc5 kf5); (try clear kz6 kc6 kf6); (try clear kz7 kc7 kf7)
   refine region_keeps (w0 := w) (L := [(w.heap.size, 0, .int .i64 4), (w.heap.size, 1, v), (w.heap.size, 2, .int .i64 0), (w.heap.size, 3, .int .i64 0), (w.heap.size, 4, .int .i64 n), (w.heap.size, 5, .int .i64 d), (w.heap.size, 6, .slice A9 N c9), (w.heap.size, 7, .int .i64 e)]) (by kernel_rfl) hK (fun hHeld0 => ?_)
   refine tv 0 22 rfl rfl ?_
   try go_frame
   refine tk 1 23 rfl rfl ?_ ?_ ?_
   rotate_left
   ·intro wq hSw; obtain ⟨⟨_,_,_⟩,⟨_,_,_⟩,⟨_,_,_⟩,⟨_,_,_⟩,⟨_,_,_⟩,⟨_,_,_⟩,⟨_,_,_⟩,⟨_,_,_⟩,_⟩ := hSw.2; go_simp; (try with_reducible rfl)
   try go_frame
   refine tv 2 24 rfl rfl ?_
   try go_frame
   refine tv 3 25 rfl rfl ?_
   try go_frame
   refine tv 4 26 rfl rfl ?_
   try go_frame
   refine tu 5 27 rfl rfl ?_
   try go_frame
   refine tu 6 28 rfl rfl ?_
   try go_frame
   refine tu 7 29 rfl rfl ?_
   try go_frame
   refine tu 8 30 rfl rfl ?_
   try go_frame
   refine tu 9 31 rfl rfl ?_
   try go_frame
   refine tu 10 32 rfl rfl ?_
   try go_frame
   refine tu 11 33 rfl rfl ?_
   try go_frame
   refine tu 12 34 rfl rfl ?_
   try go_frame
   refine tv 13 35 rfl rfl ?_
   try go_frame
   refine wpAnyH_done (by kernel_rfl) ?_ _
   have hHeld := hHeld0
   obtain ⟨⟨kz0,kc0,kf0⟩,⟨kz1,kc1,kf1⟩,⟨kz2,kc2,kf2⟩,⟨kz3,kc3,kf3⟩,⟨kz4,kc4,kf4⟩,⟨kz5,kc5,kf5⟩,⟨kz6,kc6,kf6⟩,⟨kz7,kc7,kf7⟩,_⟩ := hHeld.2
   all_goals
    (try clear hHeld0); (try clear hHeld1); (try clear hHeld2); (try clear kz0 kc0 kf0); (try clear kz1 kc1 kf1); (try clear kz2 kc2 kf2); (try clear kz3 kc3 kf3); (try clear kz4 kc4 kf4); (try clear kz5 kc5 kf5); (try clear kz6 kc6 kf6); (try clear kz7 kc7 kf7)
    go_wp2_with fail
    go_returns
    exact ⟨rfl, hHeld.1⟩
  subst gn
  by_cases gd : d = 0
  rotate_left
  ·have t5 : (d == 0) = false := by simpa using gd
   have e5 : (decide ((0 : Int) = 0 ∧ (0 : Int) = 0 ∧ (0 : Int) = 0 ∧ d = 0) && decide ((N : Int) = (M : Int)) && bk) = false := by simp [gd]
   rw [e5]
   clear e5 gd PA1 TM
   have hK := new_seg (Below.refl w.heap.size w) 27 4 v 0 0 0 d (.slice A9 N c9) e
   go_enter Tryz.func16, Tryz.ntmps16
   go_wp2_with fail
   refine (RR.out _ hK.1).mono ?_
   rintro e' w1 ⟨rfl, hb⟩
   replace hK := hK.next hb
   clear hb RR
   obtain ⟨⟨kz0,kc0,kf0⟩,⟨kz1,kc1,kf1⟩,⟨kz2,kc2,kf2⟩,⟨kz3,kc3,kf3⟩,⟨kz4,kc4,kf4⟩,⟨kz5,kc5,kf5⟩,⟨kz6,kc6,kf6⟩,⟨kz7,kc7,kf7⟩,_⟩ := hK.2
   go_upto_region 4 with (fail)
   (try clear hHeld0); (try clear hHeld1); (try clear hHeld2); (try clear kz0 kc0 kf0); (try clear kz1 kc1 kf1); (try clear kz2 kc2 kf2); (try clear kz3 kc3 kf3); (try clear kz4 kc4 kf4); (try clear kz5 kc5 kf5); (try clear kz6 kc6 kf6); (try clear kz7 kc7 kf7)
   refine region_keeps (w0 := w) (L := [(w.heap.size, 0, .int .i64 4), (w.heap.size, 1, v), (w.heap.size, 2, .int .i64 0), (w.heap.size, 3, .int .i64 0), (w.heap.size, 4, .int .i64 0), (w.heap.size, 5, .int .i64 d), (w.heap.size, 6, .slice A9 N c9), (w.heap.size, 7, .int .i64 e)]) (by kernel_rfl) hK (fun hHeld0 => ?_)
   refine tv 0 22 rfl rfl ?_
   try go_frame
   refine tk 1 23 rfl rfl ?_ ?_ ?_
   rotate_left
   ·intro wq hSw; obtain ⟨⟨_,_,_⟩,⟨_,_,_⟩,⟨_,_,_⟩,⟨_,_,_⟩,⟨_,_,_⟩,⟨_,_,_⟩,⟨_,_,_⟩,⟨_,_,_⟩,_⟩ := hSw.2; go_simp; (try with_reducible rfl)
   try go_frame
   refine tv 2 24 rfl rfl ?_
   try go_frame
   refine tv 3 25 rfl rfl ?_
   try go_frame
   refine tv 4 26 rfl rfl ?_
   try go_frame
   refine tu 5 27 rfl rfl ?_
   try go_frame
   refine tu 6 28 rfl rfl ?_
   try go_frame
   refine tu 7 29 rfl rfl ?_
   try go_frame
   refine tu 8 30 rfl rfl ?_
   try go_frame
   refine tu 9 31 rfl rfl ?_
   try go_frame
   refine tu 10 32 rfl rfl ?_
   try go_frame
   refine tu 11 33 rfl rfl ?_
   try go_frame
   refine tu 12 34 rfl rfl ?_
   try go_frame
   refine tv 13 35 rfl rfl ?_
   try go_frame
   refine wpAnyH_done (by kernel_rfl) ?_ _
   have hHeld := hHeld0
   obtain ⟨⟨kz0,kc0,kf0⟩,⟨kz1,kc1,kf1⟩,⟨kz2,kc2,kf2⟩,⟨kz3,kc3,kf3⟩,⟨kz4,kc4,kf4⟩,⟨kz5,kc5,kf5⟩,⟨kz6,kc6,kf6⟩,⟨kz7,kc7,kf7⟩,_⟩ := hHeld.2
   all_goals
    (try clear hHeld0); (try clear hHeld1); (try clear hHeld2); (try clear kz0 kc0 kf0); (try clear kz1 kc1 kf1); (try clear kz2 kc2 kf2); (try clear kz3 kc3 kf3); (try clear kz4 kc4 kf4); (try clear kz5 kc5 kf5); (try clear kz6 kc6 kf6); (try clear kz7 kc7 kf7)
    go_wp2_with fail
    go_returns
    exact ⟨rfl, hHeld.1⟩
  subst gd
  by_cases g6 : (N : Int) = (M : Int)
  ·have t5 : ((N : Int) == (M : Int)) = true := by simpa using g6
   have e5 : (decide ((0 : Int) = 0 ∧ (0 : Int) = 0 ∧ (0 : Int) = 0 ∧ (0 : Int) = 0) && decide ((N : Int) = (M : Int)) && bk) = bk := by simp [g6]
   rw [e5]
   replace PA1 := Lib.hid (PA1.out g6)
   clear e5 g6
   have hK := new_seg (Below.refl w.heap.size w) 27 4 v 0 0 0 0 (.slice A9 N c9) e
   go_enter Tryz.func16, Tryz.ntmps16
   go_wp2_with fail
   refine (RR.out _ hK.1).mono ?_
   rintro e' w1 ⟨rfl, hb⟩
   replace hK := hK.next hb
   clear hb RR
   obtain ⟨⟨kz0,kc0,kf0⟩,⟨kz1,kc1,kf1⟩,⟨kz2,kc2,kf2⟩,⟨kz3,kc3,kf3⟩,⟨kz4,kc4,kf4⟩,⟨kz5,kc5,kf5⟩,⟨kz6,kc6,kf6⟩,⟨kz7,kc7,kf7⟩,_⟩ := hK.2
   go_upto_region 4 with (fail)
   (try clear hHeld0); (try clear hHeld1); (try clear hHeld2); (try clear kz0 kc0 kf0); (try clear kz1 kc1 kf1); (try clear kz2 kc2 kf2); (try clear kz3 kc3 kf3); (try clear kz4 kc4 kf4); (try clear kz5 kc5 kf5); (try clear kz6 kc6 kf6); (try clear kz7 kc7 kf7)
   refine region_keeps (w0 := w) (L := [(w.heap.size, 0, .int .i64 4), (w.heap.size, 1, v), (w.heap.size, 2, .int .i64 0), (w.heap.size, 3, .int .i64 0), (w.heap.size, 4, .int .i64 0), (w.heap.size, 5, .int .i64 0), (w.heap.size, 6, .slice A9 N c9), (w.heap.size, 7, .int .i64 e)]) (by kernel_rfl) hK (fun hHeld0 => ?_)
   refine tv 0 22 rfl rfl ?_
   try go_frame
   refine tk 1 23 rfl rfl ?_ ?_ ?_
   rotate_left
   ·intro wq hSw; obtain ⟨⟨_,_,_⟩,⟨_,_,_⟩,⟨_,_,_⟩,⟨_,_,_⟩,⟨_,_,_⟩,⟨_,_,_⟩,⟨_,_,_⟩,⟨_,_,_⟩,_⟩ := hSw.2; go_simp; (try with_reducible rfl)
   try go_frame
   refine tv 2 24 rfl rfl ?_
   try go_frame
   refine tv 3 25 rfl rfl ?_
   try go_frame
   refine tv 4 26 rfl rfl ?_
   try go_frame
   refine tv 5 27 rfl rfl ?_
   try go_frame
   refine tk 6 28 rfl rfl ?_ ?_ ?_
   rotate_left
   ·intro wq hSw; obtain ⟨⟨_,_,_⟩,⟨_,_,_⟩,⟨_,_,_⟩,⟨_,_,_⟩,⟨_,_,_⟩,⟨_,_,_⟩,⟨_,_,_⟩,⟨_,_,_⟩,_⟩ := hSw.2; go_simp; (try with_reducible rfl)
   try go_frame
   refine tv 7 29 rfl rfl ?_
   try go_frame
   refine tv 8 30 rfl rfl ?_
   try go_frame
   refine tk 9 31 rfl rfl ?_ ?_ ?_
   rotate_left
   ·intro wq hSw; obtain ⟨⟨_,_,_⟩,⟨_,_,_⟩,⟨_,_,_⟩,⟨_,_,_⟩,⟨_,_,_⟩,⟨_,_,_⟩,⟨_,_,_⟩,⟨_,_,_⟩,_⟩ := hSw.2; go_simp; (try with_reducible rfl)
   try go_frame
   refine ty [10] ?_
   refine AllReadyH.cons rfl (fun K hK => ?_) AllReadyH.nil
   go_simp
   (have hB0 := hHeld0.1; (with_reducible refine (TM.out _ hB0).mono ?_); clear hB0; rintro e w2 ⟨A2, c2, rfl, hb⟩)
   refine hK.out _ _ (hHeld0.next hb) (fun hHeld1 => ?_)
   clear hK K; try clear hb
   try go_frame
   refine tv 11 33 rfl rfl ?_
   try go_frame
   refine tv 12 34 rfl rfl ?_
   try go_frame
   refine tv 13 35 rfl rfl ?_
   try go_frame
   refine wpAnyH_done (by kernel_rfl) ?_ _
   have hHeld := hHeld1
   obtain ⟨⟨kz0,kc0,kf0⟩,⟨kz1,kc1,kf1⟩,⟨kz2,kc2,kf2⟩,⟨kz3,kc3,kf3⟩,⟨kz4,kc4,kf4⟩,⟨kz5,kc5,kf5⟩,⟨kz6,kc6,kf6⟩,⟨kz7,kc7,kf7⟩,_⟩ := hHeld.2
   all_goals
    have hH9 := hHeld
    (try clear hHeld0); (try clear hHeld1); (try clear hHeld2); (try clear kz0 kc0 kf0); (try clear kz1 kc1 kf1); (try clear kz2 kc2 kf2); (try clear kz3 kc3 kf3); (try clear kz4 kc4 kf4); (try clear kz5 kc5 kf5); (try clear kz6 kc6 kf6); (try clear kz7 kc7 kf7)
    obtain ⟨⟨kz0,kc0,kf0⟩,⟨kz1,kc1,kf1⟩,⟨kz2,kc2,kf2⟩,⟨kz3,kc3,kf3⟩,⟨kz4,kc4,kf4⟩,⟨kz5,kc5,kf5⟩,⟨kz6,kc6,kf6⟩,⟨kz7,kc7,kf7⟩,_⟩ := hH9.2
    clear hHeld
    go_wp2_with fail
    refine (PA1.out _ hH9.1).mono ?_
    rintro e' w5 ⟨A7, n7, c7, rfl, hb⟩
    have hB7 := under hH9.1 hb
    clear hH9 hb
    (try clear hHeld0); (try clear hHeld1); (try clear hHeld2); (try clear kz0 kc0 kf0); (try clear kz1 kc1 kf1); (try clear kz2 kc2 kf2); (try clear kz3 kc3 kf3); (try clear kz4 kc4 kf4); (try clear kz5 kc5 kf5); (try clear kz6 kc6 kf6); (try clear kz7 kc7 kf7)
    go_wp2_with fail
    go_returns
    exact ⟨rfl, hB7⟩
  ·have t5 : ((N : Int) == (M : Int)) = false := by simpa using g6
   have e5 : (decide ((0 : Int) = 0 ∧ (0 : Int) = 0 ∧ (0 : Int) = 0 ∧ (0 : Int) = 0) && decide ((N : Int) = (M : Int)) && bk) = false := by simp [g6]
   rw [e5]
   clear e5 g6 PA1
   have hK := new_seg (Below.refl w.heap.size w) 27 4 v 0 0 0 0 (.slice A9 N c9) e
   go_enter Tryz.func16, Tryz.ntmps16
   go_wp2_with fail
   refine (RR.out _ hK.1).mono ?_
   rintro e' w1 ⟨rfl, hb⟩
   replace hK := hK.next hb
   clear hb RR
   obtain ⟨⟨kz0,kc0,kf0⟩,⟨kz1,kc1,kf1⟩,⟨kz2,kc2,kf2⟩,⟨kz3,kc3,kf3⟩,⟨kz4,kc4,kf4⟩,⟨kz5,kc5,kf5⟩,⟨kz6,kc6,kf6⟩,⟨kz7,kc7,kf7⟩,_⟩ := hK.2
   go_upto_region 4 with (fail)
   (try clear hHeld0); (try clear hHeld1); (try clear hHeld2); (try clear kz0 kc0 kf0); (try clear kz1 kc1 kf1); (try clear kz2 kc2 kf2); (try clear kz3 kc3 kf3); (try clear kz4 kc4 kf4); (try clear kz5 kc5 kf5); (try clear kz6 kc6 kf6); (try clear kz7 kc7 kf7)
   refine region_keeps (w0 := w) (L := [(w.heap.size, 0, .int .i64 4), (w.heap.size, 1, v), (w.heap.size, 2, .int .i64 0), (w.heap.size, 3, .int .i64 0), (w.heap.size, 4, .int .i64 0), (w.heap.size, 5, .int .i64 0), (w.heap.size, 6, .slice A9 N c9), (w.heap.size, 7, .int .i64 e)]) (by kernel_rfl) hK (fun hHeld0 => ?_)
   refine tv 0 22 rfl rfl ?_
   try go_frame
   refine tk 1 23 rfl rfl ?_ ?_ ?_
   rotate_left
   ·intro wq hSw; obtain ⟨⟨_,_,_⟩,⟨_,_,_⟩,⟨_,_,_⟩,⟨_,_,_⟩,⟨_,_,_⟩,⟨_,_,_⟩,⟨_,_,_⟩,⟨_,_,_⟩,_⟩ := hSw.2; go_simp; (try with_reducible rfl)
   try go_frame
   refine tv 2 24 rfl rfl ?_
   try go_frame
   refine tv 3 25 rfl rfl ?_
   try go_frame
   refine tv 4 26 rfl rfl ?_
   try go_frame
   refine tv 5 27 rfl rfl ?_
   try go_frame
   refine tk 6 28 rfl rfl ?_ ?_ ?_
   rotate_left
   ·intro wq hSw; obtain ⟨⟨_,_,_⟩,⟨_,_,_⟩,⟨_,_,_⟩,⟨_,_,_⟩,⟨_,_,_⟩,⟨_,_,_⟩,⟨_,_,_⟩,⟨_,_,_⟩,_⟩ := hSw.2; go_simp; (try with_reducible rfl)
   try go_frame
   refine tv 7 29 rfl rfl ?_
   try go_frame
   refine tv 8 30 rfl rfl ?_
   try go_frame
   refine tk 9 31 rfl rfl ?_ ?_ ?_
   rotate_left
   ·intro wq hSw; obtain ⟨⟨_,_,_⟩,⟨_,_,_⟩,⟨_,_,_⟩,⟨_,_,_⟩,⟨_,_,_⟩,⟨_,_,_⟩,⟨_,_,_⟩,⟨_,_,_⟩,_⟩ := hSw.2; go_simp; (try with_reducible rfl)
   try go_frame
   refine ty [10] ?_
   refine AllReadyH.cons rfl (fun K hK => ?_) AllReadyH.nil
   go_simp
   (have hB0 := hHeld0.1; (with_reducible refine (TM.out _ hB0).mono ?_); clear hB0; rintro e w2 ⟨A2, c2, rfl, hb⟩)
   refine hK.out _ _ (hHeld0.next hb) (fun hHeld1 => ?_)
   clear hK K; try clear hb
   try go_frame
   refine tv 11 33 rfl rfl ?_
   try go_frame
   refine tv 12 34 rfl rfl ?_
   try go_frame
   refine tv 13 35 rfl rfl ?_
   try go_frame
   refine wpAnyH_done (by kernel_rfl) ?_ _
   have hHeld := hHeld1
   obtain ⟨⟨kz0,kc0,kf0⟩,⟨kz1,kc1,kf1⟩,⟨kz2,kc2,kf2⟩,⟨kz3,kc3,kf3⟩,⟨kz4,kc4,kf4⟩,⟨kz5,kc5,kf5⟩,⟨kz6,kc6,kf6⟩,⟨kz7,kc7,kf7⟩,_⟩ := hHeld.2
   all_goals
    (try clear hHeld0); (try clear hHeld1); (try clear hHeld2); (try clear kz0 kc0 kf0); (try clear kz1 kc1 kf1); (try clear kz2 kc2 kf2); (try clear kz3 kc3 kf3); (try clear kz4 kc4 kf4); (try clear kz5 kc5 kf5); (try clear kz6 kc6 kf6); (try clear kz7 kc7 kf7)
    go_wp2_with fail
    go_returns
    exact ⟨rfl, hHeld.1⟩
 ·have t4 : (k == 4) = false := by simpa using hk
  rw [if_neg hk]
  replace PA2 := Lib.hid (PA2.out hk)
  clear PA1 TM
  by_cases g6 : N = 0
  rotate_left
  ·have t5 : (0 : Int) < (N : Int) := by omega
   have t6 : 0 < N := by omega
   have e5 : (decide (N = 0) && (lineB a r n d && decide (k = kl)) && bk) = false := by simp [g6]
   rw [e5]
   clear e5 g6 PA2 RL RK
   have hK := new_seg (Below.refl w.heap.size w) 27 k v a r n d (.slice A9 N c9) e
   go_enter Tryz.func16, Tryz.ntmps16
   go_wp2_with fail
   refine (RR.out _ hK.1).mono ?_
   rintro e' w1 ⟨rfl, hb⟩
   replace hK := hK.next hb
   clear hb RR
   obtain ⟨⟨kz0,kc0,kf0⟩,⟨kz1,kc1,kf1⟩,⟨kz2,kc2,kf2⟩,⟨kz3,kc3,kf3⟩,⟨kz4,kc4,kf4⟩,⟨kz5,kc5,kf5⟩,⟨kz6,kc6,kf6⟩,⟨kz7,kc7,kf7⟩,_⟩ := hK.2
   go_upto_region 6 with (fail)
   (try clear hHeld0); (try clear hHeld1); (try clear hHeld2); (try clear kz0 kc0 kf0); (try clear kz1 kc1 kf1); (try clear kz2 kc2 kf2); (try clear kz3 kc3 kf3); (try clear kz4 kc4 kf4); (try clear kz5 kc5 kf5); (try clear kz6 kc6 kf6); (try clear kz7 kc7 kf7)
   refine region_keeps (w0 := w) (L := [(w.heap.size, 0, .int .i64 k), (w.heap.size, 1, v), (w.heap.size, 2, .int .i64 a), (w.heap.size, 3, .int .i64 r), (w.heap.size, 4, .int .i64 n), (w.heap.size, 5, .int .i64 d), (w.heap.size, 6, .slice A9 N c9), (w.heap.size, 7, .int .i64 e)]) (by kernel_rfl) hK (fun hHeld0 => ?_)
   refine tv 0 36 rfl rfl ?_
   try go_frame
   refine tk 1 37 rfl rfl ?_ ?_ ?_
   rotate_left
   ·intro wq hSw; obtain ⟨⟨_,_,_⟩,⟨_,_,_⟩,⟨_,_,_⟩,⟨_,_,_⟩,⟨_,_,_⟩,⟨_,_,_⟩,⟨_,_,_⟩,⟨_,_,_⟩,_⟩ := hSw.2; go_simp; (try with_reducible rfl)
   try go_frame
   refine tv 2 38 rfl rfl ?_
   try go_frame
   refine tv 3 39 rfl rfl ?_
   try go_frame
   refine tv 4 40 rfl rfl ?_
   try go_frame
   refine tu 5 41 rfl rfl ?_
   try go_frame
   refine tu 6 42 rfl rfl ?_
   try go_frame
   refine tu 7 43 rfl rfl ?_
   try go_frame
   refine tu 8 44 rfl rfl ?_
   try go_frame
   refine tv 9 45 rfl rfl ?_
   try go_frame
   refine tv 10 46 rfl rfl ?_
   try go_frame
   refine tu 11 47 rfl rfl ?_
   try go_frame
   refine tu 12 48 rfl rfl ?_
   try go_frame
   refine tu 13 49 rfl rfl ?_
   try go_frame
   refine tu 14 50 rfl rfl ?_
   try go_frame
   refine tu 15 51 rfl rfl ?_
   try go_frame
   refine tu 16 52 rfl rfl ?_
   try go_frame
   refine tv 17 53 rfl rfl ?_
   try go_frame
   refine wpAnyH_done (by kernel_rfl) ?_ _
   have hHeld := hHeld0
   obtain ⟨⟨kz0,kc0,kf0⟩,⟨kz1,kc1,kf1⟩,⟨kz2,kc2,kf2⟩,⟨kz3,kc3,kf3⟩,⟨kz4,kc4,kf4⟩,⟨kz5,kc5,kf5⟩,⟨kz6,kc6,kf6⟩,⟨kz7,kc7,kf7⟩,_⟩ := hHeld.2
   all_goals
    (try clear hHeld0); (try clear hHeld1); (try clear hHeld2); (try clear kz0 kc0 kf0); (try clear kz1 kc1 kf1); (try clear kz2 kc2 kf2); (try clear kz3 kc3 kf3); (try clear kz4 kc4 kf4); (try clear kz5 kc5 kf5); (try clear kz6 kc6 kf6); (try clear kz7 kc7 kf7)
    go_wp2_with fail
    go_returns
    exact ⟨rfl, hHeld.1⟩
  subst g6
  cases gl : lineB a r n d
  ·rw [gl] at RL
   have e5 : (decide ((0 : Nat) = 0) && (false && decide (k = kl)) && bk) = false := by simp
   rw [e5]
   clear e5 gl PA2 RK
   have hK := new_seg (Below.refl w.heap.size w) 27 k v a r n d (.slice A9 0 c9) e
   go_enter Tryz.func16, Tryz.ntmps16
   go_wp2_with fail
   refine (RR.out _ hK.1).mono ?_
   rintro e' w1 ⟨rfl, hb⟩
   replace hK := hK.next hb
   clear hb RR
   obtain ⟨⟨kz0,kc0,kf0⟩,⟨kz1,kc1,kf1⟩,⟨kz2,kc2,kf2⟩,⟨kz3,kc3,kf3⟩,⟨kz4,kc4,kf4⟩,⟨kz5,kc5,kf5⟩,⟨kz6,kc6,kf6⟩,⟨kz7,kc7,kf7⟩,_⟩ := hK.2
   go_upto_region 6 with (fail)
   (try clear hHeld0); (try clear hHeld1); (try clear hHeld2); (try clear kz0 kc0 kf0); (try clear kz1 kc1 kf1); (try clear kz2 kc2 kf2); (try clear kz3 kc3 kf3); (try clear kz4 kc4 kf4); (try clear kz5 kc5 kf5); (try clear kz6 kc6 kf6); (try clear kz7 kc7 kf7)
   refine region_keeps (w0 := w) (L := [(w.heap.size, 0, .int .i64 k), (w.heap.size, 1, v), (w.heap.size, 2, .int .i64 a), (w.heap.size, 3, .int .i64 r), (w.heap.size, 4, .int .i64 n), (w.heap.size, 5, .int .i64 d), (w.heap.size, 6, .slice A9 0 c9), (w.heap.size, 7, .int .i64 e)]) (by kernel_rfl) hK (fun hHeld0 => ?_)
   refine tv 0 36 rfl rfl ?_
   try go_frame
   refine tk 1 37 rfl rfl ?_ ?_ ?_
   rotate_left
   ·intro wq hSw; obtain ⟨⟨_,_,_⟩,⟨_,_,_⟩,⟨_,_,_⟩,⟨_,_,_⟩,⟨_,_,_⟩,⟨_,_,_⟩,⟨_,_,_⟩,⟨_,_,_⟩,_⟩ := hSw.2; go_simp; (try with_reducible rfl)
   try go_frame
   refine tv 2 38 rfl rfl ?_
   try go_frame
   refine tv 3 39 rfl rfl ?_
   try go_frame
   refine tv 4 40 rfl rfl ?_
   try go_frame
   refine tv 5 41 rfl rfl ?_
   try go_frame
   refine tk 6 42 rfl rfl ?_ ?_ ?_
   rotate_left
   ·intro wq hSw; obtain ⟨⟨_,_,_⟩,⟨_,_,_⟩,⟨_,_,_⟩,⟨_,_,_⟩,⟨_,_,_⟩,⟨_,_,_⟩,⟨_,_,_⟩,⟨_,_,_⟩,_⟩ := hSw.2; go_simp; (try with_reducible rfl)
   try go_frame
   refine ty [7] ?_
   refine AllReadyH.cons rfl (fun K hK => ?_) AllReadyH.nil
   go_simp
   ((with_reducible refine (RL.out _).mono ?_); rintro e w2 ⟨rfl, hb⟩)
   refine hK.out _ _ (hHeld0.next hb) (fun hHeld1 => ?_)
   clear hK K; try clear hb
   try go_frame
   refine tv 8 44 rfl rfl ?_
   try go_frame
   refine tv 9 45 rfl rfl ?_
   try go_frame
   refine tv 10 46 rfl rfl ?_
   try go_frame
   refine tu 11 47 rfl rfl ?_
   try go_frame
   refine tu 12 48 rfl rfl ?_
   try go_frame
   refine tu 13 49 rfl rfl ?_
   try go_frame
   refine tu 14 50 rfl rfl ?_
   try go_frame
   refine tu 15 51 rfl rfl ?_
   try go_frame
   refine tu 16 52 rfl rfl ?_
   try go_frame
   refine tv 17 53 rfl rfl ?_
   try go_frame
   refine wpAnyH_done (by kernel_rfl) ?_ _
   have hHeld := hHeld1
   obtain ⟨⟨kz0,kc0,kf0⟩,⟨kz1,kc1,kf1⟩,⟨kz2,kc2,kf2⟩,⟨kz3,kc3,kf3⟩,⟨kz4,kc4,kf4⟩,⟨kz5,kc5,kf5⟩,⟨kz6,kc6,kf6⟩,⟨kz7,kc7,kf7⟩,_⟩ := hHeld.2
   all_goals
    (try clear hHeld0); (try clear hHeld1); (try clear hHeld2); (try clear kz0 kc0 kf0); (try clear kz1 kc1 kf1); (try clear kz2 kc2 kf2); (try clear kz3 kc3 kf3); (try clear kz4 kc4 kf4); (try clear kz5 kc5 kf5); (try clear kz6 kc6 kf6); (try clear kz7 kc7 kf7)
    go_wp2_with fail
    go_returns
    exact ⟨rfl, hHeld.1⟩
  rw [gl] at RL
  replace PA2 := Lib.hid (PA2.out gl)
  clear gl
  by_cases g7 : k = kl
  ·have t7 : (k == kl) = true := by simpa using g7
   have e5 : (decide ((0 : Nat) = 0) && (true && decide (k = kl)) && bk) = bk := by simp [g7]
   rw [e5]
   clear e5 g7
   have hK := new_seg (Below.refl w.heap.size w) 27 k v a r n d (.slice A9 0 c9) e
   go_enter Tryz.func16, Tryz.ntmps16
   go_wp2_with fail
   refine (RR.out _ hK.1).mono ?_
   rintro e' w1 ⟨rfl, hb⟩
   replace hK := hK.next hb
   clear hb RR
   obtain ⟨⟨kz0,kc0,kf0⟩,⟨kz1,kc1,kf1⟩,⟨kz2,kc2,kf2⟩,⟨kz3,kc3,kf3⟩,⟨kz4,kc4,kf4⟩,⟨kz5,kc5,kf5⟩,⟨kz6,kc6,kf6⟩,⟨kz7,kc7,kf7⟩,_⟩ := hK.2
   go_upto_region 6 with (fail)
   (try clear hHeld0); (try clear hHeld1); (try clear hHeld2); (try clear kz0 kc0 kf0); (try clear kz1 kc1 kf1); (try clear kz2 kc2 kf2); (try clear kz3 kc3 kf3); (try clear kz4 kc4 kf4); (try clear kz5 kc5 kf5); (try clear kz6 kc6 kf6); (try clear kz7 kc7 kf7)
   refine region_keeps (w0 := w) (L := [(w.heap.size, 0, .int .i64 k), (w.heap.size, 1, v), (w.heap.size, 2, .int .i64 a), (w.heap.size, 3, .int .i64 r), (w.heap.size, 4, .int .i64 n), (w.heap.size, 5, .int .i64 d), (w.heap.size, 6, .slice A9 0 c9), (w.heap.size, 7, .int .i64 e)]) (by kernel_rfl) hK (fun hHeld0 => ?_)
   refine tv 0 36 rfl rfl ?_
   try go_frame
   refine tk 1 37 rfl rfl ?_ ?_ ?_
   rotate_left
   ·intro wq hSw; obtain ⟨⟨_,_,_⟩,⟨_,_,_⟩,⟨_,_,_⟩,⟨_,_,_⟩,⟨_,_,_⟩,⟨_,_,_⟩,⟨_,_,_⟩,⟨_,_,_⟩,_⟩ := hSw.2; go_simp; (try with_reducible rfl)
   try go_frame
   refine tv 2 38 rfl rfl ?_
   try go_frame
   refine tv 3 39 rfl rfl ?_
   try go_frame
   refine tv 4 40 rfl rfl ?_
   try go_frame
   refine tv 5 41 rfl rfl ?_
   try go_frame
   refine tk 6 42 rfl rfl ?_ ?_ ?_
   rotate_left
   ·intro wq hSw; obtain ⟨⟨_,_,_⟩,⟨_,_,_⟩,⟨_,_,_⟩,⟨_,_,_⟩,⟨_,_,_⟩,⟨_,_,_⟩,⟨_,_,_⟩,⟨_,_,_⟩,_⟩ := hSw.2; go_simp; (try with_reducible rfl)
   try go_frame
   refine ty [7] ?_
   refine AllReadyH.cons rfl (fun K hK => ?_) AllReadyH.nil
   go_simp
   ((with_reducible refine (RL.out _).mono ?_); rintro e w2 ⟨rfl, hb⟩)
   refine hK.out _ _ (hHeld0.next hb) (fun hHeld1 => ?_)
   clear hK K; try clear hb
   try go_frame
   refine tv 8 44 rfl rfl ?_
   try go_frame
   refine tv 9 45 rfl rfl ?_
   try go_frame
   refine tv 10 46 rfl rfl ?_
   try go_frame
   refine tv 11 47 rfl rfl ?_
   try go_frame
   refine tk 12 48 rfl rfl ?_ ?_ ?_
   rotate_left
   ·intro wq hSw; obtain ⟨⟨_,_,_⟩,⟨_,_,_⟩,⟨_,_,_⟩,⟨_,_,_⟩,⟨_,_,_⟩,⟨_,_,_⟩,⟨_,_,_⟩,⟨_,_,_⟩,_⟩ := hSw.2; go_simp; (try with_reducible rfl)
   try go_frame
   refine tv 13 49 rfl rfl ?_
   try go_frame
   refine tk 14 50 rfl rfl ?_ ?_ ?_
   rotate_left
   ·intro wq hSw; obtain ⟨⟨_,_,_⟩,⟨_,_,_⟩,⟨_,_,_⟩,⟨_,_,_⟩,⟨_,_,_⟩,⟨_,_,_⟩,⟨_,_,_⟩,⟨_,_,_⟩,_⟩ := hSw.2; go_simp; (try with_reducible rfl)
   try go_frame
   refine ty [15] ?_
   refine AllReadyH.cons rfl (fun K hK => ?_) AllReadyH.nil
   go_simp
   ((with_reducible refine (RK.out _).mono ?_); rintro e w3 ⟨rfl, hb⟩)
   refine hK.out _ _ (hHeld1.next hb) (fun hHeld2 => ?_)
   clear hK K; try clear hb
   try go_frame
   refine tv 16 52 rfl rfl ?_
   try go_frame
   refine tv 17 53 rfl rfl ?_
   try go_frame
   refine wpAnyH_done (by kernel_rfl) ?_ _
   have hHeld := hHeld2
   obtain ⟨⟨kz0,kc0,kf0⟩,⟨kz1,kc1,kf1⟩,⟨kz2,kc2,kf2⟩,⟨kz3,kc3,kf3⟩,⟨kz4,kc4,kf4⟩,⟨kz5,kc5,kf5⟩,⟨kz6,kc6,kf6⟩,⟨kz7,kc7,kf7⟩,_⟩ := hHeld.2
   all_goals
    have hH9 := hHeld
    (try clear hHeld0); (try clear hHeld1); (try clear hHeld2); (try clear kz0 kc0 kf0); (try clear kz1 kc1 kf1); (try clear kz2 kc2 kf2); (try clear kz3 kc3 kf3); (try clear kz4 kc4 kf4); (try clear kz5 kc5 kf5); (try clear kz6 kc6 kf6); (try clear kz7 kc7 kf7)
    obtain ⟨⟨kz0,kc0,kf0⟩,⟨kz1,kc1,kf1⟩,⟨kz2,kc2,kf2⟩,⟨kz3,kc3,kf3⟩,⟨kz4,kc4,kf4⟩,⟨kz5,kc5,kf5⟩,⟨kz6,kc6,kf6⟩,⟨kz7,kc7,kf7⟩,_⟩ := hH9.2
    clear hHeld
    go_wp2_with fail
    refine (PA2.out _ hH9.1).mono ?_
    rintro e' w5 ⟨A7, n7, c7, rfl, hb⟩
    have hB7 := under hH9.1 hb
    clear hH9 hb
    (try clear hHeld0); (try clear hHeld1); (try clear hHeld2); (try clear kz0 kc0 kf0); (try clear kz1 kc1 kf1); (try clear kz2 kc2 kf2); (try clear kz3 kc3 kf3); (try clear kz4 kc4 kf4); (try clear kz5 kc5 kf5); (try clear kz6 kc6 kf6); (try clear kz7 kc7 kf7)
    go_wp2_with fail
    go_returns
    exact ⟨rfl, hB7⟩
  ·have t7 : (k == kl) = false := by simpa using g7
   have e5 : (decide ((0 : Nat) = 0) && (true && decide (k = kl)) && bk) = false := by simp [g7]
   rw [e5]
   clear e5 g7 PA2
   have hK := new_seg (Below.refl w.heap.size w) 27 k v a r n d (.slice A9 0 c9) e
   go_enter Tryz.func16, Tryz.ntmps16
   go_wp2_with fail
   refine (RR.out _ hK.1).mono ?_
   rintro e' w1 ⟨rfl, hb⟩
   replace hK := hK.next hb
   clear hb RR
   obtain ⟨⟨kz0,kc0,kf0⟩,⟨kz1,kc1,kf1⟩,⟨kz2,kc2,kf2⟩,⟨kz3,kc3,kf3⟩,⟨kz4,kc4,kf4⟩,⟨kz5,kc5,kf5⟩,⟨kz6,kc6,kf6⟩,⟨kz7,kc7,kf7⟩,_⟩ := hK.2
   go_upto_region 6 with (fail)
   (try clear hHeld0); (try clear hHeld1); (try clear hHeld2); (try clear kz0 kc0 kf0); (try clear kz1 kc1 kf1); (try clear kz2 kc2 kf2); (try clear kz3 kc3 kf3); (try clear kz4 kc4 kf4); (try clear kz5 kc5 kf5); (try clear kz6 kc6 kf6); (try clear kz7 kc7 kf7)
   refine region_keeps (w0 := w) (L := [(w.heap.size, 0, .int .i64 k), (w.heap.size, 1, v), (w.heap.size, 2, .int .i64 a), (w.heap.size, 3, .int .i64 r), (w.heap.size, 4, .int .i64 n), (w.heap.size, 5, .int .i64 d), (w.heap.size, 6, .slice A9 0 c9), (w.heap.size, 7, .int .i64 e)]) (by kernel_rfl) hK (fun hHeld0 => ?_)
   refine tv 0 36 rfl rfl ?_
   try go_frame
   refine tk 1 37 rfl rfl ?_ ?_ ?_
   rotate_left
   ·intro wq hSw; obtain ⟨⟨_,_,_⟩,⟨_,_,_⟩,⟨_,_,_⟩,⟨_,_,_⟩,⟨_,_,_⟩,⟨_,_,_⟩,⟨_,_,_⟩,⟨_,_,_⟩,_⟩ := hSw.2; go_simp; (try with_reducible rfl)
   try go_frame
   refine tv 2 38 rfl rfl ?_
   try go_frame
   refine tv 3 39 rfl rfl ?_
   try go_frame
   refine tv 4 40 rfl rfl ?_
   try go_frame
   refine tv 5 41 rfl rfl ?_
   try go_frame
   refine tk 6 42 rfl rfl ?_ ?_ ?_
   rotate_left
   ·intro wq hSw; obtain ⟨⟨_,_,_⟩,⟨_,_,_⟩,⟨_,_,_⟩,⟨_,_,_⟩,⟨_,_,_⟩,⟨_,_,_⟩,⟨_,_,_⟩,⟨_,_,_⟩,_⟩ := hSw.2; go_simp; (try with_reducible rfl)
   try go_frame
   refine ty [7] ?_
   refine AllReadyH.cons rfl (fun K hK => ?_) AllReadyH.nil
   go_simp
   ((with_reducible refine (RL.out _).mono ?_); rintro e w2 ⟨rfl, hb⟩)
   refine hK.out _ _ (hHeld0.next hb) (fun hHeld1 => ?_)
   clear hK K; try clear hb
   try go_frame
   refine tv 8 44 rfl rfl ?_
   try go_frame
   refine tv 9 45 rfl rfl ?_
   try go_frame
   refine tv 10 46 rfl rfl ?_
   try go_frame
   refine tv 11 47 rfl rfl ?_
   try go_frame
   refine tk 12 48 rfl rfl ?_ ?_ ?_
   rotate_left
   ·intro wq hSw; obtain ⟨⟨_,_,_⟩,⟨_,_,_⟩,⟨_,_,_⟩,⟨_,_,_⟩,⟨_,_,_⟩,⟨_,_,_⟩,⟨_,_,_⟩,⟨_,_,_⟩,_⟩ := hSw.2; go_simp; (try with_reducible rfl)
   try go_frame
   refine tv 13 49 rfl rfl ?_
   try go_frame
   refine tk 14 50 rfl rfl ?_ ?_ ?_
   rotate_left
   ·intro wq hSw; obtain ⟨⟨_,_,_⟩,⟨_,_,_⟩,⟨_,_,_⟩,⟨_,_,_⟩,⟨_,_,_⟩,⟨_,_,_⟩,⟨_,_,_⟩,⟨_,_,_⟩,_⟩ := hSw.2; go_simp; (try with_reducible rfl)
   try go_frame
   refine ty [15] ?_
   refine AllReadyH.cons rfl (fun K hK => ?_) AllReadyH.nil
   go_simp
   ((with_reducible refine (RK.out _).mono ?_); rintro e w3 ⟨rfl, hb⟩)
   refine hK.out _ _ (hHeld1.next hb) (fun hHeld2 => ?_)
   clear hK K; try clear hb
   try go_frame
   refine tv 16 52 rfl rfl ?_
   try go_frame
   refine tv 17 53 rfl rfl ?_
   try go_frame
   refine wpAnyH_done (by kernel_rfl) ?_ _
   have hHeld := hHeld2
   obtain ⟨⟨kz0,kc0,kf0⟩,⟨kz1,kc1,kf1⟩,⟨kz2,kc2,kf2⟩,⟨kz3,kc3,kf3⟩,⟨kz4,kc4,kf4⟩,⟨kz5,kc5,kf5⟩,⟨kz6,kc6,kf6⟩,⟨kz7,kc7,kf7⟩,_⟩ := hHeld.2
   all_goals
    (try clear hHeld0); (try clear hHeld1); (try clear hHeld2); (try clear kz0 kc0 kf0); (try clear kz1 kc1 kf1); (try clear kz2 kc2 kf2); (try clear kz3 kc3 kf3); (try clear kz4 kc4 kf4); (try clear kz5 kc5 kf5); (try clear kz6 kc6 kf6); (try clear kz7 kc7 kf7)
    go_wp2_with fail
    go_returns
    exact ⟨rfl, hHeld.1⟩
end Go.Proofs.YtcfidimnbamnkaaGreat.P11

/-
 Layer 11: the law SegValues holds of every input. Conditions: those of the law's row.
-/
namespace Go.Proofs.YtcfidimnbamnkaaGreat.P11
open Go.RowKit Go.Shelf Go.Proofs.YtcfidimnbamnkaaGreat.P7

end Go.Proofs.YtcfidimnbamnkaaGreat.P11

/-
 Layer 11: Part, as a law calls it; a segment of the law's own. Conditions: those written at each fact.
-/
namespace Go.Proofs.YtcfidimnbamnkaaGreat.P11
open Go.RowKit Go.Shelf Go.Proofs.YtcfidimnbamnkaaGreat.P7

theorem own_got {w : World} {s : Sg} {e : Ending} {w' : World} (h : OwnS w s e w') : ∃ A1 n1 c1 A2 n2 c2, e = .returned (sgOf s (.slice A1 n1 c1) (.slice A2 n2 c2)) ∧ Below w.heap.size w w' ∧ Own2 w' w.heap.size s (.slice A1 n1 c1) (.slice A2 n2 c2) := by
 obtain ⟨v, u, he, hb, ho⟩ := h
 obtain ⟨A1, n1, c1, rfl⟩ := own_sl ho.runs
 obtain ⟨A2, n2, c2, rfl⟩ := own_sl ho.raws
 exact ⟨A1, n1, c1, A2, n2, c2, he, hb, ho⟩
end Go.Proofs.YtcfidimnbamnkaaGreat.P11

/-
 Layer 11: two blocks of eight cells that are laid and stored into, beside rows of the law's own. Conditions: those written at each fact.
-/
namespace Go.Proofs.YtcfidimnbamnkaaGreat.P11
open Go.RowKit Go.Shelf Go.Proofs.YtcfidimnbamnkaaGreat.P7

def Off (v u : Value) (B : Nat) : Prop := v.ownBlock ≠ some B ∧ u.ownBlock ≠ some B
theorem off_before {W : World} {m : Nat} {s : Sg} {v u : Value} (h : Own2 W m s v u) : Off v u W.heap.size := by
 have key : ∀ {e : TypeId} {sz n : Nat} {z : Value} {xs : List Value}, W.ownsRow m e sz z n xs → z.ownBlock ≠ some W.heap.size := by
  intro e sz n z xs hr
  rcases hr.2 with ⟨rfl, _⟩ | ⟨g, cap, cur, rfl, hB, hg, _⟩
  ·intro hh; cases hh
  ·intro hh
   have e1 : g = W.heap.size := by simpa [Value.ownBlock] using hh
   have := (Array.getElem?_eq_some_iff.1 hg).1
   omega
 exact ⟨key h.runs, key h.raws⟩
theorem Own2.less {W : World} {m m' : Nat} {s : Sg} {v u : Value} (h : Own2 W m s v u) (hm : m' ≤ m) : Own2 W m' s v u := ⟨owns_less h.runs hm, owns_less h.raws hm⟩
theorem Own2.allocAs {w W : World} {m : Nat} {s : Sg} {v u : Value} {L : List (Nat × Nat × Value)} {o : Obj} (h : Own2 W m s v u) (_ : Keeps w L (W.alloc o)) : Own2 (W.alloc o) m s v u := h.below (below_alloc W o)
theorem rightS_is (s : Sg) (h1 : s.R.length ≤ 1000000) (h2 : s.V.length ≤ 1000000) : ∀ v u W, ReadsR W v s.R → Reads .i64 W u s.V → Calls Tryz.prog 16 #[sgOf s v u] W (Ret W (.bool (segB s))) := fun v u W hr hu => refRightS_any s h1 h2 v u W hr hu
end Go.Proofs.YtcfidimnbamnkaaGreat.P11

namespace Go.Proofs.YtcfidimnbamnkaaGreat.P11
open Go.RowKit Go.Shelf Go.Proofs.YtcfidimnbamnkaaGreat.P7

def MadeX (W : World) (t : Sg) (c : Int) (e : Ending) (w' : World) : Prop := ∃ A1 n1 c1 A2 n2 c2, e = .returned (.tuple #[sgOf t (.slice A1 n1 c1) (.slice A2 n2 c2), .int .i64 c]) ∧ Below W.heap.size W w' ∧ Own2 w' W.heap.size t (.slice A1 n1 c1) (.slice A2 n2 c2)
theorem made_x {W : World} {s : Sg} {e : Ending} {w' : World} (h : MadeT W s e w') : MadeX W (madeS s) (madeC s) e w' := by
 obtain ⟨v, u, he, hb, ho⟩ := h
 obtain ⟨A1, n1, c1, rfl⟩ := own_sl ho.runs
 obtain ⟨A2, n2, c2, rfl⟩ := own_sl ho.raws
 exact ⟨A1, n1, c1, A2, n2, c2, he, hb, ho⟩
theorem cells_lt {L : List (Nat × Nat × Value)} {W : World} (h : Cells L W) : ∀ q ∈ L, q.1 < W.heap.size := by
 induction L with
 | nil => intro q hq; cases hq
 | cons q l ih =>
  obtain ⟨⟨h1, _, _⟩, h4⟩ := h
  intro q' hq'
  rcases List.mem_cons.1 hq' with rfl | hq'
  ·exact h1
  ·exact ih h4 q' hq'
theorem first_cell {W : World} {m : Nat} {e : TypeId} {size n : Nat} {v : Value} {xs : List Value} {x : Value} (h : W.ownsRow m e size v n xs) (hx : xs[0]? = some x) : ∃ g c, v = .slice (some ⟨g, 0, none⟩) n c ∧ m ≤ g ∧ g < W.heap.size ∧ W.cell? ⟨g, 0, none⟩ = some x ∧ W.frozen? ⟨g, 0, none⟩ = false ∧ 0 < n := by
 obtain ⟨hl, h⟩ := h
 have hpos : 0 < xs.length := (List.getElem?_eq_some_iff.1 hx).1
 have hn0 : 0 < n := by
  rcases Nat.eq_zero_or_pos n with h0 | h0
  ·rw [h0, Nat.zero_mul] at hl; omega
  ·exact h0
 rcases h with ⟨_, h0⟩ | ⟨g, cap, cur, rfl, hB, hg, hn, _, hs, ht⟩
 ·omega
 ·have e1 : cur[0]? = some x := by
   have : (cur.toList.take (n * size))[0]? = some x := by rw [ht]; exact hx
   rw [List.getElem?_take, if_pos (by omega)] at this
   simpa using this
  exact ⟨g, cap, rfl, hB, (Array.getElem?_eq_some_iff.1 hg).1, by simp [World.cell?, hg, e1], by simp [World.frozen?, hg], hn0⟩
theorem off_high {W : World} {m g : Nat} {s : Sg} {v u : Value} (h : Own2 W m s v u) (hg : W.heap.size ≤ g) : Off v u g := by
 have key : ∀ {e : TypeId} {sz n : Nat} {z : Value} {xs : List Value}, W.ownsRow m e sz z n xs → z.ownBlock ≠ some g := by
  intro e sz n z xs hr
  rcases hr.2 with ⟨rfl, _⟩ | ⟨g', cap, cur, rfl, hB, hg', _⟩
  ·intro hh; cases hh
  ·intro hh
   have e1 : g' = g := by simpa [Value.ownBlock] using hh
   have := (Array.getElem?_eq_some_iff.1 hg').1
   omega
 exact ⟨key h.runs, key h.raws⟩
theorem Own2.off1 {W : World} {m B i : Nat} {s : Sg} {v u : Value} (h : Own2 W m s v u) (ho : Off v u B) (x : Value) : Own2 (W.setCell ⟨B, i, none⟩ x) m s v u := ⟨owns_pt h.runs ho.1 _, owns_pt h.raws ho.2 _⟩
theorem int_kept {W : World} {g g' : Nat} {y z : Int} (h : W.cell? ⟨g', 0, none⟩ = some (.int .i64 z)) (hg : W.cell? ⟨g, 0, none⟩ = some (.int .i64 y)) (x : Int) : ∃ z', (W.setCell ⟨g, 0, none⟩ (.int .i64 x)).cell? ⟨g', 0, none⟩ = some (.int .i64 z') := by
 by_cases e : g = g'
 ·subst e
  exact ⟨x, World.cell?_setCell_same' _ _ _ (by rw [hg]; rfl)⟩
 ·refine ⟨z, ?_⟩
  rw [World.cell?_setCell_other _ _ _ _ (fun hh => e (by simpa using congrArg Addr.block hh))]
  exact h

set_option maxRecDepth 100000 in
set_option maxHeartbeats 8000000 in
theorem makes_walk (a r n d far : Int) (A0 : Option Addr) (n0 c0 : Nat) (U0 : Option Addr) (m0 e0 : Nat) (s1 s2 a1 b1 : Sg) (w : World) (kk c1 c2 : Int) (lr g1 g2 : Bool) (WK : Hid (∀ W, Calls Tryz.prog 14 #[] W (Ret W (.bool true)))) (RL : Hid (∀ W, Calls Tryz.prog 22 #[lnV a r n d] W (Ret W (.bool lr)))) (RK : Hid (lr = true → ∀ W, Calls Tryz.prog 23 #[lnV a r n d] W (Ret W (.int .i64 kk)))) (SK : Hid (∀ W, Calls Tryz.prog 24 #[lnV a r n d] W (Ret W (.int .i64 kk)))) (O1 : Hid (∀ W, Below w.heap.size w W → Calls Tryz.prog 15 #[sgV kk (.slice A0 n0 c0) a r n d (.slice none 0 0) far] W (OwnS W s1))) (O2 : Hid (∀ W, Below w.heap.size w W → Calls Tryz.prog 15 #[sgV 4 (.slice A0 n0 c0) 0 0 0 0 (.slice U0 m0 e0) far] W (OwnS W s2))) (OF : Hid (∀ v W, ReadsR W v s1.R → Calls Tryz.prog 25 #[v, lnV a r n d, .int .i64 far] W (MadeX W a1 c1))) (RW : Hid (∀ v u W, ReadsR W v s2.R → Reads .i64 W u s2.V → Calls Tryz.prog 26 #[v, u, .int .i64 far] W (MadeX W b1 c2))) (G1 : Hid (∀ v u W, ReadsR W v s1.R → Reads .i64 W u s1.V → Calls Tryz.prog 16 #[sgOf s1 v u] W (Ret W (.bool g1)))) (G2 : Hid (∀ v u W, ReadsR W v s2.R → Reads .i64 W u s2.V → Calls Tryz.prog 16 #[sgOf s2 v u] W (Ret W (.bool g2)))) (C1 : lr = false ∧ kk = 0 ∧ c1 = 210 ∧ Hid (∀ v u W, ReadsR W v a1.R → Reads .i64 W u a1.V → Calls Tryz.prog 19 #[sgOf a1 v u, sgV 0 (.slice none 0 0) 0 0 0 0 (.slice none 0 0) 0] W (Ret W (.bool true))) ∨ lr = true ∧ (kk == 0) = false ∧ g1 = false ∧ c1 = 210 ∧ Hid (∀ v u W, ReadsR W v a1.R → Reads .i64 W u a1.V → Calls Tryz.prog 19 #[sgOf a1 v u, sgV 0 (.slice none 0 0) 0 0 0 0 (.slice none 0 0) 0] W (Ret W (.bool true))) ∨ lr = true ∧ (kk == 0) = false ∧ g1 = true ∧ c1 = 0 ∧ Hid (∀ v u v2 u2 W, ReadsR W v a1.R → Reads .i64 W u a1.V → ReadsR W v2 s1.R → Reads .i64 W u2 s1.V → Calls Tryz.prog 19 #[sgOf a1 v u, sgOf s1 v2 u2] W (Ret W (.bool true)))) (C2 : g2 = false ∧ c2 = 210 ∧ Hid (∀ v u W, ReadsR W v b1.R → Reads .i64 W u b1.V → Calls Tryz.prog 19 #[sgOf b1 v u, sgV 0 (.slice none 0 0) 0 0 0 0 (.slice none 0 0) 0] W (Ret W (.bool true))) ∨ g2 = true ∧ c2 = 0 ∧ Hid (∀ v u v2 u2 W, ReadsR W v b1.R → Reads .i64 W u b1.V → ReadsR W v2 s2.R → Reads .i64 W u2 s2.V → Calls Tryz.prog 19 #[sgOf b1 v u, sgOf s2 v2 u2] W (Ret W (.bool true))) ∧ Hid (∀ v u v2 u2 W, ReadsR W v s2.R → Reads .i64 W u s2.V → ReadsR W v2 s2.R → Reads .i64 W u2 s2.V → Calls Tryz.prog 19 #[sgOf s2 v u, sgOf s2 v2 u2] W (Ret W (.bool true))) ∧ b1.R ≠ [] ∧ b1.V ≠ []) :
  Calls Tryz.prog 4 #[.slice A0 n0 c0, lnV a r n d, .slice U0 m0 e0, .int .i64 far] w (Ret w (.bool true)) := by
 obtain ⟨pk, pR, pa, pr, pn, pd, pV, pe⟩ := s1
 obtain ⟨qk, qR, qa, qr, qn, qd, qV, qe⟩ := s2
 obtain ⟨xk, xR, xa, xr, xn, xd, xV, xe⟩ := a1
 obtain ⟨yk, yR, ya, yr, yn, yd, yV, ye⟩ := b1
 simp only [sgOf] at OF RW G1 G2 C1 C2 ⊢
 go_enter Tryz.func4, Tryz.ntmps4
 go_wp2_with fail
 refine (WK.out _).mono ?_
 rintro e w1 ⟨rfl, hb⟩
 have hN : Keeps w [(w.heap.size, 0, .int .i64 a), (w.heap.size, 1, .int .i64 r), (w.heap.size, 2, .int .i64 n), (w.heap.size, 3, .int .i64 d)] (w.alloc (.cells #[.int .i64 a, .int .i64 r, .int .i64 n, .int .i64 d] 24)) := by
  refine ⟨by go_grown, ?_⟩
  simp [Cells, go_sem]
 replace hN := hN.next hb
 clear hb WK
 obtain ⟨⟨kz0,kc0,kf0⟩,⟨kz1,kc1,kf1⟩,⟨kz2,kc2,kf2⟩,⟨kz3,kc3,kf3⟩,_⟩ := hN.2
 go_wp2_with fail
 refine (RL.out _).mono ?_
 rintro e w2 ⟨rfl, hb⟩
 replace hN := hN.next hb
 clear hb RL
 (try clear hHeld0); (try clear hHeld1); (try clear hHeld2); (try clear hHeld3); (try clear hHeld4); (try clear hHeld5); (try clear hHeld6); (try clear hHeld7); (try clear hHeld8); (try clear hHeld9); (try clear hHeld10); (try clear hHeld11); (try clear hHeld12); (try clear hHeld13); (try clear kz0 kc0 kf0); (try clear kz1 kc1 kf1); (try clear kz2 kc2 kf2); (try clear kz3 kc3 kf3); (try clear kz4 kc4 kf4); (try clear kz5 kc5 kf5); (try clear kz6 kc6 kf6); (try clear kz7 kc7 kf7); (try clear kz8 kc8 kf8); (try clear kz9 kc9 kf9); (try clear kz10 kc10 kf10); (try clear kz11 kc11 kf11); (try clear kz12 kc12 kf12); (try clear kz13 kc13 kf13)
 obtain ⟨⟨kz0,kc0,kf0⟩,⟨kz1,kc1,kf1⟩,⟨kz2,kc2,kf2⟩,⟨kz3,kc3,kf3⟩,_⟩ := hN.2
 go_upto_if 19 with (fail)
 go_cut [9] (fun s9 wx => s9 = .int .i64 kk ∧ Keeps w [(w.heap.size, 0, .int .i64 a), (w.heap.size, 1, .int .i64 r), (w.heap.size, 2, .int .i64 n), (w.heap.size, 3, .int .i64 d)] wx)
 case first =>
  rcases C1 with ⟨rfl, rfl, _⟩ | ⟨rfl, _⟩ | ⟨rfl, _⟩
  ·go_wp2_with fail
   go_meet
   case rel => exact ⟨rfl, hN⟩
  ·have RK2 := Lib.hid (RK.out rfl)
   go_wp2_with fail
   refine (RK2.out _).mono ?_
   rintro e w3 ⟨rfl, hb⟩
   go_wp2_with fail
   go_meet
   case rel => exact ⟨rfl, hN.next hb⟩
  ·have RK2 := Lib.hid (RK.out rfl)
   go_wp2_with fail
   refine (RK2.out _).mono ?_
   rintro e w3 ⟨rfl, hb⟩
   go_wp2_with fail
   go_meet
   case rel => exact ⟨rfl, hN.next hb⟩
 case rest =>
  (try clear hHeld0); (try clear hHeld1); (try clear hHeld2); (try clear hHeld3); (try clear hHeld4); (try clear hHeld5); (try clear hHeld6); (try clear hHeld7); (try clear hHeld8); (try clear hHeld9); (try clear hHeld10); (try clear hHeld11); (try clear hHeld12); (try clear hHeld13); (try clear kz0 kc0 kf0); (try clear kz1 kc1 kf1); (try clear kz2 kc2 kf2); (try clear kz3 kc3 kf3); (try clear kz4 kc4 kf4); (try clear kz5 kc5 kf5); (try clear kz6 kc6 kf6); (try clear kz7 kc7 kf7); (try clear kz8 kc8 kf8); (try clear kz9 kc9 kf9); (try clear kz10 kc10 kf10); (try clear kz11 kc11 kf11); (try clear kz12 kc12 kf12); (try clear kz13 kc13 kf13)
  clear hN RK
  obtain ⟨rfl, hN⟩ := hcut
  obtain ⟨⟨kz0,kc0,kf0⟩,⟨kz1,kc1,kf1⟩,⟨kz2,kc2,kf2⟩,⟨kz3,kc3,kf3⟩,_⟩ := hN.2
  go_wp2_with fail
  refine (SK.out _).mono ?_
  rintro e w4 ⟨rfl, hb⟩
  replace hN := hN.next hb
  clear hb SK
  (try clear hHeld0); (try clear hHeld1); (try clear hHeld2); (try clear hHeld3); (try clear hHeld4); (try clear hHeld5); (try clear hHeld6); (try clear hHeld7); (try clear hHeld8); (try clear hHeld9); (try clear hHeld10); (try clear hHeld11); (try clear hHeld12); (try clear hHeld13); (try clear kz0 kc0 kf0); (try clear kz1 kc1 kf1); (try clear kz2 kc2 kf2); (try clear kz3 kc3 kf3); (try clear kz4 kc4 kf4); (try clear kz5 kc5 kf5); (try clear kz6 kc6 kf6); (try clear kz7 kc7 kf7); (try clear kz8 kc8 kf8); (try clear kz9 kc9 kf9); (try clear kz10 kc10 kf10); (try clear kz11 kc11 kf11); (try clear kz12 kc12 kf12); (try clear kz13 kc13 kf13)
  obtain ⟨⟨kz0,kc0,kf0⟩,⟨kz1,kc1,kf1⟩,⟨kz2,kc2,kf2⟩,⟨kz3,kc3,kf3⟩,_⟩ := hN.2
  go_wp2_with fail
  refine (O1.out _ hN.1).mono ?_
  rintro e w5 hq
  obtain ⟨B1, n1, d1, B2, n2, d2, rfl, hb, ho1⟩ := own_got hq
  clear hq
  replace hN := hN.next hb
  (try clear hHeld0); (try clear hHeld1); (try clear hHeld2); (try clear hHeld3); (try clear hHeld4); (try clear hHeld5); (try clear hHeld6); (try clear hHeld7); (try clear hHeld8); (try clear hHeld9); (try clear hHeld10); (try clear hHeld11); (try clear hHeld12); (try clear hHeld13); (try clear kz0 kc0 kf0); (try clear kz1 kc1 kf1); (try clear kz2 kc2 kf2); (try clear kz3 kc3 kf3); (try clear kz4 kc4 kf4); (try clear kz5 kc5 kf5); (try clear kz6 kc6 kf6); (try clear kz7 kc7 kf7); (try clear kz8 kc8 kf8); (try clear kz9 kc9 kf9); (try clear kz10 kc10 kf10); (try clear kz11 kc11 kf11); (try clear kz12 kc12 kf12); (try clear kz13 kc13 kf13)
  clear hb O1
  have hM : Keeps w [(w5.heap.size, 0, .int .i64 pk), (w5.heap.size, 1, .slice B1 n1 d1), (w5.heap.size, 2, .int .i64 pa), (w5.heap.size, 3, .int .i64 pr), (w5.heap.size, 4, .int .i64 pn), (w5.heap.size, 5, .int .i64 pd), (w5.heap.size, 6, .slice B2 n2 d2), (w5.heap.size, 7, .int .i64 pe)] (w5.alloc (sgO 27 pk (.slice B1 n1 d1) pa pr pn pd (.slice B2 n2 d2) pe)) := ⟨(hN.alloc _).1, by simp [Cells, go_sem]⟩
  replace hN := hM.app (hN.alloc (sgO 27 pk (.slice B1 n1 d1) pa pr pn pd (.slice B2 n2 d2) pe))
  replace ho1 := ho1.below (below_alloc w5 (sgO 27 pk (.slice B1 n1 d1) pa pr pn pd (.slice B2 n2 d2) pe))
  clear hM
  go_upto_region 9 with (fail)
  generalize w5.alloc (sgO 27 pk (.slice B1 n1 d1) pa pr pn pd (.slice B2 n2 d2) pe) = w5x at *
  generalize w5.heap.size = g10 at *
  (try clear hHeld0); (try clear hHeld1); (try clear hHeld2); (try clear hHeld3); (try clear hHeld4); (try clear hHeld5); (try clear hHeld6); (try clear hHeld7); (try clear hHeld8); (try clear hHeld9); (try clear hHeld10); (try clear hHeld11); (try clear hHeld12); (try clear hHeld13); (try clear kz0 kc0 kf0); (try clear kz1 kc1 kf1); (try clear kz2 kc2 kf2); (try clear kz3 kc3 kf3); (try clear kz4 kc4 kf4); (try clear kz5 kc5 kf5); (try clear kz6 kc6 kf6); (try clear kz7 kc7 kf7); (try clear kz8 kc8 kf8); (try clear kz9 kc9 kf9); (try clear kz10 kc10 kf10); (try clear kz11 kc11 kf11); (try clear kz12 kc12 kf12); (try clear kz13 kc13 kf13)
  obtain ⟨⟨kz0,kc0,kf0⟩,⟨kz1,kc1,kf1⟩,⟨kz2,kc2,kf2⟩,⟨kz3,kc3,kf3⟩,⟨kz4,kc4,kf4⟩,⟨kz5,kc5,kf5⟩,⟨kz6,kc6,kf6⟩,⟨kz7,kc7,kf7⟩,⟨kz8,kc8,kf8⟩,⟨kz9,kc9,kf9⟩,⟨kz10,kc10,kf10⟩,⟨kz11,kc11,kf11⟩,_⟩ := hN.2
  go_wp2_with fail
  refine (O2.out _ hN.1).mono ?_
  rintro e w6 hq
  obtain ⟨B3, n3, d3, B4, n4, d4, rfl, hb, ho2⟩ := own_got hq
  clear hq
  replace hN := hN.next hb
  (try clear hHeld0); (try clear hHeld1); (try clear hHeld2); (try clear hHeld3); (try clear hHeld4); (try clear hHeld5); (try clear hHeld6); (try clear hHeld7); (try clear hHeld8); (try clear hHeld9); (try clear hHeld10); (try clear hHeld11); (try clear hHeld12); (try clear hHeld13); (try clear kz0 kc0 kf0); (try clear kz1 kc1 kf1); (try clear kz2 kc2 kf2); (try clear kz3 kc3 kf3); (try clear kz4 kc4 kf4); (try clear kz5 kc5 kf5); (try clear kz6 kc6 kf6); (try clear kz7 kc7 kf7); (try clear kz8 kc8 kf8); (try clear kz9 kc9 kf9); (try clear kz10 kc10 kf10); (try clear kz11 kc11 kf11); (try clear kz12 kc12 kf12); (try clear kz13 kc13 kf13)
  replace ho1 := ho1.below hb
  clear hb
  have hM : Keeps w [(w6.heap.size, 0, .int .i64 qk), (w6.heap.size, 1, .slice B3 n3 d3), (w6.heap.size, 2, .int .i64 qa), (w6.heap.size, 3, .int .i64 qr), (w6.heap.size, 4, .int .i64 qn), (w6.heap.size, 5, .int .i64 qd), (w6.heap.size, 6, .slice B4 n4 d4), (w6.heap.size, 7, .int .i64 qe)] (w6.alloc (sgO 27 qk (.slice B3 n3 d3) qa qr qn qd (.slice B4 n4 d4) qe)) := ⟨(hN.alloc _).1, by simp [Cells, go_sem]⟩
  replace hN := hM.app (hN.alloc (sgO 27 qk (.slice B3 n3 d3) qa qr qn qd (.slice B4 n4 d4) qe))
  replace ho1 := ho1.below (below_alloc w6 (sgO 27 qk (.slice B3 n3 d3) qa qr qn qd (.slice B4 n4 d4) qe))
  replace ho2 := ho2.below (below_alloc w6 (sgO 27 qk (.slice B3 n3 d3) qa qr qn qd (.slice B4 n4 d4) qe))
  clear hM
  go_upto_region 10 with (fail)
  generalize w6.alloc (sgO 27 qk (.slice B3 n3 d3) qa qr qn qd (.slice B4 n4 d4) qe) = w6x at *
  generalize w6.heap.size = g11 at *
  (try clear hHeld0); (try clear hHeld1); (try clear hHeld2); (try clear hHeld3); (try clear hHeld4); (try clear hHeld5); (try clear hHeld6); (try clear hHeld7); (try clear hHeld8); (try clear hHeld9); (try clear hHeld10); (try clear hHeld11); (try clear hHeld12); (try clear hHeld13); (try clear kz0 kc0 kf0); (try clear kz1 kc1 kf1); (try clear kz2 kc2 kf2); (try clear kz3 kc3 kf3); (try clear kz4 kc4 kf4); (try clear kz5 kc5 kf5); (try clear kz6 kc6 kf6); (try clear kz7 kc7 kf7); (try clear kz8 kc8 kf8); (try clear kz9 kc9 kf9); (try clear kz10 kc10 kf10); (try clear kz11 kc11 kf11); (try clear kz12 kc12 kf12); (try clear kz13 kc13 kf13)
  obtain ⟨⟨kz0,kc0,kf0⟩,⟨kz1,kc1,kf1⟩,⟨kz2,kc2,kf2⟩,⟨kz3,kc3,kf3⟩,⟨kz4,kc4,kf4⟩,⟨kz5,kc5,kf5⟩,⟨kz6,kc6,kf6⟩,⟨kz7,kc7,kf7⟩,⟨kz8,kc8,kf8⟩,⟨kz9,kc9,kf9⟩,⟨kz10,kc10,kf10⟩,⟨kz11,kc11,kf11⟩,⟨kz12,kc12,kf12⟩,⟨kz13,kc13,kf13⟩,⟨kz14,kc14,kf14⟩,⟨kz15,kc15,kf15⟩,⟨kz16,kc16,kf16⟩,⟨kz17,kc17,kf17⟩,⟨kz18,kc18,kf18⟩,⟨kz19,kc19,kf19⟩,_⟩ := hN.2
  go_wp2_with fail
  refine (OF.out _ _ ho1.readsR).mono ?_
  rintro e w7 ⟨B5, n5, d5, B6, n6, d6, rfl, hb, ho3⟩
  replace hN := hN.next hb
  replace ho1 := ho1.below hb
  replace ho2 := ho2.below hb
  clear hb OF
  (try clear hHeld0); (try clear hHeld1); (try clear hHeld2); (try clear hHeld3); (try clear hHeld4); (try clear hHeld5); (try clear hHeld6); (try clear hHeld7); (try clear hHeld8); (try clear hHeld9); (try clear hHeld10); (try clear hHeld11); (try clear hHeld12); (try clear hHeld13); (try clear kz0 kc0 kf0); (try clear kz1 kc1 kf1); (try clear kz2 kc2 kf2); (try clear kz3 kc3 kf3); (try clear kz4 kc4 kf4); (try clear kz5 kc5 kf5); (try clear kz6 kc6 kf6); (try clear kz7 kc7 kf7); (try clear kz8 kc8 kf8); (try clear kz9 kc9 kf9); (try clear kz10 kc10 kf10); (try clear kz11 kc11 kf11); (try clear kz12 kc12 kf12); (try clear kz13 kc13 kf13)
  have hM : Keeps w [(w7.heap.size, 0, .int .i64 xk), (w7.heap.size, 1, .slice B5 n5 d5), (w7.heap.size, 2, .int .i64 xa), (w7.heap.size, 3, .int .i64 xr), (w7.heap.size, 4, .int .i64 xn), (w7.heap.size, 5, .int .i64 xd), (w7.heap.size, 6, .slice B6 n6 d6), (w7.heap.size, 7, .int .i64 xe)] (w7.alloc (sgO 27 xk (.slice B5 n5 d5) xa xr xn xd (.slice B6 n6 d6) xe)) := ⟨(hN.alloc _).1, by simp [Cells, go_sem]⟩
  replace hN := hM.app (hN.alloc (sgO 27 xk (.slice B5 n5 d5) xa xr xn xd (.slice B6 n6 d6) xe))
  replace ho1 := ho1.below (below_alloc w7 (sgO 27 xk (.slice B5 n5 d5) xa xr xn xd (.slice B6 n6 d6) xe))
  replace ho2 := ho2.below (below_alloc w7 (sgO 27 xk (.slice B5 n5 d5) xa xr xn xd (.slice B6 n6 d6) xe))
  replace ho3 := ho3.below (below_alloc w7 (sgO 27 xk (.slice B5 n5 d5) xa xr xn xd (.slice B6 n6 d6) xe))
  clear hM
  go_upto_region 11 with (fail)
  generalize w7.alloc (sgO 27 xk (.slice B5 n5 d5) xa xr xn xd (.slice B6 n6 d6) xe) = w7x at *
  generalize w7.heap.size = g12 at *
  (try clear hHeld0); (try clear hHeld1); (try clear hHeld2); (try clear hHeld3); (try clear hHeld4); (try clear hHeld5); (try clear hHeld6); (try clear hHeld7); (try clear hHeld8); (try clear hHeld9); (try clear hHeld10); (try clear hHeld11); (try clear hHeld12); (try clear hHeld13); (try clear kz0 kc0 kf0); (try clear kz1 kc1 kf1); (try clear kz2 kc2 kf2); (try clear kz3 kc3 kf3); (try clear kz4 kc4 kf4); (try clear kz5 kc5 kf5); (try clear kz6 kc6 kf6); (try clear kz7 kc7 kf7); (try clear kz8 kc8 kf8); (try clear kz9 kc9 kf9); (try clear kz10 kc10 kf10); (try clear kz11 kc11 kf11); (try clear kz12 kc12 kf12); (try clear kz13 kc13 kf13)
  obtain ⟨⟨kz0,kc0,kf0⟩,⟨kz1,kc1,kf1⟩,⟨kz2,kc2,kf2⟩,⟨kz3,kc3,kf3⟩,⟨kz4,kc4,kf4⟩,⟨kz5,kc5,kf5⟩,⟨kz6,kc6,kf6⟩,⟨kz7,kc7,kf7⟩,⟨kz8,kc8,kf8⟩,⟨kz9,kc9,kf9⟩,⟨kz10,kc10,kf10⟩,⟨kz11,kc11,kf11⟩,⟨kz12,kc12,kf12⟩,⟨kz13,kc13,kf13⟩,⟨kz14,kc14,kf14⟩,⟨kz15,kc15,kf15⟩,⟨kz16,kc16,kf16⟩,⟨kz17,kc17,kf17⟩,⟨kz18,kc18,kf18⟩,⟨kz19,kc19,kf19⟩,⟨kz20,kc20,kf20⟩,⟨kz21,kc21,kf21⟩,⟨kz22,kc22,kf22⟩,⟨kz23,kc23,kf23⟩,⟨kz24,kc24,kf24⟩,⟨kz25,kc25,kf25⟩,⟨kz26,kc26,kf26⟩,⟨kz27,kc27,kf27⟩,_⟩ := hN.2
  have HL := Lib.hid (cells_lt hN.2)
  have HO2 := Lib.hid (fun g hg => off_high (g := g) ho2 hg)
  obtain ⟨m, hm⟩ : ∃ m, m = w7x.heap.size := ⟨_, rfl⟩
  rw [← hm] at HL HO2
  go_wp2_with fail
  refine (RW.out _ _ _ ho2.readsR ho2.reads).mono ?_
  rintro e w8 ⟨B7, n7, d7, B8, n8, d8, rfl, hb, ho4⟩
  rw [← hm] at ho4
  replace hN := hN.next hb
  replace ho1 := ho1.below hb
  replace ho2 := ho2.below hb
  replace ho3 := ho3.below hb
  have HO4 := Lib.hid (off_before ho4)
  clear hb RW hm
  (try clear hHeld0); (try clear hHeld1); (try clear hHeld2); (try clear hHeld3); (try clear hHeld4); (try clear hHeld5); (try clear hHeld6); (try clear hHeld7); (try clear hHeld8); (try clear hHeld9); (try clear hHeld10); (try clear hHeld11); (try clear hHeld12); (try clear hHeld13); (try clear kz0 kc0 kf0); (try clear kz1 kc1 kf1); (try clear kz2 kc2 kf2); (try clear kz3 kc3 kf3); (try clear kz4 kc4 kf4); (try clear kz5 kc5 kf5); (try clear kz6 kc6 kf6); (try clear kz7 kc7 kf7); (try clear kz8 kc8 kf8); (try clear kz9 kc9 kf9); (try clear kz10 kc10 kf10); (try clear kz11 kc11 kf11); (try clear kz12 kc12 kf12); (try clear kz13 kc13 kf13)
  have hM : Keeps w [(w8.heap.size, 0, .int .i64 yk), (w8.heap.size, 1, .slice B7 n7 d7), (w8.heap.size, 2, .int .i64 ya), (w8.heap.size, 3, .int .i64 yr), (w8.heap.size, 4, .int .i64 yn), (w8.heap.size, 5, .int .i64 yd), (w8.heap.size, 6, .slice B8 n8 d8), (w8.heap.size, 7, .int .i64 ye)] (w8.alloc (sgO 27 yk (.slice B7 n7 d7) ya yr yn yd (.slice B8 n8 d8) ye)) := ⟨(hN.alloc _).1, by simp [Cells, go_sem]⟩
  replace hN := hM.app (hN.alloc (sgO 27 yk (.slice B7 n7 d7) ya yr yn yd (.slice B8 n8 d8) ye))
  replace ho1 := ho1.below (below_alloc w8 (sgO 27 yk (.slice B7 n7 d7) ya yr yn yd (.slice B8 n8 d8) ye))
  replace ho2 := ho2.below (below_alloc w8 (sgO 27 yk (.slice B7 n7 d7) ya yr yn yd (.slice B8 n8 d8) ye))
  replace ho3 := ho3.below (below_alloc w8 (sgO 27 yk (.slice B7 n7 d7) ya yr yn yd (.slice B8 n8 d8) ye))
  replace ho4 := ho4.below (below_alloc w8 (sgO 27 yk (.slice B7 n7 d7) ya yr yn yd (.slice B8 n8 d8) ye))
  clear hM
  go_upto_region 12 with (fail)
  generalize w8.alloc (sgO 27 yk (.slice B7 n7 d7) ya yr yn yd (.slice B8 n8 d8) ye) = w8x at *
  generalize w8.heap.size = g14 at *
  (try clear hHeld0); (try clear hHeld1); (try clear hHeld2); (try clear hHeld3); (try clear hHeld4); (try clear hHeld5); (try clear hHeld6); (try clear hHeld7); (try clear hHeld8); (try clear hHeld9); (try clear hHeld10); (try clear hHeld11); (try clear hHeld12); (try clear hHeld13); (try clear kz0 kc0 kf0); (try clear kz1 kc1 kf1); (try clear kz2 kc2 kf2); (try clear kz3 kc3 kf3); (try clear kz4 kc4 kf4); (try clear kz5 kc5 kf5); (try clear kz6 kc6 kf6); (try clear kz7 kc7 kf7); (try clear kz8 kc8 kf8); (try clear kz9 kc9 kf9); (try clear kz10 kc10 kf10); (try clear kz11 kc11 kf11); (try clear kz12 kc12 kf12); (try clear kz13 kc13 kf13)
  obtain ⟨⟨kz0,kc0,kf0⟩,⟨kz1,kc1,kf1⟩,⟨kz2,kc2,kf2⟩,⟨kz3,kc3,kf3⟩,⟨kz4,kc4,kf4⟩,⟨kz5,kc5,kf5⟩,⟨kz6,kc6,kf6⟩,⟨kz7,kc7,kf7⟩,⟨kz8,kc8,kf8⟩,⟨kz9,kc9,kf9⟩,⟨kz10,kc10,kf10⟩,⟨kz11,kc11,kf11⟩,⟨kz12,kc12,kf12⟩,⟨kz13,kc13,kf13⟩,⟨kz14,kc14,kf14⟩,⟨kz15,kc15,kf15⟩,⟨kz16,kc16,kf16⟩,⟨kz17,kc17,kf17⟩,⟨kz18,kc18,kf18⟩,⟨kz19,kc19,kf19⟩,⟨kz20,kc20,kf20⟩,⟨kz21,kc21,kf21⟩,⟨kz22,kc22,kf22⟩,⟨kz23,kc23,kf23⟩,⟨kz24,kc24,kf24⟩,⟨kz25,kc25,kf25⟩,⟨kz26,kc26,kf26⟩,⟨kz27,kc27,kf27⟩,⟨kz28,kc28,kf28⟩,⟨kz29,kc29,kf29⟩,⟨kz30,kc30,kf30⟩,⟨kz31,kc31,kf31⟩,⟨kz32,kc32,kf32⟩,⟨kz33,kc33,kf33⟩,⟨kz34,kc34,kf34⟩,⟨kz35,kc35,kf35⟩,_⟩ := hN.2
  rcases C1 with ⟨rfl, rfl, rfl, SA⟩ | ⟨rfl, hk, rfl, rfl, SA⟩ | ⟨rfl, hk, rfl, rfl, SA⟩
  ·go_wp2_with fail
   refine (SA.out _ _ _ ho3.readsR ho3.reads).mono ?_
   rintro e w10 ⟨rfl, hb⟩
   replace hN := hN.next hb
   replace ho1 := ho1.below hb
   replace ho2 := ho2.below hb
   replace ho3 := ho3.below hb
   replace ho4 := ho4.below hb
   clear hb
   (try clear hHeld0); (try clear hHeld1); (try clear hHeld2); (try clear hHeld3); (try clear hHeld4); (try clear hHeld5); (try clear hHeld6); (try clear hHeld7); (try clear hHeld8); (try clear hHeld9); (try clear hHeld10); (try clear hHeld11); (try clear hHeld12); (try clear hHeld13); (try clear kz0 kc0 kf0); (try clear kz1 kc1 kf1); (try clear kz2 kc2 kf2); (try clear kz3 kc3 kf3); (try clear kz4 kc4 kf4); (try clear kz5 kc5 kf5); (try clear kz6 kc6 kf6); (try clear kz7 kc7 kf7); (try clear kz8 kc8 kf8); (try clear kz9 kc9 kf9); (try clear kz10 kc10 kf10); (try clear kz11 kc11 kf11); (try clear kz12 kc12 kf12); (try clear kz13 kc13 kf13)
   (try clear kz14 kc14 kf14); (try clear kz15 kc15 kf15); (try clear kz16 kc16 kf16); (try clear kz17 kc17 kf17); (try clear kz18 kc18 kf18); (try clear kz19 kc19 kf19); (try clear kz20 kc20 kf20); (try clear kz21 kc21 kf21); (try clear kz22 kc22 kf22); (try clear kz23 kc23 kf23); (try clear kz24 kc24 kf24); (try clear kz25 kc25 kf25); (try clear kz26 kc26 kf26); (try clear kz27 kc27 kf27); (try clear kz28 kc28 kf28); (try clear kz29 kc29 kf29); (try clear kz30 kc30 kf30); (try clear kz31 kc31 kf31); (try clear kz32 kc32 kf32); (try clear kz33 kc33 kf33); (try clear kz34 kc34 kf34); (try clear kz35 kc35 kf35)
   obtain ⟨⟨kz0,kc0,kf0⟩,⟨kz1,kc1,kf1⟩,⟨kz2,kc2,kf2⟩,⟨kz3,kc3,kf3⟩,⟨kz4,kc4,kf4⟩,⟨kz5,kc5,kf5⟩,⟨kz6,kc6,kf6⟩,⟨kz7,kc7,kf7⟩,⟨kz8,kc8,kf8⟩,⟨kz9,kc9,kf9⟩,⟨kz10,kc10,kf10⟩,⟨kz11,kc11,kf11⟩,⟨kz12,kc12,kf12⟩,⟨kz13,kc13,kf13⟩,⟨kz14,kc14,kf14⟩,⟨kz15,kc15,kf15⟩,⟨kz16,kc16,kf16⟩,⟨kz17,kc17,kf17⟩,⟨kz18,kc18,kf18⟩,⟨kz19,kc19,kf19⟩,⟨kz20,kc20,kf20⟩,⟨kz21,kc21,kf21⟩,⟨kz22,kc22,kf22⟩,⟨kz23,kc23,kf23⟩,⟨kz24,kc24,kf24⟩,⟨kz25,kc25,kf25⟩,⟨kz26,kc26,kf26⟩,⟨kz27,kc27,kf27⟩,⟨kz28,kc28,kf28⟩,⟨kz29,kc29,kf29⟩,⟨kz30,kc30,kf30⟩,⟨kz31,kc31,kf31⟩,⟨kz32,kc32,kf32⟩,⟨kz33,kc33,kf33⟩,⟨kz34,kc34,kf34⟩,⟨kz35,kc35,kf35⟩,_⟩ := hN.2
   clear ho1 ho3
   replace hN : Keeps w [(g14, 0, .int .i64 yk), (g14, 1, .slice B7 n7 d7), (g14, 2, .int .i64 ya), (g14, 3, .int .i64 yr), (g14, 4, .int .i64 yn), (g14, 5, .int .i64 yd), (g14, 6, .slice B8 n8 d8), (g14, 7, .int .i64 ye), (g11, 0, .int .i64 qk), (g11, 1, .slice B3 n3 d3), (g11, 2, .int .i64 qa), (g11, 3, .int .i64 qr), (g11, 4, .int .i64 qn), (g11, 5, .int .i64 qd), (g11, 6, .slice B4 n4 d4), (g11, 7, .int .i64 qe)] _ := hN.sub (by simp)
   (try clear kz0 kc0 kf0); (try clear kz1 kc1 kf1); (try clear kz2 kc2 kf2); (try clear kz3 kc3 kf3); (try clear kz4 kc4 kf4); (try clear kz5 kc5 kf5); (try clear kz6 kc6 kf6); (try clear kz7 kc7 kf7); (try clear kz8 kc8 kf8); (try clear kz9 kc9 kf9); (try clear kz10 kc10 kf10); (try clear kz11 kc11 kf11); (try clear kz12 kc12 kf12); (try clear kz13 kc13 kf13); (try clear kz14 kc14 kf14); (try clear kz15 kc15 kf15); (try clear kz16 kc16 kf16); (try clear kz17 kc17 kf17); (try clear kz18 kc18 kf18); (try clear kz19 kc19 kf19); (try clear kz20 kc20 kf20); (try clear kz21 kc21 kf21); (try clear kz22 kc22 kf22); (try clear kz23 kc23 kf23); (try clear kz24 kc24 kf24); (try clear kz25 kc25 kf25); (try clear kz26 kc26 kf26); (try clear kz27 kc27 kf27); (try clear kz28 kc28 kf28); (try clear kz29 kc29 kf29); (try clear kz30 kc30 kf30); (try clear kz31 kc31 kf31); (try clear kz32 kc32 kf32); (try clear kz33 kc33 kf33); (try clear kz34 kc34 kf34); (try clear kz35 kc35 kf35)
   obtain ⟨⟨kz0,kc0,kf0⟩,⟨kz1,kc1,kf1⟩,⟨kz2,kc2,kf2⟩,⟨kz3,kc3,kf3⟩,⟨kz4,kc4,kf4⟩,⟨kz5,kc5,kf5⟩,⟨kz6,kc6,kf6⟩,⟨kz7,kc7,kf7⟩,⟨kz8,kc8,kf8⟩,⟨kz9,kc9,kf9⟩,⟨kz10,kc10,kf10⟩,⟨kz11,kc11,kf11⟩,⟨kz12,kc12,kf12⟩,⟨kz13,kc13,kf13⟩,⟨kz14,kc14,kf14⟩,⟨kz15,kc15,kf15⟩,_⟩ := hN.2
   go_wp2_with fail
   refine (G2.out _ _ _ ho2.readsR ho2.reads).mono ?_
   rintro e w11 ⟨rfl, hb⟩
   replace hN := hN.next hb
   replace ho2 := ho2.below hb
   replace ho4 := ho4.below hb
   clear hb G2
   (try clear hHeld0); (try clear hHeld1); (try clear hHeld2); (try clear hHeld3); (try clear hHeld4); (try clear hHeld5); (try clear hHeld6); (try clear hHeld7); (try clear hHeld8); (try clear hHeld9); (try clear hHeld10); (try clear hHeld11); (try clear hHeld12); (try clear hHeld13); (try clear kz0 kc0 kf0); (try clear kz1 kc1 kf1); (try clear kz2 kc2 kf2); (try clear kz3 kc3 kf3); (try clear kz4 kc4 kf4); (try clear kz5 kc5 kf5); (try clear kz6 kc6 kf6); (try clear kz7 kc7 kf7); (try clear kz8 kc8 kf8); (try clear kz9 kc9 kf9); (try clear kz10 kc10 kf10); (try clear kz11 kc11 kf11); (try clear kz12 kc12 kf12); (try clear kz13 kc13 kf13)
   (try clear kz0 kc0 kf0); (try clear kz1 kc1 kf1); (try clear kz2 kc2 kf2); (try clear kz3 kc3 kf3); (try clear kz4 kc4 kf4); (try clear kz5 kc5 kf5); (try clear kz6 kc6 kf6); (try clear kz7 kc7 kf7); (try clear kz8 kc8 kf8); (try clear kz9 kc9 kf9); (try clear kz10 kc10 kf10); (try clear kz11 kc11 kf11); (try clear kz12 kc12 kf12); (try clear kz13 kc13 kf13); (try clear kz14 kc14 kf14); (try clear kz15 kc15 kf15)
   obtain ⟨⟨kz0,kc0,kf0⟩,⟨kz1,kc1,kf1⟩,⟨kz2,kc2,kf2⟩,⟨kz3,kc3,kf3⟩,⟨kz4,kc4,kf4⟩,⟨kz5,kc5,kf5⟩,⟨kz6,kc6,kf6⟩,⟨kz7,kc7,kf7⟩,⟨kz8,kc8,kf8⟩,⟨kz9,kc9,kf9⟩,⟨kz10,kc10,kf10⟩,⟨kz11,kc11,kf11⟩,⟨kz12,kc12,kf12⟩,⟨kz13,kc13,kf13⟩,⟨kz14,kc14,kf14⟩,⟨kz15,kc15,kf15⟩,_⟩ := hN.2
   rcases C2 with ⟨rfl, rfl, SB⟩ | ⟨rfl, rfl, SB, SS, hR0, hV0⟩
   ·go_wp2_with fail
    refine (SB.out _ _ _ ho4.readsR ho4.reads).mono ?_
    rintro e w12 ⟨rfl, hb⟩
    have hB := under hN.1 hb
    clear hb hN ho2 ho4
    go_wp2_with fail
    go_ret
    exact ⟨rfl, hB⟩
   ·go_wp2_with fail
    refine (SB.out _ _ _ _ _ ho4.readsR ho4.reads ho2.readsR ho2.reads).mono ?_
    rintro e w12 ⟨rfl, hb⟩
    replace hN := hN.next hb
    replace ho2 := ho2.below hb
    replace ho4 := ho4.below hb
    clear hb SB
    (try clear hHeld0); (try clear hHeld1); (try clear hHeld2); (try clear hHeld3); (try clear hHeld4); (try clear hHeld5); (try clear hHeld6); (try clear hHeld7); (try clear hHeld8); (try clear hHeld9); (try clear hHeld10); (try clear hHeld11); (try clear hHeld12); (try clear hHeld13); (try clear kz0 kc0 kf0); (try clear kz1 kc1 kf1); (try clear kz2 kc2 kf2); (try clear kz3 kc3 kf3); (try clear kz4 kc4 kf4); (try clear kz5 kc5 kf5); (try clear kz6 kc6 kf6); (try clear kz7 kc7 kf7); (try clear kz8 kc8 kf8); (try clear kz9 kc9 kf9); (try clear kz10 kc10 kf10); (try clear kz11 kc11 kf11); (try clear kz12 kc12 kf12); (try clear kz13 kc13 kf13)
    (try clear kz0 kc0 kf0); (try clear kz1 kc1 kf1); (try clear kz2 kc2 kf2); (try clear kz3 kc3 kf3); (try clear kz4 kc4 kf4); (try clear kz5 kc5 kf5); (try clear kz6 kc6 kf6); (try clear kz7 kc7 kf7); (try clear kz8 kc8 kf8); (try clear kz9 kc9 kf9); (try clear kz10 kc10 kf10); (try clear kz11 kc11 kf11); (try clear kz12 kc12 kf12); (try clear kz13 kc13 kf13); (try clear kz14 kc14 kf14); (try clear kz15 kc15 kf15)
    obtain ⟨x0, hx0⟩ : ∃ x, (yV.map (Value.int .i64))[0]? = some (.int .i64 x) := by
     cases yV with
     | nil => exact absurd rfl hV0
     | cons x l => exact ⟨x, rfl⟩
    obtain ⟨f0, hf0⟩ : ∃ x, (flatR yR)[0]? = some (.int .i64 x) := by
     cases yR with
     | nil => exact absurd rfl hR0
     | cons x l => exact ⟨x.f, rfl⟩
    obtain ⟨gv, cv, ev, hgv1, hgv2, cv0, fv0, nv0⟩ := first_cell ho4.raws hx0
    obtain ⟨gr, cr, er, hgr1, hgr2, cr0, fr0, nr0⟩ := first_cell ho4.runs hf0
    cases ev
    cases er
    have nV : (0 : Int) < (yV.length : Int) := by simpa using nv0
    have nR : (0 : Int) < (yR.length : Int) := by simpa using nr0
    have hne1 : ∀ q ∈ ([(g14, 0, .int .i64 yk), (g14, 1, .slice (some ⟨gr, 0, none⟩) yR.length d7), (g14, 2, .int .i64 ya), (g14, 3, .int .i64 yr), (g14, 4, .int .i64 yn), (g14, 5, .int .i64 yd), (g14, 6, .slice (some ⟨gv, 0, none⟩) yV.length d8), (g14, 7, .int .i64 ye), (g11, 0, .int .i64 qk), (g11, 1, .slice B3 n3 d3), (g11, 2, .int .i64 qa), (g11, 3, .int .i64 qr), (g11, 4, .int .i64 qn), (g11, 5, .int .i64 qd), (g11, 6, .slice B4 n4 d4), (g11, 7, .int .i64 qe)] : List (Nat × Nat × Value)), q.1 ≠ gv := by
     intro q hq
     rcases List.mem_append.1 (show q ∈ ([(g14, 0, .int .i64 yk), (g14, 1, .slice (some ⟨gr, 0, none⟩) yR.length d7), (g14, 2, .int .i64 ya), (g14, 3, .int .i64 yr), (g14, 4, .int .i64 yn), (g14, 5, .int .i64 yd), (g14, 6, .slice (some ⟨gv, 0, none⟩) yV.length d8), (g14, 7, .int .i64 ye)] : List (Nat × Nat × Value)) ++ _ from hq) with hq | hq
     ·have : q.1 = g14 := by simp at hq; rcases hq with rfl | rfl | rfl | rfl | rfl | rfl | rfl | rfl <;> rfl
      intro hh
      exact HO4.out.2 (by rw [← this, hh]; rfl)
     ·have := HL.out q (List.mem_append_right _ (List.mem_append_left _ hq))
      omega
    have hne2 : ∀ q ∈ ([(g14, 0, .int .i64 yk), (g14, 1, .slice (some ⟨gr, 0, none⟩) yR.length d7), (g14, 2, .int .i64 ya), (g14, 3, .int .i64 yr), (g14, 4, .int .i64 yn), (g14, 5, .int .i64 yd), (g14, 6, .slice (some ⟨gv, 0, none⟩) yV.length d8), (g14, 7, .int .i64 ye), (g11, 0, .int .i64 qk), (g11, 1, .slice B3 n3 d3), (g11, 2, .int .i64 qa), (g11, 3, .int .i64 qr), (g11, 4, .int .i64 qn), (g11, 5, .int .i64 qd), (g11, 6, .slice B4 n4 d4), (g11, 7, .int .i64 qe)] : List (Nat × Nat × Value)), q.1 ≠ gr := by
     intro q hq
     rcases List.mem_append.1 (show q ∈ ([(g14, 0, .int .i64 yk), (g14, 1, .slice (some ⟨gr, 0, none⟩) yR.length d7), (g14, 2, .int .i64 ya), (g14, 3, .int .i64 yr), (g14, 4, .int .i64 yn), (g14, 5, .int .i64 yd), (g14, 6, .slice (some ⟨gv, 0, none⟩) yV.length d8), (g14, 7, .int .i64 ye)] : List (Nat × Nat × Value)) ++ _ from hq) with hq | hq
     ·have : q.1 = g14 := by simp at hq; rcases hq with rfl | rfl | rfl | rfl | rfl | rfl | rfl | rfl <;> rfl
      intro hh
      exact HO4.out.1 (by rw [← this, hh]; rfl)
     ·have := HL.out q (List.mem_append_right _ (List.mem_append_left _ hq))
      omega
    have hm0 : w.heap.size ≤ m := by
     exact Nat.le_of_lt (HL.out (w.heap.size, 0, .int .i64 a) (by simp))
    obtain ⟨f1, cr1⟩ := int_kept cr0 cv0 (wrap64 (x0 + 1))
    have hK1 := Lib.hid (hN.set (p := ⟨gv, 0, none⟩) (Nat.le_trans hm0 hgv1) hne1 (.int .i64 (wrap64 (x0 + 1))))
    have hO1 := Lib.hid (ho2.off1 (i := 0) (HO2.out gv hgv1) (.int .i64 (wrap64 (x0 + 1))))
    have fr1 : (w12.setCell ⟨gv, 0, none⟩ (.int .i64 (wrap64 (x0 + 1)))).frozen? ⟨gr, 0, none⟩ = false := by simp only [World.frozen?_setCell]; exact fr0
    clear cr0 fr0 ho4 ho2
    obtain ⟨⟨kz0,kc0,kf0⟩,⟨kz1,kc1,kf1⟩,⟨kz2,kc2,kf2⟩,⟨kz3,kc3,kf3⟩,⟨kz4,kc4,kf4⟩,⟨kz5,kc5,kf5⟩,⟨kz6,kc6,kf6⟩,⟨kz7,kc7,kf7⟩,⟨kz8,kc8,kf8⟩,⟨kz9,kc9,kf9⟩,⟨kz10,kc10,kf10⟩,⟨kz11,kc11,kf11⟩,⟨kz12,kc12,kf12⟩,⟨kz13,kc13,kf13⟩,⟨kz14,kc14,kf14⟩,⟨kz15,kc15,kf15⟩,_⟩ := hN.2
    go_upto_region 22 with (fail)
    generalize w12.setCell ⟨gv, 0, none⟩ (.int .i64 (wrap64 (x0 + 1))) = w13 at *
    clear hN cv0 fv0
    (try clear hHeld0); (try clear hHeld1); (try clear hHeld2); (try clear hHeld3); (try clear hHeld4); (try clear hHeld5); (try clear hHeld6); (try clear hHeld7); (try clear hHeld8); (try clear hHeld9); (try clear hHeld10); (try clear hHeld11); (try clear hHeld12); (try clear hHeld13); (try clear kz0 kc0 kf0); (try clear kz1 kc1 kf1); (try clear kz2 kc2 kf2); (try clear kz3 kc3 kf3); (try clear kz4 kc4 kf4); (try clear kz5 kc5 kf5); (try clear kz6 kc6 kf6); (try clear kz7 kc7 kf7); (try clear kz8 kc8 kf8); (try clear kz9 kc9 kf9); (try clear kz10 kc10 kf10); (try clear kz11 kc11 kf11); (try clear kz12 kc12 kf12); (try clear kz13 kc13 kf13)
    (try clear kz0 kc0 kf0); (try clear kz1 kc1 kf1); (try clear kz2 kc2 kf2); (try clear kz3 kc3 kf3); (try clear kz4 kc4 kf4); (try clear kz5 kc5 kf5); (try clear kz6 kc6 kf6); (try clear kz7 kc7 kf7); (try clear kz8 kc8 kf8); (try clear kz9 kc9 kf9); (try clear kz10 kc10 kf10); (try clear kz11 kc11 kf11); (try clear kz12 kc12 kf12); (try clear kz13 kc13 kf13); (try clear kz14 kc14 kf14); (try clear kz15 kc15 kf15)
    have hN := hK1.out
    have hK2 := Lib.hid (hN.set (p := ⟨gr, 0, none⟩) (Nat.le_trans hm0 hgr1) hne2 (.int .i64 (wrap64 (f1 + 1))))
    have hO2 := Lib.hid (hO1.out.off1 (i := 0) (HO2.out gr hgr1) (.int .i64 (wrap64 (f1 + 1))))
    obtain ⟨⟨kz0,kc0,kf0⟩,⟨kz1,kc1,kf1⟩,⟨kz2,kc2,kf2⟩,⟨kz3,kc3,kf3⟩,⟨kz4,kc4,kf4⟩,⟨kz5,kc5,kf5⟩,⟨kz6,kc6,kf6⟩,⟨kz7,kc7,kf7⟩,⟨kz8,kc8,kf8⟩,⟨kz9,kc9,kf9⟩,⟨kz10,kc10,kf10⟩,⟨kz11,kc11,kf11⟩,⟨kz12,kc12,kf12⟩,⟨kz13,kc13,kf13⟩,⟨kz14,kc14,kf14⟩,⟨kz15,kc15,kf15⟩,_⟩ := hN.2
    go_upto_region 23 with (fail)
    generalize w13.setCell ⟨gr, 0, none⟩ (.int .i64 (wrap64 (f1 + 1))) = w14 at *
    clear hN cr1 fr1 hK1 hO1 hne1 hne2
    (try clear hHeld0); (try clear hHeld1); (try clear hHeld2); (try clear hHeld3); (try clear hHeld4); (try clear hHeld5); (try clear hHeld6); (try clear hHeld7); (try clear hHeld8); (try clear hHeld9); (try clear hHeld10); (try clear hHeld11); (try clear hHeld12); (try clear hHeld13); (try clear kz0 kc0 kf0); (try clear kz1 kc1 kf1); (try clear kz2 kc2 kf2); (try clear kz3 kc3 kf3); (try clear kz4 kc4 kf4); (try clear kz5 kc5 kf5); (try clear kz6 kc6 kf6); (try clear kz7 kc7 kf7); (try clear kz8 kc8 kf8); (try clear kz9 kc9 kf9); (try clear kz10 kc10 kf10); (try clear kz11 kc11 kf11); (try clear kz12 kc12 kf12); (try clear kz13 kc13 kf13)
    (try clear kz0 kc0 kf0); (try clear kz1 kc1 kf1); (try clear kz2 kc2 kf2); (try clear kz3 kc3 kf3); (try clear kz4 kc4 kf4); (try clear kz5 kc5 kf5); (try clear kz6 kc6 kf6); (try clear kz7 kc7 kf7); (try clear kz8 kc8 kf8); (try clear kz9 kc9 kf9); (try clear kz10 kc10 kf10); (try clear kz11 kc11 kf11); (try clear kz12 kc12 kf12); (try clear kz13 kc13 kf13); (try clear kz14 kc14 kf14); (try clear kz15 kc15 kf15)
    have hS : Keeps w [(g11, 0, .int .i64 qk), (g11, 1, .slice B3 n3 d3), (g11, 2, .int .i64 qa), (g11, 3, .int .i64 qr), (g11, 4, .int .i64 qn), (g11, 5, .int .i64 qd), (g11, 6, .slice B4 n4 d4), (g11, 7, .int .i64 qe)] w14 := hK2.out.sub (by simp)
    have ho2 := hO2.out.below (Below.refl _ _).drew
    clear hK2 hO2 HO4 HL HO2
    refine region_keeps (w0 := w) (L := [(g11, 0, .int .i64 qk), (g11, 1, .slice B3 n3 d3), (g11, 2, .int .i64 qa), (g11, 3, .int .i64 qr), (g11, 4, .int .i64 qn), (g11, 5, .int .i64 qd), (g11, 6, .slice B4 n4 d4), (g11, 7, .int .i64 qe)]) (by kernel_rfl) hS (fun hHeld0 => ?_)
    refine tk 0 109 rfl rfl ?_ ?_ ?_
    rotate_left
    ·intro wq hSw; obtain ⟨⟨_,_,_⟩,⟨_,_,_⟩,⟨_,_,_⟩,⟨_,_,_⟩,⟨_,_,_⟩,⟨_,_,_⟩,⟨_,_,_⟩,⟨_,_,_⟩,_⟩ := hSw.2; go_simp; (try with_reducible rfl)
    try go_frame
    refine tv 1 110 rfl rfl ?_
    try go_frame
    refine tv 2 111 rfl rfl ?_
    try go_frame
    refine tv 3 112 rfl rfl ?_
    try go_frame
    refine tv 4 113 rfl rfl ?_
    try go_frame
    refine ty [5] ?_
    refine AllReadyH.cons rfl (fun K hK => ?_) AllReadyH.nil
    go_simp
    ((with_reducible refine (O2.out _ (by first | with_reducible exact kbel hHeld0 | with_reducible exact kbel hHeld1 | with_reducible exact kbel hHeld2 | with_reducible exact kbel hHeld3 | with_reducible exact kbel hHeld4 | with_reducible exact kbel hHeld5 | with_reducible exact kbel hHeld6 | with_reducible exact kbel hHeld7 | with_reducible exact kbel hHeld8 | with_reducible exact kbel hHeld9 | with_reducible exact kbel hHeld10 | with_reducible exact kbel hHeld11 | with_reducible exact kbel hHeld12 | with_reducible exact kbel hHeld13)).mono ?_); rintro e w15 hq; obtain ⟨B9, n9, d9, B0, n0, d0, rfl, hb, ho9⟩ := own_got hq; clear hq; replace ho2 := ho2.below hb)
    refine hK.out _ _ (hHeld0.next hb) (fun hHeld1 => ?_)
    clear hK K; try clear hb
    try go_frame
    refine ty [6] ?_
    refine AllReadyH.cons rfl (fun K hK => ?_) AllReadyH.nil
    go_simp
    ((with_reducible refine (SS.out _ _ _ _ _ ho2.readsR ho2.reads ho9.readsR ho9.reads).mono ?_); rintro e w16 ⟨rfl, hb⟩)
    refine hK.out _ _ (hHeld1.next hb) (fun hHeld2 => ?_)
    clear hK K; try clear hb
    try go_frame
    refine tv 7 8 rfl rfl ?_
    try go_frame
    refine wpAnyH_done (by kernel_rfl) ?_ _
    have hHeld := hHeld2
    obtain ⟨⟨kz0,kc0,kf0⟩,⟨kz1,kc1,kf1⟩,⟨kz2,kc2,kf2⟩,⟨kz3,kc3,kf3⟩,⟨kz4,kc4,kf4⟩,⟨kz5,kc5,kf5⟩,⟨kz6,kc6,kf6⟩,⟨kz7,kc7,kf7⟩,_⟩ := hHeld.2
    all_goals
     have hB := hHeld.1
     clear hHeld hS
     (try clear hHeld0); (try clear hHeld1); (try clear hHeld2); (try clear hHeld3); (try clear hHeld4); (try clear hHeld5); (try clear hHeld6); (try clear hHeld7); (try clear hHeld8); (try clear hHeld9); (try clear hHeld10); (try clear hHeld11); (try clear hHeld12); (try clear hHeld13); (try clear kz0 kc0 kf0); (try clear kz1 kc1 kf1); (try clear kz2 kc2 kf2); (try clear kz3 kc3 kf3); (try clear kz4 kc4 kf4); (try clear kz5 kc5 kf5); (try clear kz6 kc6 kf6); (try clear kz7 kc7 kf7); (try clear kz8 kc8 kf8); (try clear kz9 kc9 kf9); (try clear kz10 kc10 kf10); (try clear kz11 kc11 kf11); (try clear kz12 kc12 kf12); (try clear kz13 kc13 kf13)
     go_wp2_with fail
     go_ret
     exact ⟨rfl, hB⟩
  ·go_wp2_with fail
   refine (G1.out _ _ _ ho1.readsR ho1.reads).mono ?_
   rintro e w9 ⟨rfl, hb⟩
   replace hN := hN.next hb
   replace ho1 := ho1.below hb
   replace ho2 := ho2.below hb
   replace ho3 := ho3.below hb
   replace ho4 := ho4.below hb
   clear hb
   (try clear hHeld0); (try clear hHeld1); (try clear hHeld2); (try clear hHeld3); (try clear hHeld4); (try clear hHeld5); (try clear hHeld6); (try clear hHeld7); (try clear hHeld8); (try clear hHeld9); (try clear hHeld10); (try clear hHeld11); (try clear hHeld12); (try clear hHeld13); (try clear kz0 kc0 kf0); (try clear kz1 kc1 kf1); (try clear kz2 kc2 kf2); (try clear kz3 kc3 kf3); (try clear kz4 kc4 kf4); (try clear kz5 kc5 kf5); (try clear kz6 kc6 kf6); (try clear kz7 kc7 kf7); (try clear kz8 kc8 kf8); (try clear kz9 kc9 kf9); (try clear kz10 kc10 kf10); (try clear kz11 kc11 kf11); (try clear kz12 kc12 kf12); (try clear kz13 kc13 kf13)
   (try clear kz14 kc14 kf14); (try clear kz15 kc15 kf15); (try clear kz16 kc16 kf16); (try clear kz17 kc17 kf17); (try clear kz18 kc18 kf18); (try clear kz19 kc19 kf19); (try clear kz20 kc20 kf20); (try clear kz21 kc21 kf21); (try clear kz22 kc22 kf22); (try clear kz23 kc23 kf23); (try clear kz24 kc24 kf24); (try clear kz25 kc25 kf25); (try clear kz26 kc26 kf26); (try clear kz27 kc27 kf27); (try clear kz28 kc28 kf28); (try clear kz29 kc29 kf29); (try clear kz30 kc30 kf30); (try clear kz31 kc31 kf31); (try clear kz32 kc32 kf32); (try clear kz33 kc33 kf33); (try clear kz34 kc34 kf34); (try clear kz35 kc35 kf35)
   obtain ⟨⟨kz0,kc0,kf0⟩,⟨kz1,kc1,kf1⟩,⟨kz2,kc2,kf2⟩,⟨kz3,kc3,kf3⟩,⟨kz4,kc4,kf4⟩,⟨kz5,kc5,kf5⟩,⟨kz6,kc6,kf6⟩,⟨kz7,kc7,kf7⟩,⟨kz8,kc8,kf8⟩,⟨kz9,kc9,kf9⟩,⟨kz10,kc10,kf10⟩,⟨kz11,kc11,kf11⟩,⟨kz12,kc12,kf12⟩,⟨kz13,kc13,kf13⟩,⟨kz14,kc14,kf14⟩,⟨kz15,kc15,kf15⟩,⟨kz16,kc16,kf16⟩,⟨kz17,kc17,kf17⟩,⟨kz18,kc18,kf18⟩,⟨kz19,kc19,kf19⟩,⟨kz20,kc20,kf20⟩,⟨kz21,kc21,kf21⟩,⟨kz22,kc22,kf22⟩,⟨kz23,kc23,kf23⟩,⟨kz24,kc24,kf24⟩,⟨kz25,kc25,kf25⟩,⟨kz26,kc26,kf26⟩,⟨kz27,kc27,kf27⟩,⟨kz28,kc28,kf28⟩,⟨kz29,kc29,kf29⟩,⟨kz30,kc30,kf30⟩,⟨kz31,kc31,kf31⟩,⟨kz32,kc32,kf32⟩,⟨kz33,kc33,kf33⟩,⟨kz34,kc34,kf34⟩,⟨kz35,kc35,kf35⟩,_⟩ := hN.2
   go_wp2_with fail
   refine (SA.out _ _ _ ho3.readsR ho3.reads).mono ?_
   rintro e w10 ⟨rfl, hb⟩
   replace hN := hN.next hb
   replace ho1 := ho1.below hb
   replace ho2 := ho2.below hb
   replace ho3 := ho3.below hb
   replace ho4 := ho4.below hb
   clear hb
   (try clear hHeld0); (try clear hHeld1); (try clear hHeld2); (try clear hHeld3); (try clear hHeld4); (try clear hHeld5); (try clear hHeld6); (try clear hHeld7); (try clear hHeld8); (try clear hHeld9); (try clear hHeld10); (try clear hHeld11); (try clear hHeld12); (try clear hHeld13); (try clear kz0 kc0 kf0); (try clear kz1 kc1 kf1); (try clear kz2 kc2 kf2); (try clear kz3 kc3 kf3); (try clear kz4 kc4 kf4); (try clear kz5 kc5 kf5); (try clear kz6 kc6 kf6); (try clear kz7 kc7 kf7); (try clear kz8 kc8 kf8); (try clear kz9 kc9 kf9); (try clear kz10 kc10 kf10); (try clear kz11 kc11 kf11); (try clear kz12 kc12 kf12); (try clear kz13 kc13 kf13)
   (try clear kz14 kc14 kf14); (try clear kz15 kc15 kf15); (try clear kz16 kc16 kf16); (try clear kz17 kc17 kf17); (try clear kz18 kc18 kf18); (try clear kz19 kc19 kf19); (try clear kz20 kc20 kf20); (try clear kz21 kc21 kf21); (try clear kz22 kc22 kf22); (try clear kz23 kc23 kf23); (try clear kz24 kc24 kf24); (try clear kz25 kc25 kf25); (try clear kz26 kc26 kf26); (try clear kz27 kc27 kf27); (try clear kz28 kc28 kf28); (try clear kz29 kc29 kf29); (try clear kz30 kc30 kf30); (try clear kz31 kc31 kf31); (try clear kz32 kc32 kf32); (try clear kz33 kc33 kf33); (try clear kz34 kc34 kf34); (try clear kz35 kc35 kf35)
   obtain ⟨⟨kz0,kc0,kf0⟩,⟨kz1,kc1,kf1⟩,⟨kz2,kc2,kf2⟩,⟨kz3,kc3,kf3⟩,⟨kz4,kc4,kf4⟩,⟨kz5,kc5,kf5⟩,⟨kz6,kc6,kf6⟩,⟨kz7,kc7,kf7⟩,⟨kz8,kc8,kf8⟩,⟨kz9,kc9,kf9⟩,⟨kz10,kc10,kf10⟩,⟨kz11,kc11,kf11⟩,⟨kz12,kc12,kf12⟩,⟨kz13,kc13,kf13⟩,⟨kz14,kc14,kf14⟩,⟨kz15,kc15,kf15⟩,⟨kz16,kc16,kf16⟩,⟨kz17,kc17,kf17⟩,⟨kz18,kc18,kf18⟩,⟨kz19,kc19,kf19⟩,⟨kz20,kc20,kf20⟩,⟨kz21,kc21,kf21⟩,⟨kz22,kc22,kf22⟩,⟨kz23,kc23,kf23⟩,⟨kz24,kc24,kf24⟩,⟨kz25,kc25,kf25⟩,⟨kz26,kc26,kf26⟩,⟨kz27,kc27,kf27⟩,⟨kz28,kc28,kf28⟩,⟨kz29,kc29,kf29⟩,⟨kz30,kc30,kf30⟩,⟨kz31,kc31,kf31⟩,⟨kz32,kc32,kf32⟩,⟨kz33,kc33,kf33⟩,⟨kz34,kc34,kf34⟩,⟨kz35,kc35,kf35⟩,_⟩ := hN.2
   clear ho1 ho3
   replace hN : Keeps w [(g14, 0, .int .i64 yk), (g14, 1, .slice B7 n7 d7), (g14, 2, .int .i64 ya), (g14, 3, .int .i64 yr), (g14, 4, .int .i64 yn), (g14, 5, .int .i64 yd), (g14, 6, .slice B8 n8 d8), (g14, 7, .int .i64 ye), (g11, 0, .int .i64 qk), (g11, 1, .slice B3 n3 d3), (g11, 2, .int .i64 qa), (g11, 3, .int .i64 qr), (g11, 4, .int .i64 qn), (g11, 5, .int .i64 qd), (g11, 6, .slice B4 n4 d4), (g11, 7, .int .i64 qe)] _ := hN.sub (by simp)
   (try clear kz0 kc0 kf0); (try clear kz1 kc1 kf1); (try clear kz2 kc2 kf2); (try clear kz3 kc3 kf3); (try clear kz4 kc4 kf4); (try clear kz5 kc5 kf5); (try clear kz6 kc6 kf6); (try clear kz7 kc7 kf7); (try clear kz8 kc8 kf8); (try clear kz9 kc9 kf9); (try clear kz10 kc10 kf10); (try clear kz11 kc11 kf11); (try clear kz12 kc12 kf12); (try clear kz13 kc13 kf13); (try clear kz14 kc14 kf14); (try clear kz15 kc15 kf15); (try clear kz16 kc16 kf16); (try clear kz17 kc17 kf17); (try clear kz18 kc18 kf18); (try clear kz19 kc19 kf19); (try clear kz20 kc20 kf20); (try clear kz21 kc21 kf21); (try clear kz22 kc22 kf22); (try clear kz23 kc23 kf23); (try clear kz24 kc24 kf24); (try clear kz25 kc25 kf25); (try clear kz26 kc26 kf26); (try clear kz27 kc27 kf27); (try clear kz28 kc28 kf28); (try clear kz29 kc29 kf29); (try clear kz30 kc30 kf30); (try clear kz31 kc31 kf31); (try clear kz32 kc32 kf32); (try clear kz33 kc33 kf33); (try clear kz34 kc34 kf34); (try clear kz35 kc35 kf35)
   obtain ⟨⟨kz0,kc0,kf0⟩,⟨kz1,kc1,kf1⟩,⟨kz2,kc2,kf2⟩,⟨kz3,kc3,kf3⟩,⟨kz4,kc4,kf4⟩,⟨kz5,kc5,kf5⟩,⟨kz6,kc6,kf6⟩,⟨kz7,kc7,kf7⟩,⟨kz8,kc8,kf8⟩,⟨kz9,kc9,kf9⟩,⟨kz10,kc10,kf10⟩,⟨kz11,kc11,kf11⟩,⟨kz12,kc12,kf12⟩,⟨kz13,kc13,kf13⟩,⟨kz14,kc14,kf14⟩,⟨kz15,kc15,kf15⟩,_⟩ := hN.2
   go_wp2_with fail
   refine (G2.out _ _ _ ho2.readsR ho2.reads).mono ?_
   rintro e w11 ⟨rfl, hb⟩
   replace hN := hN.next hb
   replace ho2 := ho2.below hb
   replace ho4 := ho4.below hb
   clear hb G2
   (try clear hHeld0); (try clear hHeld1); (try clear hHeld2); (try clear hHeld3); (try clear hHeld4); (try clear hHeld5); (try clear hHeld6); (try clear hHeld7); (try clear hHeld8); (try clear hHeld9); (try clear hHeld10); (try clear hHeld11); (try clear hHeld12); (try clear hHeld13); (try clear kz0 kc0 kf0); (try clear kz1 kc1 kf1); (try clear kz2 kc2 kf2); (try clear kz3 kc3 kf3); (try clear kz4 kc4 kf4); (try clear kz5 kc5 kf5); (try clear kz6 kc6 kf6); (try clear kz7 kc7 kf7); (try clear kz8 kc8 kf8); (try clear kz9 kc9 kf9); (try clear kz10 kc10 kf10); (try clear kz11 kc11 kf11); (try clear kz12 kc12 kf12); (try clear kz13 kc13 kf13)
   (try clear kz0 kc0 kf0); (try clear kz1 kc1 kf1); (try clear kz2 kc2 kf2); (try clear kz3 kc3 kf3); (try clear kz4 kc4 kf4); (try clear kz5 kc5 kf5); (try clear kz6 kc6 kf6); (try clear kz7 kc7 kf7); (try clear kz8 kc8 kf8); (try clear kz9 kc9 kf9); (try clear kz10 kc10 kf10); (try clear kz11 kc11 kf11); (try clear kz12 kc12 kf12); (try clear kz13 kc13 kf13); (try clear kz14 kc14 kf14); (try clear kz15 kc15 kf15)
   obtain ⟨⟨kz0,kc0,kf0⟩,⟨kz1,kc1,kf1⟩,⟨kz2,kc2,kf2⟩,⟨kz3,kc3,kf3⟩,⟨kz4,kc4,kf4⟩,⟨kz5,kc5,kf5⟩,⟨kz6,kc6,kf6⟩,⟨kz7,kc7,kf7⟩,⟨kz8,kc8,kf8⟩,⟨kz9,kc9,kf9⟩,⟨kz10,kc10,kf10⟩,⟨kz11,kc11,kf11⟩,⟨kz12,kc12,kf12⟩,⟨kz13,kc13,kf13⟩,⟨kz14,kc14,kf14⟩,⟨kz15,kc15,kf15⟩,_⟩ := hN.2
   rcases C2 with ⟨rfl, rfl, SB⟩ | ⟨rfl, rfl, SB, SS, hR0, hV0⟩
   ·go_wp2_with fail
    refine (SB.out _ _ _ ho4.readsR ho4.reads).mono ?_
    rintro e w12 ⟨rfl, hb⟩
    have hB := under hN.1 hb
    clear hb hN ho2 ho4
    go_wp2_with fail
    go_ret
    exact ⟨rfl, hB⟩
   ·go_wp2_with fail
    refine (SB.out _ _ _ _ _ ho4.readsR ho4.reads ho2.readsR ho2.reads).mono ?_
    rintro e w12 ⟨rfl, hb⟩
    replace hN := hN.next hb
    replace ho2 := ho2.below hb
    replace ho4 := ho4.below hb
    clear hb SB
    (try clear hHeld0); (try clear hHeld1); (try clear hHeld2); (try clear hHeld3); (try clear hHeld4); (try clear hHeld5); (try clear hHeld6); (try clear hHeld7); (try clear hHeld8); (try clear hHeld9); (try clear hHeld10); (try clear hHeld11); (try clear hHeld12); (try clear hHeld13); (try clear kz0 kc0 kf0); (try clear kz1 kc1 kf1); (try clear kz2 kc2 kf2); (try clear kz3 kc3 kf3); (try clear kz4 kc4 kf4); (try clear kz5 kc5 kf5); (try clear kz6 kc6 kf6); (try clear kz7 kc7 kf7); (try clear kz8 kc8 kf8); (try clear kz9 kc9 kf9); (try clear kz10 kc10 kf10); (try clear kz11 kc11 kf11); (try clear kz12 kc12 kf12); (try clear kz13 kc13 kf13)
    (try clear kz0 kc0 kf0); (try clear kz1 kc1 kf1); (try clear kz2 kc2 kf2); (try clear kz3 kc3 kf3); (try clear kz4 kc4 kf4); (try clear kz5 kc5 kf5); (try clear kz6 kc6 kf6); (try clear kz7 kc7 kf7); (try clear kz8 kc8 kf8); (try clear kz9 kc9 kf9); (try clear kz10 kc10 kf10); (try clear kz11 kc11 kf11); (try clear kz12 kc12 kf12); (try clear kz13 kc13 kf13); (try clear kz14 kc14 kf14); (try clear kz15 kc15 kf15)
    obtain ⟨x0, hx0⟩ : ∃ x, (yV.map (Value.int .i64))[0]? = some (.int .i64 x) := by
     cases yV with
     | nil => exact absurd rfl hV0
     | cons x l => exact ⟨x, rfl⟩
    obtain ⟨f0, hf0⟩ : ∃ x, (flatR yR)[0]? = some (.int .i64 x) := by
     cases yR with
     | nil => exact absurd rfl hR0
     | cons x l => exact ⟨x.f, rfl⟩
    obtain ⟨gv, cv, ev, hgv1, hgv2, cv0, fv0, nv0⟩ := first_cell ho4.raws hx0
    obtain ⟨gr, cr, er, hgr1, hgr2, cr0, fr0, nr0⟩ := first_cell ho4.runs hf0
    cases ev
    cases er
    have nV : (0 : Int) < (yV.length : Int) := by simpa using nv0
    have nR : (0 : Int) < (yR.length : Int) := by simpa using nr0
    have hne1 : ∀ q ∈ ([(g14, 0, .int .i64 yk), (g14, 1, .slice (some ⟨gr, 0, none⟩) yR.length d7), (g14, 2, .int .i64 ya), (g14, 3, .int .i64 yr), (g14, 4, .int .i64 yn), (g14, 5, .int .i64 yd), (g14, 6, .slice (some ⟨gv, 0, none⟩) yV.length d8), (g14, 7, .int .i64 ye), (g11, 0, .int .i64 qk), (g11, 1, .slice B3 n3 d3), (g11, 2, .int .i64 qa), (g11, 3, .int .i64 qr), (g11, 4, .int .i64 qn), (g11, 5, .int .i64 qd), (g11, 6, .slice B4 n4 d4), (g11, 7, .int .i64 qe)] : List (Nat × Nat × Value)), q.1 ≠ gv := by
     intro q hq
     rcases List.mem_append.1 (show q ∈ ([(g14, 0, .int .i64 yk), (g14, 1, .slice (some ⟨gr, 0, none⟩) yR.length d7), (g14, 2, .int .i64 ya), (g14, 3, .int .i64 yr), (g14, 4, .int .i64 yn), (g14, 5, .int .i64 yd), (g14, 6, .slice (some ⟨gv, 0, none⟩) yV.length d8), (g14, 7, .int .i64 ye)] : List (Nat × Nat × Value)) ++ _ from hq) with hq | hq
     ·have : q.1 = g14 := by simp at hq; rcases hq with rfl | rfl | rfl | rfl | rfl | rfl | rfl | rfl <;> rfl
      intro hh
      exact HO4.out.2 (by rw [← this, hh]; rfl)
     ·have := HL.out q (List.mem_append_right _ (List.mem_append_left _ hq))
      omega
    have hne2 : ∀ q ∈ ([(g14, 0, .int .i64 yk), (g14, 1, .slice (some ⟨gr, 0, none⟩) yR.length d7), (g14, 2, .int .i64 ya), (g14, 3, .int .i64 yr), (g14, 4, .int .i64 yn), (g14, 5, .int .i64 yd), (g14, 6, .slice (some ⟨gv, 0, none⟩) yV.length d8), (g14, 7, .int .i64 ye), (g11, 0, .int .i64 qk), (g11, 1, .slice B3 n3 d3), (g11, 2, .int .i64 qa), (g11, 3, .int .i64 qr), (g11, 4, .int .i64 qn), (g11, 5, .int .i64 qd), (g11, 6, .slice B4 n4 d4), (g11, 7, .int .i64 qe)] : List (Nat × Nat × Value)), q.1 ≠ gr := by
     intro q hq
     rcases List.mem_append.1 (show q ∈ ([(g14, 0, .int .i64 yk), (g14, 1, .slice (some ⟨gr, 0, none⟩) yR.length d7), (g14, 2, .int .i64 ya), (g14, 3, .int .i64 yr), (g14, 4, .int .i64 yn), (g14, 5, .int .i64 yd), (g14, 6, .slice (some ⟨gv, 0, none⟩) yV.length d8), (g14, 7, .int .i64 ye)] : List (Nat × Nat × Value)) ++ _ from hq) with hq | hq
     ·have : q.1 = g14 := by simp at hq; rcases hq with rfl | rfl | rfl | rfl | rfl | rfl | rfl | rfl <;> rfl
      intro hh
      exact HO4.out.1 (by rw [← this, hh]; rfl)
     ·have := HL.out q (List.mem_append_right _ (List.mem_append_left _ hq))
      omega
    have hm0 : w.heap.size ≤ m := by
     exact Nat.le_of_lt (HL.out (w.heap.size, 0, .int .i64 a) (by simp))
    obtain ⟨f1, cr1⟩ := int_kept cr0 cv0 (wrap64 (x0 + 1))
    have hK1 := Lib.hid (hN.set (p := ⟨gv, 0, none⟩) (Nat.le_trans hm0 hgv1) hne1 (.int .i64 (wrap64 (x0 + 1))))
    have hO1 := Lib.hid (ho2.off1 (i := 0) (HO2.out gv hgv1) (.int .i64 (wrap64 (x0 + 1))))
    have fr1 : (w12.setCell ⟨gv, 0, none⟩ (.int .i64 (wrap64 (x0 + 1)))).frozen? ⟨gr, 0, none⟩ = false := by simp only [World.frozen?_setCell]; exact fr0
    clear cr0 fr0 ho4 ho2
    obtain ⟨⟨kz0,kc0,kf0⟩,⟨kz1,kc1,kf1⟩,⟨kz2,kc2,kf2⟩,⟨kz3,kc3,kf3⟩,⟨kz4,kc4,kf4⟩,⟨kz5,kc5,kf5⟩,⟨kz6,kc6,kf6⟩,⟨kz7,kc7,kf7⟩,⟨kz8,kc8,kf8⟩,⟨kz9,kc9,kf9⟩,⟨kz10,kc10,kf10⟩,⟨kz11,kc11,kf11⟩,⟨kz12,kc12,kf12⟩,⟨kz13,kc13,kf13⟩,⟨kz14,kc14,kf14⟩,⟨kz15,kc15,kf15⟩,_⟩ := hN.2
    go_upto_region 22 with (fail)
    generalize w12.setCell ⟨gv, 0, none⟩ (.int .i64 (wrap64 (x0 + 1))) = w13 at *
    clear hN cv0 fv0
    (try clear hHeld0); (try clear hHeld1); (try clear hHeld2); (try clear hHeld3); (try clear hHeld4); (try clear hHeld5); (try clear hHeld6); (try clear hHeld7); (try clear hHeld8); (try clear hHeld9); (try clear hHeld10); (try clear hHeld11); (try clear hHeld12); (try clear hHeld13); (try clear kz0 kc0 kf0); (try clear kz1 kc1 kf1); (try clear kz2 kc2 kf2); (try clear kz3 kc3 kf3); (try clear kz4 kc4 kf4); (try clear kz5 kc5 kf5); (try clear kz6 kc6 kf6); (try clear kz7 kc7 kf7); (try clear kz8 kc8 kf8); (try clear kz9 kc9 kf9); (try clear kz10 kc10 kf10); (try clear kz11 kc11 kf11); (try clear kz12 kc12 kf12); (try clear kz13 kc13 kf13)
    (try clear kz0 kc0 kf0); (try clear kz1 kc1 kf1); (try clear kz2 kc2 kf2); (try clear kz3 kc3 kf3); (try clear kz4 kc4 kf4); (try clear kz5 kc5 kf5); (try clear kz6 kc6 kf6); (try clear kz7 kc7 kf7); (try clear kz8 kc8 kf8); (try clear kz9 kc9 kf9); (try clear kz10 kc10 kf10); (try clear kz11 kc11 kf11); (try clear kz12 kc12 kf12); (try clear kz13 kc13 kf13); (try clear kz14 kc14 kf14); (try clear kz15 kc15 kf15)
    have hN := hK1.out
    have hK2 := Lib.hid (hN.set (p := ⟨gr, 0, none⟩) (Nat.le_trans hm0 hgr1) hne2 (.int .i64 (wrap64 (f1 + 1))))
    have hO2 := Lib.hid (hO1.out.off1 (i := 0) (HO2.out gr hgr1) (.int .i64 (wrap64 (f1 + 1))))
    obtain ⟨⟨kz0,kc0,kf0⟩,⟨kz1,kc1,kf1⟩,⟨kz2,kc2,kf2⟩,⟨kz3,kc3,kf3⟩,⟨kz4,kc4,kf4⟩,⟨kz5,kc5,kf5⟩,⟨kz6,kc6,kf6⟩,⟨kz7,kc7,kf7⟩,⟨kz8,kc8,kf8⟩,⟨kz9,kc9,kf9⟩,⟨kz10,kc10,kf10⟩,⟨kz11,kc11,kf11⟩,⟨kz12,kc12,kf12⟩,⟨kz13,kc13,kf13⟩,⟨kz14,kc14,kf14⟩,⟨kz15,kc15,kf15⟩,_⟩ := hN.2
    go_upto_region 23 with (fail)
    generalize w13.setCell ⟨gr, 0, none⟩ (.int .i64 (wrap64 (f1 + 1))) = w14 at *
    clear hN cr1 fr1 hK1 hO1 hne1 hne2
    (try clear hHeld0); (try clear hHeld1); (try clear hHeld2); (try clear hHeld3); (try clear hHeld4); (try clear hHeld5); (try clear hHeld6); (try clear hHeld7); (try clear hHeld8); (try clear hHeld9); (try clear hHeld10); (try clear hHeld11); (try clear hHeld12); (try clear hHeld13); (try clear kz0 kc0 kf0); (try clear kz1 kc1 kf1); (try clear kz2 kc2 kf2); (try clear kz3 kc3 kf3); (try clear kz4 kc4 kf4); (try clear kz5 kc5 kf5); (try clear kz6 kc6 kf6); (try clear kz7 kc7 kf7); (try clear kz8 kc8 kf8); (try clear kz9 kc9 kf9); (try clear kz10 kc10 kf10); (try clear kz11 kc11 kf11); (try clear kz12 kc12 kf12); (try clear kz13 kc13 kf13)
    (try clear kz0 kc0 kf0); (try clear kz1 kc1 kf1); (try clear kz2 kc2 kf2); (try clear kz3 kc3 kf3); (try clear kz4 kc4 kf4); (try clear kz5 kc5 kf5); (try clear kz6 kc6 kf6); (try clear kz7 kc7 kf7); (try clear kz8 kc8 kf8); (try clear kz9 kc9 kf9); (try clear kz10 kc10 kf10); (try clear kz11 kc11 kf11); (try clear kz12 kc12 kf12); (try clear kz13 kc13 kf13); (try clear kz14 kc14 kf14); (try clear kz15 kc15 kf15)
    have hS : Keeps w [(g11, 0, .int .i64 qk), (g11, 1, .slice B3 n3 d3), (g11, 2, .int .i64 qa), (g11, 3, .int .i64 qr), (g11, 4, .int .i64 qn), (g11, 5, .int .i64 qd), (g11, 6, .slice B4 n4 d4), (g11, 7, .int .i64 qe)] w14 := hK2.out.sub (by simp)
    have ho2 := hO2.out.below (Below.refl _ _).drew
    clear hK2 hO2 HO4 HL HO2
    refine region_keeps (w0 := w) (L := [(g11, 0, .int .i64 qk), (g11, 1, .slice B3 n3 d3), (g11, 2, .int .i64 qa), (g11, 3, .int .i64 qr), (g11, 4, .int .i64 qn), (g11, 5, .int .i64 qd), (g11, 6, .slice B4 n4 d4), (g11, 7, .int .i64 qe)]) (by kernel_rfl) hS (fun hHeld0 => ?_)
    refine tk 0 109 rfl rfl ?_ ?_ ?_
    rotate_left
    ·intro wq hSw; obtain ⟨⟨_,_,_⟩,⟨_,_,_⟩,⟨_,_,_⟩,⟨_,_,_⟩,⟨_,_,_⟩,⟨_,_,_⟩,⟨_,_,_⟩,⟨_,_,_⟩,_⟩ := hSw.2; go_simp; (try with_reducible rfl)
    try go_frame
    refine tv 1 110 rfl rfl ?_
    try go_frame
    refine tv 2 111 rfl rfl ?_
    try go_frame
    refine tv 3 112 rfl rfl ?_
    try go_frame
    refine tv 4 113 rfl rfl ?_
    try go_frame
    refine ty [5] ?_
    refine AllReadyH.cons rfl (fun K hK => ?_) AllReadyH.nil
    go_simp
    ((with_reducible refine (O2.out _ (by first | with_reducible exact kbel hHeld0 | with_reducible exact kbel hHeld1 | with_reducible exact kbel hHeld2 | with_reducible exact kbel hHeld3 | with_reducible exact kbel hHeld4 | with_reducible exact kbel hHeld5 | with_reducible exact kbel hHeld6 | with_reducible exact kbel hHeld7 | with_reducible exact kbel hHeld8 | with_reducible exact kbel hHeld9 | with_reducible exact kbel hHeld10 | with_reducible exact kbel hHeld11 | with_reducible exact kbel hHeld12 | with_reducible exact kbel hHeld13)).mono ?_); rintro e w15 hq; obtain ⟨B9, n9, d9, B0, n0, d0, rfl, hb, ho9⟩ := own_got hq; clear hq; replace ho2 := ho2.below hb)
    refine hK.out _ _ (hHeld0.next hb) (fun hHeld1 => ?_)
    clear hK K; try clear hb
    try go_frame
    refine ty [6] ?_
    refine AllReadyH.cons rfl (fun K hK => ?_) AllReadyH.nil
    go_simp
    ((with_reducible refine (SS.out _ _ _ _ _ ho2.readsR ho2.reads ho9.readsR ho9.reads).mono ?_); rintro e w16 ⟨rfl, hb⟩)
    refine hK.out _ _ (hHeld1.next hb) (fun hHeld2 => ?_)
    clear hK K; try clear hb
    try go_frame
    refine tv 7 8 rfl rfl ?_
    try go_frame
    refine wpAnyH_done (by kernel_rfl) ?_ _
    have hHeld := hHeld2
    obtain ⟨⟨kz0,kc0,kf0⟩,⟨kz1,kc1,kf1⟩,⟨kz2,kc2,kf2⟩,⟨kz3,kc3,kf3⟩,⟨kz4,kc4,kf4⟩,⟨kz5,kc5,kf5⟩,⟨kz6,kc6,kf6⟩,⟨kz7,kc7,kf7⟩,_⟩ := hHeld.2
    all_goals
     have hB := hHeld.1
     clear hHeld hS
     (try clear hHeld0); (try clear hHeld1); (try clear hHeld2); (try clear hHeld3); (try clear hHeld4); (try clear hHeld5); (try clear hHeld6); (try clear hHeld7); (try clear hHeld8); (try clear hHeld9); (try clear hHeld10); (try clear hHeld11); (try clear hHeld12); (try clear hHeld13); (try clear kz0 kc0 kf0); (try clear kz1 kc1 kf1); (try clear kz2 kc2 kf2); (try clear kz3 kc3 kf3); (try clear kz4 kc4 kf4); (try clear kz5 kc5 kf5); (try clear kz6 kc6 kf6); (try clear kz7 kc7 kf7); (try clear kz8 kc8 kf8); (try clear kz9 kc9 kf9); (try clear kz10 kc10 kf10); (try clear kz11 kc11 kf11); (try clear kz12 kc12 kf12); (try clear kz13 kc13 kf13)
     go_wp2_with fail
     go_ret
     exact ⟨rfl, hB⟩
  ·go_wp2_with fail
   refine (G1.out _ _ _ ho1.readsR ho1.reads).mono ?_
   rintro e w9 ⟨rfl, hb⟩
   replace hN := hN.next hb
   replace ho1 := ho1.below hb
   replace ho2 := ho2.below hb
   replace ho3 := ho3.below hb
   replace ho4 := ho4.below hb
   clear hb
   (try clear hHeld0); (try clear hHeld1); (try clear hHeld2); (try clear hHeld3); (try clear hHeld4); (try clear hHeld5); (try clear hHeld6); (try clear hHeld7); (try clear hHeld8); (try clear hHeld9); (try clear hHeld10); (try clear hHeld11); (try clear hHeld12); (try clear hHeld13); (try clear kz0 kc0 kf0); (try clear kz1 kc1 kf1); (try clear kz2 kc2 kf2); (try clear kz3 kc3 kf3); (try clear kz4 kc4 kf4); (try clear kz5 kc5 kf5); (try clear kz6 kc6 kf6); (try clear kz7 kc7 kf7); (try clear kz8 kc8 kf8); (try clear kz9 kc9 kf9); (try clear kz10 kc10 kf10); (try clear kz11 kc11 kf11); (try clear kz12 kc12 kf12); (try clear kz13 kc13 kf13)
   (try clear kz14 kc14 kf14); (try clear kz15 kc15 kf15); (try clear kz16 kc16 kf16); (try clear kz17 kc17 kf17); (try clear kz18 kc18 kf18); (try clear kz19 kc19 kf19); (try clear kz20 kc20 kf20); (try clear kz21 kc21 kf21); (try clear kz22 kc22 kf22); (try clear kz23 kc23 kf23); (try clear kz24 kc24 kf24); (try clear kz25 kc25 kf25); (try clear kz26 kc26 kf26); (try clear kz27 kc27 kf27); (try clear kz28 kc28 kf28); (try clear kz29 kc29 kf29); (try clear kz30 kc30 kf30); (try clear kz31 kc31 kf31); (try clear kz32 kc32 kf32); (try clear kz33 kc33 kf33); (try clear kz34 kc34 kf34); (try clear kz35 kc35 kf35)
   obtain ⟨⟨kz0,kc0,kf0⟩,⟨kz1,kc1,kf1⟩,⟨kz2,kc2,kf2⟩,⟨kz3,kc3,kf3⟩,⟨kz4,kc4,kf4⟩,⟨kz5,kc5,kf5⟩,⟨kz6,kc6,kf6⟩,⟨kz7,kc7,kf7⟩,⟨kz8,kc8,kf8⟩,⟨kz9,kc9,kf9⟩,⟨kz10,kc10,kf10⟩,⟨kz11,kc11,kf11⟩,⟨kz12,kc12,kf12⟩,⟨kz13,kc13,kf13⟩,⟨kz14,kc14,kf14⟩,⟨kz15,kc15,kf15⟩,⟨kz16,kc16,kf16⟩,⟨kz17,kc17,kf17⟩,⟨kz18,kc18,kf18⟩,⟨kz19,kc19,kf19⟩,⟨kz20,kc20,kf20⟩,⟨kz21,kc21,kf21⟩,⟨kz22,kc22,kf22⟩,⟨kz23,kc23,kf23⟩,⟨kz24,kc24,kf24⟩,⟨kz25,kc25,kf25⟩,⟨kz26,kc26,kf26⟩,⟨kz27,kc27,kf27⟩,⟨kz28,kc28,kf28⟩,⟨kz29,kc29,kf29⟩,⟨kz30,kc30,kf30⟩,⟨kz31,kc31,kf31⟩,⟨kz32,kc32,kf32⟩,⟨kz33,kc33,kf33⟩,⟨kz34,kc34,kf34⟩,⟨kz35,kc35,kf35⟩,_⟩ := hN.2
   go_wp2_with fail
   refine (SA.out _ _ _ _ _ ho3.readsR ho3.reads ho1.readsR ho1.reads).mono ?_
   rintro e w10 ⟨rfl, hb⟩
   replace hN := hN.next hb
   replace ho1 := ho1.below hb
   replace ho2 := ho2.below hb
   replace ho3 := ho3.below hb
   replace ho4 := ho4.below hb
   clear hb
   (try clear hHeld0); (try clear hHeld1); (try clear hHeld2); (try clear hHeld3); (try clear hHeld4); (try clear hHeld5); (try clear hHeld6); (try clear hHeld7); (try clear hHeld8); (try clear hHeld9); (try clear hHeld10); (try clear hHeld11); (try clear hHeld12); (try clear hHeld13); (try clear kz0 kc0 kf0); (try clear kz1 kc1 kf1); (try clear kz2 kc2 kf2); (try clear kz3 kc3 kf3); (try clear kz4 kc4 kf4); (try clear kz5 kc5 kf5); (try clear kz6 kc6 kf6); (try clear kz7 kc7 kf7); (try clear kz8 kc8 kf8); (try clear kz9 kc9 kf9); (try clear kz10 kc10 kf10); (try clear kz11 kc11 kf11); (try clear kz12 kc12 kf12); (try clear kz13 kc13 kf13)
   (try clear kz14 kc14 kf14); (try clear kz15 kc15 kf15); (try clear kz16 kc16 kf16); (try clear kz17 kc17 kf17); (try clear kz18 kc18 kf18); (try clear kz19 kc19 kf19); (try clear kz20 kc20 kf20); (try clear kz21 kc21 kf21); (try clear kz22 kc22 kf22); (try clear kz23 kc23 kf23); (try clear kz24 kc24 kf24); (try clear kz25 kc25 kf25); (try clear kz26 kc26 kf26); (try clear kz27 kc27 kf27); (try clear kz28 kc28 kf28); (try clear kz29 kc29 kf29); (try clear kz30 kc30 kf30); (try clear kz31 kc31 kf31); (try clear kz32 kc32 kf32); (try clear kz33 kc33 kf33); (try clear kz34 kc34 kf34); (try clear kz35 kc35 kf35)
   obtain ⟨⟨kz0,kc0,kf0⟩,⟨kz1,kc1,kf1⟩,⟨kz2,kc2,kf2⟩,⟨kz3,kc3,kf3⟩,⟨kz4,kc4,kf4⟩,⟨kz5,kc5,kf5⟩,⟨kz6,kc6,kf6⟩,⟨kz7,kc7,kf7⟩,⟨kz8,kc8,kf8⟩,⟨kz9,kc9,kf9⟩,⟨kz10,kc10,kf10⟩,⟨kz11,kc11,kf11⟩,⟨kz12,kc12,kf12⟩,⟨kz13,kc13,kf13⟩,⟨kz14,kc14,kf14⟩,⟨kz15,kc15,kf15⟩,⟨kz16,kc16,kf16⟩,⟨kz17,kc17,kf17⟩,⟨kz18,kc18,kf18⟩,⟨kz19,kc19,kf19⟩,⟨kz20,kc20,kf20⟩,⟨kz21,kc21,kf21⟩,⟨kz22,kc22,kf22⟩,⟨kz23,kc23,kf23⟩,⟨kz24,kc24,kf24⟩,⟨kz25,kc25,kf25⟩,⟨kz26,kc26,kf26⟩,⟨kz27,kc27,kf27⟩,⟨kz28,kc28,kf28⟩,⟨kz29,kc29,kf29⟩,⟨kz30,kc30,kf30⟩,⟨kz31,kc31,kf31⟩,⟨kz32,kc32,kf32⟩,⟨kz33,kc33,kf33⟩,⟨kz34,kc34,kf34⟩,⟨kz35,kc35,kf35⟩,_⟩ := hN.2
   clear ho1 ho3
   replace hN : Keeps w [(g14, 0, .int .i64 yk), (g14, 1, .slice B7 n7 d7), (g14, 2, .int .i64 ya), (g14, 3, .int .i64 yr), (g14, 4, .int .i64 yn), (g14, 5, .int .i64 yd), (g14, 6, .slice B8 n8 d8), (g14, 7, .int .i64 ye), (g11, 0, .int .i64 qk), (g11, 1, .slice B3 n3 d3), (g11, 2, .int .i64 qa), (g11, 3, .int .i64 qr), (g11, 4, .int .i64 qn), (g11, 5, .int .i64 qd), (g11, 6, .slice B4 n4 d4), (g11, 7, .int .i64 qe)] _ := hN.sub (by simp)
   (try clear kz0 kc0 kf0); (try clear kz1 kc1 kf1); (try clear kz2 kc2 kf2); (try clear kz3 kc3 kf3); (try clear kz4 kc4 kf4); (try clear kz5 kc5 kf5); (try clear kz6 kc6 kf6); (try clear kz7 kc7 kf7); (try clear kz8 kc8 kf8); (try clear kz9 kc9 kf9); (try clear kz10 kc10 kf10); (try clear kz11 kc11 kf11); (try clear kz12 kc12 kf12); (try clear kz13 kc13 kf13); (try clear kz14 kc14 kf14); (try clear kz15 kc15 kf15); (try clear kz16 kc16 kf16); (try clear kz17 kc17 kf17); (try clear kz18 kc18 kf18); (try clear kz19 kc19 kf19); (try clear kz20 kc20 kf20); (try clear kz21 kc21 kf21); (try clear kz22 kc22 kf22); (try clear kz23 kc23 kf23); (try clear kz24 kc24 kf24); (try clear kz25 kc25 kf25); (try clear kz26 kc26 kf26); (try clear kz27 kc27 kf27); (try clear kz28 kc28 kf28); (try clear kz29 kc29 kf29); (try clear kz30 kc30 kf30); (try clear kz31 kc31 kf31); (try clear kz32 kc32 kf32); (try clear kz33 kc33 kf33); (try clear kz34 kc34 kf34); (try clear kz35 kc35 kf35)
   obtain ⟨⟨kz0,kc0,kf0⟩,⟨kz1,kc1,kf1⟩,⟨kz2,kc2,kf2⟩,⟨kz3,kc3,kf3⟩,⟨kz4,kc4,kf4⟩,⟨kz5,kc5,kf5⟩,⟨kz6,kc6,kf6⟩,⟨kz7,kc7,kf7⟩,⟨kz8,kc8,kf8⟩,⟨kz9,kc9,kf9⟩,⟨kz10,kc10,kf10⟩,⟨kz11,kc11,kf11⟩,⟨kz12,kc12,kf12⟩,⟨kz13,kc13,kf13⟩,⟨kz14,kc14,kf14⟩,⟨kz15,kc15,kf15⟩,_⟩ := hN.2
   go_wp2_with fail
   refine (G2.out _ _ _ ho2.readsR ho2.reads).mono ?_
   rintro e w11 ⟨rfl, hb⟩
   replace hN := hN.next hb
   replace ho2 := ho2.below hb
   replace ho4 := ho4.below hb
   clear hb G2
   (try clear hHeld0); (try clear hHeld1); (try clear hHeld2); (try clear hHeld3); (try clear hHeld4); (try clear hHeld5); (try clear hHeld6); (try clear hHeld7); (try clear hHeld8); (try clear hHeld9); (try clear hHeld10); (try clear hHeld11); (try clear hHeld12); (try clear hHeld13); (try clear kz0 kc0 kf0); (try clear kz1 kc1 kf1); (try clear kz2 kc2 kf2); (try clear kz3 kc3 kf3); (try clear kz4 kc4 kf4); (try clear kz5 kc5 kf5); (try clear kz6 kc6 kf6); (try clear kz7 kc7 kf7); (try clear kz8 kc8 kf8); (try clear kz9 kc9 kf9); (try clear kz10 kc10 kf10); (try clear kz11 kc11 kf11); (try clear kz12 kc12 kf12); (try clear kz13 kc13 kf13)
   (try clear kz0 kc0 kf0); (try clear kz1 kc1 kf1); (try clear kz2 kc2 kf2); (try clear kz3 kc3 kf3); (try clear kz4 kc4 kf4); (try clear kz5 kc5 kf5); (try clear kz6 kc6 kf6); (try clear kz7 kc7 kf7); (try clear kz8 kc8 kf8); (try clear kz9 kc9 kf9); (try clear kz10 kc10 kf10); (try clear kz11 kc11 kf11); (try clear kz12 kc12 kf12); (try clear kz13 kc13 kf13); (try clear kz14 kc14 kf14); (try clear kz15 kc15 kf15)
   obtain ⟨⟨kz0,kc0,kf0⟩,⟨kz1,kc1,kf1⟩,⟨kz2,kc2,kf2⟩,⟨kz3,kc3,kf3⟩,⟨kz4,kc4,kf4⟩,⟨kz5,kc5,kf5⟩,⟨kz6,kc6,kf6⟩,⟨kz7,kc7,kf7⟩,⟨kz8,kc8,kf8⟩,⟨kz9,kc9,kf9⟩,⟨kz10,kc10,kf10⟩,⟨kz11,kc11,kf11⟩,⟨kz12,kc12,kf12⟩,⟨kz13,kc13,kf13⟩,⟨kz14,kc14,kf14⟩,⟨kz15,kc15,kf15⟩,_⟩ := hN.2
   rcases C2 with ⟨rfl, rfl, SB⟩ | ⟨rfl, rfl, SB, SS, hR0, hV0⟩
   ·go_wp2_with fail
    refine (SB.out _ _ _ ho4.readsR ho4.reads).mono ?_
    rintro e w12 ⟨rfl, hb⟩
    have hB := under hN.1 hb
    clear hb hN ho2 ho4
    go_wp2_with fail
    go_ret
    exact ⟨rfl, hB⟩
   ·go_wp2_with fail
    refine (SB.out _ _ _ _ _ ho4.readsR ho4.reads ho2.readsR ho2.reads).mono ?_
    rintro e w12 ⟨rfl, hb⟩
    replace hN := hN.next hb
    replace ho2 := ho2.below hb
    replace ho4 := ho4.below hb
    clear hb SB
    (try clear hHeld0); (try clear hHeld1); (try clear hHeld2); (try clear hHeld3); (try clear hHeld4); (try clear hHeld5); (try clear hHeld6); (try clear hHeld7); (try clear hHeld8); (try clear hHeld9); (try clear hHeld10); (try clear hHeld11); (try clear hHeld12); (try clear hHeld13); (try clear kz0 kc0 kf0); (try clear kz1 kc1 kf1); (try clear kz2 kc2 kf2); (try clear kz3 kc3 kf3); (try clear kz4 kc4 kf4); (try clear kz5 kc5 kf5); (try clear kz6 kc6 kf6); (try clear kz7 kc7 kf7); (try clear kz8 kc8 kf8); (try clear kz9 kc9 kf9); (try clear kz10 kc10 kf10); (try clear kz11 kc11 kf11); (try clear kz12 kc12 kf12); (try clear kz13 kc13 kf13)
    (try clear kz0 kc0 kf0); (try clear kz1 kc1 kf1); (try clear kz2 kc2 kf2); (try clear kz3 kc3 kf3); (try clear kz4 kc4 kf4); (try clear kz5 kc5 kf5); (try clear kz6 kc6 kf6); (try clear kz7 kc7 kf7); (try clear kz8 kc8 kf8); (try clear kz9 kc9 kf9); (try clear kz10 kc10 kf10); (try clear kz11 kc11 kf11); (try clear kz12 kc12 kf12); (try clear kz13 kc13 kf13); (try clear kz14 kc14 kf14); (try clear kz15 kc15 kf15)
    obtain ⟨x0, hx0⟩ : ∃ x, (yV.map (Value.int .i64))[0]? = some (.int .i64 x) := by
     cases yV with
     | nil => exact absurd rfl hV0
     | cons x l => exact ⟨x, rfl⟩
    obtain ⟨f0, hf0⟩ : ∃ x, (flatR yR)[0]? = some (.int .i64 x) := by
     cases yR with
     | nil => exact absurd rfl hR0
     | cons x l => exact ⟨x.f, rfl⟩
    obtain ⟨gv, cv, ev, hgv1, hgv2, cv0, fv0, nv0⟩ := first_cell ho4.raws hx0
    obtain ⟨gr, cr, er, hgr1, hgr2, cr0, fr0, nr0⟩ := first_cell ho4.runs hf0
    cases ev
    cases er
    have nV : (0 : Int) < (yV.length : Int) := by simpa using nv0
    have nR : (0 : Int) < (yR.length : Int) := by simpa using nr0
    have hne1 : ∀ q ∈ ([(g14, 0, .int .i64 yk), (g14, 1, .slice (some ⟨gr, 0, none⟩) yR.length d7), (g14, 2, .int .i64 ya), (g14, 3, .int .i64 yr), (g14, 4, .int .i64 yn), (g14, 5, .int .i64 yd), (g14, 6, .slice (some ⟨gv, 0, none⟩) yV.length d8), (g14, 7, .int .i64 ye), (g11, 0, .int .i64 qk), (g11, 1, .slice B3 n3 d3), (g11, 2, .int .i64 qa), (g11, 3, .int .i64 qr), (g11, 4, .int .i64 qn), (g11, 5, .int .i64 qd), (g11, 6, .slice B4 n4 d4), (g11, 7, .int .i64 qe)] : List (Nat × Nat × Value)), q.1 ≠ gv := by
     intro q hq
     rcases List.mem_append.1 (show q ∈ ([(g14, 0, .int .i64 yk), (g14, 1, .slice (some ⟨gr, 0, none⟩) yR.length d7), (g14, 2, .int .i64 ya), (g14, 3, .int .i64 yr), (g14, 4, .int .i64 yn), (g14, 5, .int .i64 yd), (g14, 6, .slice (some ⟨gv, 0, none⟩) yV.length d8), (g14, 7, .int .i64 ye)] : List (Nat × Nat × Value)) ++ _ from hq) with hq | hq
     ·have : q.1 = g14 := by simp at hq; rcases hq with rfl | rfl | rfl | rfl | rfl | rfl | rfl | rfl <;> rfl
      intro hh
      exact HO4.out.2 (by rw [← this, hh]; rfl)
     ·have := HL.out q (List.mem_append_right _ (List.mem_append_left _ hq))
      omega
    have hne2 : ∀ q ∈ ([(g14, 0, .int .i64 yk), (g14, 1, .slice (some ⟨gr, 0, none⟩) yR.length d7), (g14, 2, .int .i64 ya), (g14, 3, .int .i64 yr), (g14, 4, .int .i64 yn), (g14, 5, .int .i64 yd), (g14, 6, .slice (some ⟨gv, 0, none⟩) yV.length d8), (g14, 7, .int .i64 ye), (g11, 0, .int .i64 qk), (g11, 1, .slice B3 n3 d3), (g11, 2, .int .i64 qa), (g11, 3, .int .i64 qr), (g11, 4, .int .i64 qn), (g11, 5, .int .i64 qd), (g11, 6, .slice B4 n4 d4), (g11, 7, .int .i64 qe)] : List (Nat × Nat × Value)), q.1 ≠ gr := by
     intro q hq
     rcases List.mem_append.1 (show q ∈ ([(g14, 0, .int .i64 yk), (g14, 1, .slice (some ⟨gr, 0, none⟩) yR.length d7), (g14, 2, .int .i64 ya), (g14, 3, .int .i64 yr), (g14, 4, .int .i64 yn), (g14, 5, .int .i64 yd), (g14, 6, .slice (some ⟨gv, 0, none⟩) yV.length d8), (g14, 7, .int .i64 ye)] : List (Nat × Nat × Value)) ++ _ from hq) with hq | hq
     ·have : q.1 = g14 := by simp at hq; rcases hq with rfl | rfl | rfl | rfl | rfl | rfl | rfl | rfl <;> rfl
      intro hh
      exact HO4.out.1 (by rw [← this, hh]; rfl)
     ·have := HL.out q (List.mem_append_right _ (List.mem_append_left _ hq))
      omega
    have hm0 : w.heap.size ≤ m := by
     exact Nat.le_of_lt (HL.out (w.heap.size, 0, .int .i64 a) (by simp))
    obtain ⟨f1, cr1⟩ := int_kept cr0 cv0 (wrap64 (x0 + 1))
    have hK1 := Lib.hid (hN.set (p := ⟨gv, 0, none⟩) (Nat.le_trans hm0 hgv1) hne1 (.int .i64 (wrap64 (x0 + 1))))
    have hO1 := Lib.hid (ho2.off1 (i := 0) (HO2.out gv hgv1) (.int .i64 (wrap64 (x0 + 1))))
    have fr1 : (w12.setCell ⟨gv, 0, none⟩ (.int .i64 (wrap64 (x0 + 1)))).frozen? ⟨gr, 0, none⟩ = false := by simp only [World.frozen?_setCell]; exact fr0
    clear cr0 fr0 ho4 ho2
    obtain ⟨⟨kz0,kc0,kf0⟩,⟨kz1,kc1,kf1⟩,⟨kz2,kc2,kf2⟩,⟨kz3,kc3,kf3⟩,⟨kz4,kc4,kf4⟩,⟨kz5,kc5,kf5⟩,⟨kz6,kc6,kf6⟩,⟨kz7,kc7,kf7⟩,⟨kz8,kc8,kf8⟩,⟨kz9,kc9,kf9⟩,⟨kz10,kc10,kf10⟩,⟨kz11,kc11,kf11⟩,⟨kz12,kc12,kf12⟩,⟨kz13,kc13,kf13⟩,⟨kz14,kc14,kf14⟩,⟨kz15,kc15,kf15⟩,_⟩ := hN.2
    go_upto_region 22 with (fail)
    generalize w12.setCell ⟨gv, 0, none⟩ (.int .i64 (wrap64 (x0 + 1))) = w13 at *
    clear hN cv0 fv0
    (try clear hHeld0); (try clear hHeld1); (try clear hHeld2); (try clear hHeld3); (try clear hHeld4); (try clear hHeld5); (try clear hHeld6); (try clear hHeld7); (try clear hHeld8); (try clear hHeld9); (try clear hHeld10); (try clear hHeld11); (try clear hHeld12); (try clear hHeld13); (try clear kz0 kc0 kf0); (try clear kz1 kc1 kf1); (try clear kz2 kc2 kf2); (try clear kz3 kc3 kf3); (try clear kz4 kc4 kf4); (try clear kz5 kc5 kf5); (try clear kz6 kc6 kf6); (try clear kz7 kc7 kf7); (try clear kz8 kc8 kf8); (try clear kz9 kc9 kf9); (try clear kz10 kc10 kf10); (try clear kz11 kc11 kf11); (try clear kz12 kc12 kf12); (try clear kz13 kc13 kf13)
    (try clear kz0 kc0 kf0); (try clear kz1 kc1 kf1); (try clear kz2 kc2 kf2); (try clear kz3 kc3 kf3); (try clear kz4 kc4 kf4); (try clear kz5 kc5 kf5); (try clear kz6 kc6 kf6); (try clear kz7 kc7 kf7); (try clear kz8 kc8 kf8); (try clear kz9 kc9 kf9); (try clear kz10 kc10 kf10); (try clear kz11 kc11 kf11); (try clear kz12 kc12 kf12); (try clear kz13 kc13 kf13); (try clear kz14 kc14 kf14); (try clear kz15 kc15 kf15)
    have hN := hK1.out
    have hK2 := Lib.hid (hN.set (p := ⟨gr, 0, none⟩) (Nat.le_trans hm0 hgr1) hne2 (.int .i64 (wrap64 (f1 + 1))))
    have hO2 := Lib.hid (hO1.out.off1 (i := 0) (HO2.out gr hgr1) (.int .i64 (wrap64 (f1 + 1))))
    obtain ⟨⟨kz0,kc0,kf0⟩,⟨kz1,kc1,kf1⟩,⟨kz2,kc2,kf2⟩,⟨kz3,kc3,kf3⟩,⟨kz4,kc4,kf4⟩,⟨kz5,kc5,kf5⟩,⟨kz6,kc6,kf6⟩,⟨kz7,kc7,kf7⟩,⟨kz8,kc8,kf8⟩,⟨kz9,kc9,kf9⟩,⟨kz10,kc10,kf10⟩,⟨kz11,kc11,kf11⟩,⟨kz12,kc12,kf12⟩,⟨kz13,kc13,kf13⟩,⟨kz14,kc14,kf14⟩,⟨kz15,kc15,kf15⟩,_⟩ := hN.2
    go_upto_region 23 with (fail)
    generalize w13.setCell ⟨gr, 0, none⟩ (.int .i64 (wrap64 (f1 + 1))) = w14 at *
    clear hN cr1 fr1 hK1 hO1 hne1 hne2
    (try clear hHeld0); (try clear hHeld1); (try clear hHeld2); (try clear hHeld3); (try clear hHeld4); (try clear hHeld5); (try clear hHeld6); (try clear hHeld7); (try clear hHeld8); (try clear hHeld9); (try clear hHeld10); (try clear hHeld11); (try clear hHeld12); (try clear hHeld13); (try clear kz0 kc0 kf0); (try clear kz1 kc1 kf1); (try clear kz2 kc2 kf2); (try clear kz3 kc3 kf3); (try clear kz4 kc4 kf4); (try clear kz5 kc5 kf5); (try clear kz6 kc6 kf6); (try clear kz7 kc7 kf7); (try clear kz8 kc8 kf8); (try clear kz9 kc9 kf9); (try clear kz10 kc10 kf10); (try clear kz11 kc11 kf11); (try clear kz12 kc12 kf12); (try clear kz13 kc13 kf13)
    (try clear kz0 kc0 kf0); (try clear kz1 kc1 kf1); (try clear kz2 kc2 kf2); (try clear kz3 kc3 kf3); (try clear kz4 kc4 kf4); (try clear kz5 kc5 kf5); (try clear kz6 kc6 kf6); (try clear kz7 kc7 kf7); (try clear kz8 kc8 kf8); (try clear kz9 kc9 kf9); (try clear kz10 kc10 kf10); (try clear kz11 kc11 kf11); (try clear kz12 kc12 kf12); (try clear kz13 kc13 kf13); (try clear kz14 kc14 kf14); (try clear kz15 kc15 kf15)
    have hS : Keeps w [(g11, 0, .int .i64 qk), (g11, 1, .slice B3 n3 d3), (g11, 2, .int .i64 qa), (g11, 3, .int .i64 qr), (g11, 4, .int .i64 qn), (g11, 5, .int .i64 qd), (g11, 6, .slice B4 n4 d4), (g11, 7, .int .i64 qe)] w14 := hK2.out.sub (by simp)
    have ho2 := hO2.out.below (Below.refl _ _).drew
    clear hK2 hO2 HO4 HL HO2
    refine region_keeps (w0 := w) (L := [(g11, 0, .int .i64 qk), (g11, 1, .slice B3 n3 d3), (g11, 2, .int .i64 qa), (g11, 3, .int .i64 qr), (g11, 4, .int .i64 qn), (g11, 5, .int .i64 qd), (g11, 6, .slice B4 n4 d4), (g11, 7, .int .i64 qe)]) (by kernel_rfl) hS (fun hHeld0 => ?_)
    refine tk 0 109 rfl rfl ?_ ?_ ?_
    rotate_left
    ·intro wq hSw; obtain ⟨⟨_,_,_⟩,⟨_,_,_⟩,⟨_,_,_⟩,⟨_,_,_⟩,⟨_,_,_⟩,⟨_,_,_⟩,⟨_,_,_⟩,⟨_,_,_⟩,_⟩ := hSw.2; go_simp; (try with_reducible rfl)
    try go_frame
    refine tv 1 110 rfl rfl ?_
    try go_frame
    refine tv 2 111 rfl rfl ?_
    try go_frame
    refine tv 3 112 rfl rfl ?_
    try go_frame
    refine tv 4 113 rfl rfl ?_
    try go_frame
    refine ty [5] ?_
    refine AllReadyH.cons rfl (fun K hK => ?_) AllReadyH.nil
    go_simp
    ((with_reducible refine (O2.out _ (by first | with_reducible exact kbel hHeld0 | with_reducible exact kbel hHeld1 | with_reducible exact kbel hHeld2 | with_reducible exact kbel hHeld3 | with_reducible exact kbel hHeld4 | with_reducible exact kbel hHeld5 | with_reducible exact kbel hHeld6 | with_reducible exact kbel hHeld7 | with_reducible exact kbel hHeld8 | with_reducible exact kbel hHeld9 | with_reducible exact kbel hHeld10 | with_reducible exact kbel hHeld11 | with_reducible exact kbel hHeld12 | with_reducible exact kbel hHeld13)).mono ?_); rintro e w15 hq; obtain ⟨B9, n9, d9, B0, n0, d0, rfl, hb, ho9⟩ := own_got hq; clear hq; replace ho2 := ho2.below hb)
    refine hK.out _ _ (hHeld0.next hb) (fun hHeld1 => ?_)
    clear hK K; try clear hb
    try go_frame
    refine ty [6] ?_
    refine AllReadyH.cons rfl (fun K hK => ?_) AllReadyH.nil
    go_simp
    ((with_reducible refine (SS.out _ _ _ _ _ ho2.readsR ho2.reads ho9.readsR ho9.reads).mono ?_); rintro e w16 ⟨rfl, hb⟩)
    refine hK.out _ _ (hHeld1.next hb) (fun hHeld2 => ?_)
    clear hK K; try clear hb
    try go_frame
    refine tv 7 8 rfl rfl ?_
    try go_frame
    refine wpAnyH_done (by kernel_rfl) ?_ _
    have hHeld := hHeld2
    obtain ⟨⟨kz0,kc0,kf0⟩,⟨kz1,kc1,kf1⟩,⟨kz2,kc2,kf2⟩,⟨kz3,kc3,kf3⟩,⟨kz4,kc4,kf4⟩,⟨kz5,kc5,kf5⟩,⟨kz6,kc6,kf6⟩,⟨kz7,kc7,kf7⟩,_⟩ := hHeld.2
    all_goals
     have hB := hHeld.1
     clear hHeld hS
     (try clear hHeld0); (try clear hHeld1); (try clear hHeld2); (try clear hHeld3); (try clear hHeld4); (try clear hHeld5); (try clear hHeld6); (try clear hHeld7); (try clear hHeld8); (try clear hHeld9); (try clear hHeld10); (try clear hHeld11); (try clear hHeld12); (try clear hHeld13); (try clear kz0 kc0 kf0); (try clear kz1 kc1 kf1); (try clear kz2 kc2 kf2); (try clear kz3 kc3 kf3); (try clear kz4 kc4 kf4); (try clear kz5 kc5 kf5); (try clear kz6 kc6 kf6); (try clear kz7 kc7 kf7); (try clear kz8 kc8 kf8); (try clear kz9 kc9 kf9); (try clear kz10 kc10 kf10); (try clear kz11 kc11 kf11); (try clear kz12 kc12 kf12); (try clear kz13 kc13 kf13)
     go_wp2_with fail
     go_ret
     exact ⟨rfl, hB⟩
theorem makes_any (R : List Rn) (a r n d : Int) (V : List Int) (far : Int) (hR : R.length ≤ 9223372036854775807) (hV : V.length ≤ 9223372036854775807) (v0 u0 : Value) (w : World) (h : ReadsR w v0 R) (hu : Reads .i64 w u0 V) :
  Calls Tryz.prog 4 #[v0, lnV a r n d, u0, .int .i64 far] w (Ret w (.bool true)) := by
 obtain ⟨A0, n0, c0, rfl⟩ : ∃ A n c, v0 = .slice A n c := by
  obtain ⟨A, c, rfl, _⟩ := h
  exact ⟨_, _, _, rfl⟩
 obtain ⟨U0, m0, e0, rfl⟩ : ∃ A n c, u0 = .slice A n c := by
  obtain ⟨A, c, rfl, _⟩ := hu
  exact ⟨_, _, _, rfl⟩
 have t1 : (R.take 300).length ≤ 1000000 := by rw [List.length_take]; omega
 have t2 : (V.take 300).length ≤ 1000000 := by rw [List.length_take]; omega
 have O1 := fun W (hb : Below w.heap.size w W) => own_any ⟨kindK a r n d, R, a, r, n, d, [], far⟩ hR (by simp) (.slice A0 n0 c0) (.slice none 0 0) W (h.below hb) Reads.nil
 have O2 := fun W (hb : Below w.heap.size w W) => own_any ⟨4, R, 0, 0, 0, 0, V, far⟩ hR hV (.slice A0 n0 c0) (.slice U0 m0 e0) W (h.below hb) (hu.below hb)
 have OF := fun v W (hr : ReadsR W v (R.take 300)) => (ofM_any (R.take 300) a r n d far t1 v W hr).mono (fun _ _ hm => made_x hm)
 have RW := fun v u W (hr : ReadsR W v (R.take 300)) (hu : Reads .i64 W u (V.take 300)) => (rawM_any (R.take 300) (V.take 300) far t1 t2 v u W hr hu).mono (fun _ _ hm => made_x hm)
 have e1 : takeS ⟨kindK a r n d, R, a, r, n, d, [], far⟩ = ⟨kindK a r n d, R.take 300, a, r, n, d, [], far⟩ := by unfold takeS; simp
 have e2 : takeS ⟨4, R, 0, 0, 0, 0, V, far⟩ = ⟨4, R.take 300, 0, 0, 0, 0, V.take 300, far⟩ := rfl
 rw [e1] at O1
 rw [e2] at O2
 have SM : ∀ (s t : Sg) (h1 : s.R.length ≤ 1000000) (h2 : s.V.length ≤ 1000000) (b : Bool), sameB s t = b → ∀ v u v2 u2 W, ReadsR W v s.R → Reads .i64 W u s.V → ReadsR W v2 t.R → Reads .i64 W u2 t.V → Calls Tryz.prog 19 #[sgOf s v u, sgOf t v2 u2] W (Ret W (.bool b)) := fun s t h1 h2 b hb v u v2 u2 W h3 h4 h5 h6 => hb ▸ sameS_any s t h1 h2 v u v2 u2 W h3 h4 h5 h6
 have S0 : ∀ v u W, ReadsR W v zeroS.R → Reads .i64 W u zeroS.V → Calls Tryz.prog 19 #[sgOf zeroS v u, sgV 0 (.slice none 0 0) 0 0 0 0 (.slice none 0 0) 0] W (Ret W (.bool true)) := fun v u W h1 h2 => SM zeroS zeroS (by decide) (by decide) true (sameB_refl _) v u (.slice none 0 0) (.slice none 0 0) W h1 h2 ⟨none, 0, rfl, Nat.le_refl _, fun i s h => by simp [zeroS] at h⟩ Reads.nil
 have RG := rightS_is
 have l1 : (⟨kindK a r n d, R.take 300, a, r, n, d, [], far⟩ : Sg).V.length ≤ 1000000 := by simp
 refine makes_walk a r n d far A0 n0 c0 U0 m0 e0 ⟨kindK a r n d, R.take 300, a, r, n, d, [], far⟩ ⟨4, R.take 300, 0, 0, 0, 0, V.take 300, far⟩ (madeS ⟨kindK a r n d, R.take 300, a, r, n, d, [], far⟩) (madeS ⟨4, R.take 300, 0, 0, 0, 0, V.take 300, far⟩) w (kindK a r n d) (madeC ⟨kindK a r n d, R.take 300, a, r, n, d, [], far⟩) (madeC ⟨4, R.take 300, 0, 0, 0, 0, V.take 300, far⟩) (lineB a r n d) (segB ⟨kindK a r n d, R.take 300, a, r, n, d, [], far⟩) (segB ⟨4, R.take 300, 0, 0, 0, 0, V.take 300, far⟩)
  (Lib.hid wakes_any) (Lib.hid (fun W => refRight_any a r n d W)) (Lib.hid (fun hl W => by unfold kindK; rw [hl, if_pos rfl]; exact refKind_any a r n d W)) (Lib.hid (fun W => kind_any a r n d W)) (Lib.hid O1) (Lib.hid O2) (Lib.hid OF) (Lib.hid RW) (Lib.hid (RG _ t1 l1)) (Lib.hid (RG _ t1 t2)) ?_ ?_
 ·cases hl : lineB a r n d
  ·have hk : kindK a r n d = 0 := by unfold kindK; rw [hl]; rfl
   have hs : segB ⟨kindK a r n d, R.take 300, a, r, n, d, [], far⟩ = false := segB_no (.inl (by show kindK a r n d < 1; omega))
   refine .inl ⟨rfl, hk, by unfold madeC; rw [hs]; rfl, Lib.hid ?_⟩
   unfold madeS
   rw [hs]
   exact S0
  ·have hk : (kindK a r n d == 0) = false := by
    have : kindK a r n d ≠ 0 := by
     unfold kindK
     rw [hl, if_pos rfl]
     unfold kindL
     split
     ·decide
     ·split <;> decide
    simpa using this
   cases hs : segB ⟨kindK a r n d, R.take 300, a, r, n, d, [], far⟩
   ·refine .inr (.inl ⟨rfl, hk, rfl, by unfold madeC; rw [hs]; rfl, Lib.hid ?_⟩)
    unfold madeS
    rw [hs]
    exact S0
   ·refine .inr (.inr ⟨rfl, hk, rfl, by unfold madeC; rw [hs]; rfl, Lib.hid ?_⟩)
    unfold madeS
    rw [hs]
    exact SM _ _ t1 l1 true (sameB_refl _)
 ·cases hs : segB ⟨4, R.take 300, 0, 0, 0, 0, V.take 300, far⟩
  ·refine .inl ⟨rfl, by unfold madeC; rw [hs]; rfl, Lib.hid ?_⟩
   unfold madeS
   rw [hs]
   exact S0
  ·have hT := times_ok ((segB_iff _).1 hs).1
   have hvl := vals_length hs
   have hRn : R.take 300 ≠ [] := hT.ne
   have hVn : V.take 300 ≠ [] := by
    intro h0
    have e5 : vals ⟨4, R.take 300, 0, 0, 0, 0, V.take 300, far⟩ = V.take 300 := by unfold vals; rw [if_pos rfl]
    rw [e5, h0] at hvl
    have h1 := hT.one
    rw [← hvl] at h1
    simp at h1
   refine .inr ⟨rfl, by unfold madeC; rw [hs]; rfl, Lib.hid ?_, Lib.hid ?_, ?_, ?_⟩
   ·unfold madeS
    rw [hs]
    exact SM _ _ t1 t2 true (sameB_refl _)
   ·exact SM _ _ t1 t2 true (sameB_refl _)
   ·unfold madeS
    rw [hs]
    exact hRn
   ·unfold madeS
    rw [hs]
    exact hVn
end Go.Proofs.YtcfidimnbamnkaaGreat.P11
