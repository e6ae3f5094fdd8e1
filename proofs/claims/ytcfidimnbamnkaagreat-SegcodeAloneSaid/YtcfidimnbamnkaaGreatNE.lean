/-
 Layer 7: the document's own answer: may these be times? How many are below one, or at most as great? Conditions: those written at each fact.
-/
import Derived.Test.YtcfidimnbamnkaaGreatKitW
import Derived.Maps.RangeWalk
import Derived.Test.YtcfidimnbamnkaaGreatNA
import Derived.Test.YtcfidimnbamnkaaGreatNC
import Derived.Deep.QuietTactic
import Derived.BigQuiet
import Derived.Test.YtcfidimnbamnkaaGreatND
namespace Go.Proofs.YtcfidimnbamnkaaGreat.P7
open Go.RowKit

end Go.Proofs.YtcfidimnbamnkaaGreat.P7

/-
 Layer 7: what is cut at a place and joined is as it was; the facts of RunsJoined. Conditions: none.
-/
namespace Go.Proofs.YtcfidimnbamnkaaGreat.P7
open Go.RowKit Go.Shelf
set_option maxRecDepth 100000

end Go.Proofs.YtcfidimnbamnkaaGreat.P7

/-
 Layer 7: the law RunsJoined holds of every input. Conditions: those of the law's row.
-/
namespace Go.Proofs.YtcfidimnbamnkaaGreat.P7
open Go.RowKit Go.Shelf

theorem steps_more (f s : Int) (m : Nat) : stepsR f s (m + 1) = stepsR f s m ++ [f + s * (m : Int)] := by
 rw [steps_app f s m 1, Int.mul_comm s]
 rfl
end Go.Proofs.YtcfidimnbamnkaaGreat.P7

/-
 Layer 7: the runs of times, as the document's answer makes them, one whole run at a time. Conditions: those written at each fact.
-/
namespace Go.Proofs.YtcfidimnbamnkaaGreat.P7
open Go.RowKit

structure OfInv (T : List Int) (P : List Rn) (k : Nat) : Prop where
 rest : restB none 0 P = true
 times : timesR P = T.take k
 fol : ∀ t, T[k]? = some t → followB (lastO none P) ⟨t, 0, 1⟩ = true
theorem OfInv.start (T : List Int) : OfInv T [] 0 := ⟨rfl, rfl, fun _ _ => rfl⟩
theorem rest_pos {P : List Rn} (h : restB none 0 P = true) : ∀ r ∈ P, 1 ≤ r.c := fun r hr =>
 ((okB_facts (l := P) (by unfold okB; rw [h, Bool.and_true]; exact decide_eq_true (List.ne_nil_of_mem hr))).2.1 r hr).1
theorem OfInv.total {T : List Int} {P : List Rn} {k : Nat} (h : OfInv T P k) (hk : k ≤ T.length) : totalR P = k := by
 have e := timesR_length (l := P) (fun r hr => by have := rest_pos h.rest r hr; omega)
 rw [h.times, List.length_take] at e
 omega
theorem OfInv.small {T : List Int} {P : List Rn} {k : Nat} (h : OfInv T P k) (hk : k ≤ T.length) : P.length ≤ k := by
 have e := h.total hk
 have h1 : ∀ l : List Rn, (∀ r ∈ l, 1 ≤ r.c) → (l.length : Int) ≤ totalR l := by
  intro l
  induction l with
  | nil => simp [totalR]
  | cons a l ih =>
   intro hl
   have := ih (fun r hr => hl r (List.mem_cons_of_mem _ hr))
   have := hl a (List.mem_cons_self ..)
   simp only [totalR, List.length_cons]
   omega
 have := h1 P (rest_pos h.rest)
 omega
theorem OfInv.done {T : List Int} {P : List Rn} {k : Nat} (h : OfInv T P k) (hk : k = T.length) (hA : areB T = true) : laidR T = P := by
 have e : timesR P = T := by rw [h.times, hk, List.take_length]
 have hne : P ≠ [] := by
  rintro rfl
  have := ((areB_iff T).1 hA).1
  rw [← e] at this
  simp [timesR] at this
 have ok : okB P = true := by unfold okB; rw [h.rest, Bool.and_true]; exact decide_eq_true hne
 rw [← e]; exact laid_times ok
theorem up_range {T : List Int} (h : Up T) {i : Nat} {a : Int} (hi : T[i]? = some a) : 0 ≤ a ∧ a ≤ 281474976710656 := h.1 a (List.mem_of_getElem? hi)
theorem up_less {T : List Int} (h : Up T) {i j : Nat} {a b : Int} (hi : T[i]? = some a) (hj : T[j]? = some b) (hij : i < j) : a < b := by
 obtain ⟨a1, e1⟩ := List.getElem?_eq_some_iff.1 hi
 obtain ⟨b1, e2⟩ := List.getElem?_eq_some_iff.1 hj
 subst e1 e2
 exact List.pairwise_iff_getElem.1 h.2 i j a1 b1 hij
def Even (T : List Int) (k m : Nat) (f s : Int) : Prop := ∀ q, k ≤ q → q ≤ m → T[q]? = some (f + ((q - k : Nat) : Int) * s)
theorem even_take {T : List Int} {k m : Nat} {f s : Int} (hq : Even T k m f s) : ∀ n, k + n ≤ m + 1 → T.take (k + n) = T.take k ++ stepsR f s n
 | 0, _ => by simp [stepsR]
 | n + 1, h => by
  obtain ⟨a1, e1⟩ := List.getElem?_eq_some_iff.1 (hq (k + n) (by omega) (by omega))
  rw [← Nat.add_assoc, List.take_succ_eq_append_getElem a1, e1, even_take hq n (by omega), steps_more, List.append_assoc, Nat.add_sub_cancel_left, Int.mul_comm s]
theorem OfInv.next {T : List Int} {P : List Rn} {k : Nat} (h : OfInv T P k) (hA : areB T = true) {f s : Int} {m : Nat} (hkm : k < m) (hq : Even T k m f s) (hend : ∀ x y, T[m]? = some x → T[m + 1]? = some y → ¬ y - x = s) :
  OfInv T (P ++ [⟨f, s, (m : Int) - k + 1⟩]) (m + 1) := by
 obtain ⟨t1, t2, hU⟩ := (areB_iff T).1 hA
 have a0 := hq k (Nat.le_refl _) (by omega)
 have a1 := hq (k + 1) (by omega) (by omega)
 have am := hq m (by omega) (Nat.le_refl _)
 rw [Nat.sub_self] at a0
 rw [show k + 1 - k = 1 by omega] at a1
 simp only [Int.natCast_zero, Int.zero_mul, Int.add_zero] at a0
 simp only [Int.natCast_one, Int.one_mul] at a1
 have hm : m < T.length := (List.getElem?_eq_some_iff.1 am).1
 have r0 := up_range hU a0
 have r1 := up_range hU a1
 have rm := up_range hU am
 have l01 := up_less hU a0 a1 (by omega)
 have tot := h.total (k := k) (by omega)
 have ec : (m : Int) - k + 1 - 1 = ((m - k : Nat) : Int) := by omega
 have ec2 : (m : Int) - k + 1 = ((m - k : Nat) : Int) + 1 := by omega
 refine ⟨?_, ?_, ?_⟩
 ·rw [restB_snoc, h.rest, follow_f (b := ⟨f, s, (m : Int) - k + 1⟩) (h.fol f a0) rfl, Bool.true_and, Bool.and_true]
  refine (runB_iff _ _).2 ⟨by simp only; omega, by simp only; omega, r0, ?_⟩
  simp only
  rw [if_neg (by omega), ec]
  exact ⟨by omega, by omega, rm⟩
 ·rw [timesR_app, h.times]
  simp only [timesR, List.append_nil]
  rw [show ((m : Int) - k + 1).toNat = m - k + 1 by omega, ← even_take hq (m - k + 1) (by omega), show k + (m - k + 1) = m + 1 by omega]
 ·intro t ht
  rw [lastO_snoc]
  have lt := up_less hU am ht (by omega)
  have ne := hend _ _ am ht
  simp only [followB, behindB, Bool.and_eq_true, decide_eq_true_eq]
  refine ⟨by omega, by rw [ec]; exact lt, ?_⟩
  intro e
  apply ne
  rw [ec2, Int.add_mul, Int.one_mul] at e
  omega
theorem OfInv.last {T : List Int} {P : List Rn} {k : Nat} (h : OfInv T P k) (hA : areB T = true) {f : Int} (hf : T[k]? = some f) (hk : k + 1 = T.length) : laidR T = P ++ [⟨f, 0, 1⟩] := by
 obtain ⟨t1, t2, hU⟩ := (areB_iff T).1 hA
 have tot := h.total (k := k) (by omega)
 obtain ⟨a1, e1⟩ := List.getElem?_eq_some_iff.1 hf
 refine OfInv.done (k := k + 1) ⟨?_, ?_, fun t ht => ?_⟩ hk hA
 ·rw [restB_snoc, h.rest, h.fol f hf, Bool.true_and, Bool.and_true]
  exact (runB_iff _ _).2 ⟨by simp, by simp only; omega, up_range hU hf, by simp⟩
 ·rw [timesR_app, h.times, List.take_succ_eq_append_getElem a1, e1]
  simp [timesR, stepsR]
 ·have := (List.getElem?_eq_some_iff.1 ht).1
  omega
end Go.Proofs.YtcfidimnbamnkaaGreat.P7

/-
 Layer 7: the document's own answer: the times of runs. Conditions: those written at each fact.
-/
namespace Go.Proofs.YtcfidimnbamnkaaGreat.P7
open Go.RowKit

deriving instance DecidableEq for Rn
theorem own_slice {w : World} {B : Nat} {e : TypeId} {s n : Nat} {v : Value} {xs : List Value} (h : w.ownsRow B e s v n xs) : ∃ A c, v = .slice A n c := by
 obtain ⟨_, h⟩ := h
 rcases h with ⟨rfl, rfl⟩ | ⟨g, cap, cur, rfl, _⟩
 ·exact ⟨none, 0, rfl⟩
 ·exact ⟨_, cap, rfl⟩
end Go.Proofs.YtcfidimnbamnkaaGreat.P7

/-
 Layer 7: the document's own answer: the runs of times. Conditions: those written at each fact.
-/
namespace Go.Proofs.YtcfidimnbamnkaaGreat.P7
open Go.RowKit

end Go.Proofs.YtcfidimnbamnkaaGreat.P7

/-
 Layer 7: the document's own answer: may runs be? Conditions: those written at each fact.
-/
namespace Go.Proofs.YtcfidimnbamnkaaGreat.P7
open Go.RowKit

theorem take_step {l m : List Rn} {k : Nat} {r : Rn} (h : l.take k = m.take k) (h1 : l[k]? = some r) (h2 : m[k]? = some r) : l.take (k + 1) = m.take (k + 1) := by
 obtain ⟨a1, e1⟩ := List.getElem?_eq_some_iff.1 h1
 obtain ⟨a2, e2⟩ := List.getElem?_eq_some_iff.1 h2
 rw [List.take_succ_eq_append_getElem a1, List.take_succ_eq_append_getElem a2, e1, e2, h]
set_option maxRecDepth 100000 in
set_option maxHeartbeats 4000000 in
theorem refSame_any (l m : List Rn) (hl : l.length ≤ 1000000) (hm : m.length ≤ 1000000) (v u : Value) (w : World) (h : ReadsR w v l) (hu : ReadsR w u m) : Calls Tryz.prog 63 #[v, u] w (Ret w (.bool (decide (l = m)))) := by
 obtain ⟨A, c, rfl, hc, hk⟩ := h
 obtain ⟨A2, c2, rfl, hc2, hk2⟩ := hu
 have HK := Lib.hid hk
 have HK2 := Lib.hid hk2
 clear hk hk2
 by_cases g : l.length = m.length
 ·have t0 : ((l.length : Int) != (m.length : Int)) = false := by simp [g]
  have HG := Lib.hid g
  go_enter Tryz.func63, Tryz.ntmps63
  go_wp2_with fail
  go_loopw [5] (fun i wr => ∃ k : Nat, i = .int .i64 k ∧ k ≤ l.length ∧ Hid (l.take k = m.take k) ∧ Below w.heap.size w wr) (fun i _ => l.length - (intOf i).toNat)
  case atStart => exact ⟨0, rfl, by omega, Lib.hid rfl, by go_grown⟩
  case round =>
   obtain ⟨k, rfl, hkl, HT, hB⟩ := hrel
   by_cases gk : k < l.length
   ·obtain ⟨⟨x, y, z⟩, hx⟩ : ∃ s, l[k]? = some s := ⟨_, List.getElem?_eq_getElem gk⟩
    obtain ⟨⟨x2, y2, z2⟩, hx2⟩ : ∃ s, m[k]? = some s := ⟨_, List.getElem?_eq_getElem (by have := HG.out; omega)⟩
    obtain ⟨b, off, rfl, hbw, d1, d2, d5⟩ := HK.out k _ hx
    obtain ⟨b2, off2, rfl, hbw2, d3, d4, d6⟩ := HK2.out k _ hx2
    have c1 := (hB.cell (p := ⟨b, off + k * 3, none⟩) hbw).trans d1
    have c2 := (hB.cell (p := ⟨b, off + k * 3 + 1, none⟩) hbw).trans d2
    have c5 := (hB.cell (p := ⟨b, off + k * 3 + 2, none⟩) hbw).trans d5
    have c3 := (hB.cell (p := ⟨b2, off2 + k * 3, none⟩) hbw2).trans d3
    have c4 := (hB.cell (p := ⟨b2, off2 + k * 3 + 1, none⟩) hbw2).trans d4
    have c6 := (hB.cell (p := ⟨b2, off2 + k * 3 + 2, none⟩) hbw2).trans d6
    simp only at c1 c2 c3 c4 c5 c6
    have i1 : (k : Int) < (l.length : Int) := by omega
    have i2 : (k : Int) < (m.length : Int) := by omega
    have i0 : (0 : Int) ≤ (k : Int) := by omega
    clear d1 d2 d3 d4 d5 d6
    by_cases ge : (⟨x, y, z⟩ : Rn) = ⟨x2, y2, z2⟩
    ·have HT2 := Lib.hid (take_step HT.out hx (by rw [hx2, ge]))
     cases ge
     clear hx hx2
     go_wp2_with fail
     go_quiet (fail)
     go_wp2_with fail
     go_roundw
     case rel => exact ⟨k + 1, by simp, by omega, HT2, below_drewN hB _⟩
     case measure => exact index_less7 gk
    ·have HN : Hid (decide (l = m) = false) := Lib.hid (decide_eq_false fun e => by
      subst e
      rw [hx] at hx2
      injection hx2 with hx2
      exact ge hx2)
     have bx : (x == x2) = false ∨ (x = x2 ∧ (y == y2) = false) ∨ (x = x2 ∧ y = y2 ∧ (z == z2) = false) := by
      by_cases g1 : x = x2
      ·by_cases g2 : y = y2
       ·by_cases g3 : z = z2
        ·exact absurd (by rw [g1, g2, g3]) ge
        ·exact .inr (.inr ⟨g1, g2, beq_eq_false_iff_ne.2 g3⟩)
       ·exact .inr (.inl ⟨g1, beq_eq_false_iff_ne.2 g2⟩)
      ·exact .inl (beq_eq_false_iff_ne.2 g1)
     clear hx hx2 ge HT
     rcases bx with bx | ⟨rfl, bx⟩ | ⟨rfl, rfl, bx⟩
     all_goals
      go_wp2_with fail
      go_quiet (fail)
      go_wp2_with fail
      go_ret
      exact ⟨by rw [HN.out]; rfl, below_drewN hB _⟩
   ·have hkk : k = l.length := by omega
    have i1 : ¬ (k : Int) < (l.length : Int) := by omega
    have EL : Hid (decide (l = m) = true) := Lib.hid (decide_eq_true (by
     have h1 := HT.out
     rw [hkk, List.take_length] at h1
     rw [h1, HG.out, List.take_length]))
    go_wp2_with fail
    go_ret
    exact ⟨by rw [EL.out]; rfl, hB⟩
 ·have t0 : ((l.length : Int) != (m.length : Int)) = true := by simp; omega
  have e0 : decide (l = m) = false := decide_eq_false fun e => g (by rw [e])
  rw [e0]
  clear e0
  go_enter Tryz.func63, Tryz.ntmps63
  go_wp2_with fail
  go_ret
  exact ⟨rfl, by go_grown⟩
end Go.Proofs.YtcfidimnbamnkaaGreat.P7
