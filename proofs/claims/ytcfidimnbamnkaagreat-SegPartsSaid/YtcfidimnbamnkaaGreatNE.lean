/-
 Layer 7: the document's own answer: may these be times? How many are below one, or at most as great? Conditions: those written at each fact.
-/
import Derived.Test.YtcfidimnbamnkaaGreatKitV
import Derived.Test.YtcfidimnbamnkaaGreatKitW
import Derived.Maps.RangeWalk
import Derived.Test.YtcfidimnbamnkaaGreatNA
import Derived.Test.YtcfidimnbamnkaaGreatNC
import Derived.Deep.QuietTactic
import Derived.BigQuiet
import Derived.Test.YtcfidimnbamnkaaGreatND
namespace Go.Proofs.YtcfidimnbamnkaaGreat.P7
open Go.RowKit

set_option maxRecDepth 100000 in
set_option maxHeartbeats 1000000 in
theorem refRising_any (l : List Int) (hl : l.length ≤ 1000000) (v : Value) (w : World) (h : Reads .i64 w v l) : Calls Tryz.prog 112 #[v] w (Ret w (.bool (areB l))) := by
 obtain ⟨A, c, rfl, hc, hk⟩ := h
 have HK := Lib.hid hk
 clear hk
 by_cases g0 : (l.length : Int) < 1
 ·have e : areB l = false := by
   have : ¬ 1 ≤ l.length := by omega
   simp [areB, this]
  rw [e]
  clear e
  go_enter Tryz.func112, Tryz.ntmps112
  go_wp2_with fail
  go_ret
  exact ⟨rfl, by go_grown⟩
 by_cases g1 : 256 < (l.length : Int)
 ·have e : areB l = false := by
   have : ¬ l.length ≤ 256 := by omega
   simp [areB, this]
  rw [e]
  clear e
  go_enter Tryz.func112, Tryz.ntmps112
  go_wp2_with fail
  go_ret
  exact ⟨rfl, by go_grown⟩
 have OE : Hid (areB l = upB none l) := Lib.hid (by
  have h1 : 1 ≤ l.length := by omega
  have h2 : l.length ≤ 256 := by omega
  simp [areB, h1, h2])
 go_enter Tryz.func112, Tryz.ntmps112
 go_wp2_with fail
 go_loopw [3] (fun i wr => ∃ (k : Nat), i = .int .i64 k ∧ k ≤ l.length ∧ Hid (areB l = upB (aheadI l k) (l.drop k)) ∧ Below w.heap.size w wr) (fun i _ => l.length - (intOf i).toNat)
 case atStart => exact ⟨0, rfl, by omega, Lib.hid (by simpa [aheadI] using OE.out), by go_grown⟩
 case round =>
  obtain ⟨k, rfl, hkl, hO, hB⟩ := hrel
  by_cases gk : k < l.length
  ·obtain ⟨t, hx⟩ : ∃ s, l[k]? = some s := ⟨_, List.getElem?_eq_getElem gk⟩
   obtain ⟨bb, off, rfl, hbw, hc1⟩ := HK.out k _ hx
   have c1 := (hB.cell (p := ⟨bb, off + k, none⟩) hbw).trans hc1
   have i1 : (k : Int) < (l.length : Int) := by omega
   have i0 : (0 : Int) ≤ (k : Int) := by omega
   have RD := Lib.hid (upB_drop hx (aheadI l k))
   have HX := Lib.hid hx
   clear hc1 hx OE
   by_cases ga1 : t < 0
   ·have hO2 : Hid (areB l = false) := Lib.hid (by rw [hO.out, RD.out, show timeR t = false by unfold timeR; rw [decide_eq_false (by omega)]; rfl]; rfl)
    clear hO RD
    go_wp2_with fail
    go_quiet (fail)
    go_wp2_with fail
    go_ret
    exact ⟨(by rw [hO2.out]; try rfl), below_drewN hB _⟩
   have d1 : decide (t < 0) = false := decide_eq_false ga1
   by_cases ga2 : 281474976710656 < t
   ·have hO2 : Hid (areB l = false) := Lib.hid (by rw [hO.out, RD.out, show timeR t = false by unfold timeR; rw [decide_eq_false (show ¬ t ≤ 281474976710656 by omega)]; simp]; rfl)
    clear hO RD
    go_wp2_with fail
    go_quiet (fail)
    go_wp2_with fail
    go_ret
    exact ⟨(by rw [hO2.out]; try rfl), below_drewN hB _⟩
   have d2 : decide (281474976710656 < t) = false := decide_eq_false ga2
   have gt : timeR t = true := (timeR_iff t).2 ⟨by omega, by omega⟩
   by_cases gz : k = 0
   ·subst gz
    simp only [Nat.add_zero] at c1
    have ON : Hid (areB l = upB (aheadI l (0 + 1)) (l.drop (0 + 1))) := Lib.hid (by
     rw [hO.out, RD.out, gt]
     have e : aheadI l (0 + 1) = some t := HX.out
     rw [e]; rfl)
    have d3 : decide ((0 : Int) < 0) = false := rfl
    clear hO RD gt
    go_wp2_with fail
    go_quiet (fail)
    go_wp2_with fail
    go_roundw
    case rel => exact ⟨1, by simp, gk, ON, below_drewN hB _⟩
    case measure => simp [intOf]; omega
   ·obtain ⟨j, hj⟩ : ∃ j, k = j + 1 := ⟨k - 1, by omega⟩
    obtain ⟨a, hy⟩ : ∃ s, l[j]? = some s := ⟨_, List.getElem?_eq_getElem (by omega)⟩
    obtain ⟨bb', off', hbe, hbw', hp1⟩ := HK.out j _ hy
    cases hbe
    have hak : aheadI l k = some a := by rw [hj]; exact hy
    have ej : wrap64 ((k : Int) - 1) = (j : Int) := by rw [hj]; exact (i64_keeps (by omega) (by omega)).trans (by omega)
    have ek : IntKind.i64.wrap ((k : Int) - 1) = (j : Int) := (by rw [IntKind.wrap_i64]; omega)
    have ij : (j : Int) < (l.length : Int) := by omega
    have j0 : (0 : Int) ≤ (j : Int) := by omega
    have hk0 : (0 : Int) < (k : Int) := by omega
    have hkn : 0 < k := by omega
    have hp2 := (hB.cell (p := ⟨bb, off + j, none⟩) hbw).trans hp1
    rw [hak] at RD
    clear hp1
    by_cases ga : a < t
    ·have ON : Hid (areB l = upB (aheadI l (k + 1)) (l.drop (k + 1))) := Lib.hid (by
      rw [hO.out, hak, RD.out, gt]; show (decide (a < t) && _) = _
      rw [decide_eq_true ga, Bool.true_and]
      have e : aheadI l (k + 1) = some t := HX.out
      rw [e])
     have gb : decide (t ≤ a) = false := decide_eq_false (by omega)
     clear hO RD gt hak hj hy
     go_wp2_with fail
     go_quiet (fail)
     go_wp2_with fail
     go_roundw
     case rel => exact ⟨k + 1, by simp, gk, ON, below_drewN hB _⟩
     case measure => exact index_less7 gk
    ·have hO2 : Hid (areB l = false) := Lib.hid (by
      rw [hO.out, hak, RD.out, gt]; show (decide (a < t) && _) = _
      rw [decide_eq_false ga]; rfl)
     have gb : t ≤ a := by omega
     clear hO RD gt hak hj hy
     go_wp2_with fail
     go_quiet (fail)
     go_wp2_with fail
     go_ret
     exact ⟨(by rw [hO2.out]; try rfl), below_drewN hB _⟩
  ·have hkk : k = l.length := by omega
   have hO2 : Hid (areB l = true) := Lib.hid (by rw [hO.out, hkk, List.drop_length]; rfl)
   have i1 : ¬ (k : Int) < (l.length : Int) := by omega
   clear hO OE hkk
   go_wp2_with fail
   go_ret
   exact ⟨(by rw [hO2.out]; try rfl), hB⟩
end Go.Proofs.YtcfidimnbamnkaaGreat.P7

/-
 Layer 7: what is cut at a place and joined is as it was; the facts of RunsJoined. Conditions: none.
-/
namespace Go.Proofs.YtcfidimnbamnkaaGreat.P7
open Go.RowKit Go.Shelf
set_option maxRecDepth 100000

end Go.Proofs.YtcfidimnbamnkaaGreat.P7

/-
 Layer 7: the law RunsJoined holds of every input. Conditions: those of the law's row.
-/
namespace Go.Proofs.YtcfidimnbamnkaaGreat.P7
open Go.RowKit Go.Shelf

theorem run_grows {w w' : World} {g B : Nat} {C : Array Value} {t e : TypeId} {s n : Nat} {v : Value} {xs : List Value} (h : w.heap[g]? = some (.cells C t)) (k : w.ownsRow B e s v n xs) (he : t ≠ e) (hg : w.grownBy w' v.ownBlock) : w'.heap[g]? = some (.cells C t) := by
 refine (hg.block g (Array.getElem?_eq_some_iff.1 h).1 (fun hx => ?_)).trans h
 obtain ⟨_, k2⟩ := k
 rcases k2 with ⟨rfl, _⟩ | ⟨g', cap', cur', z1, _, z3, _⟩
 ·cases hx
 ·rw [z1] at hx
  injection hx with hx
  change g = g' at hx
  subst hx
  rw [h] at z3
  injection z3 with z3
  injection z3 with _ z3 _
  exact he z3
theorem run3_cells {W : World} {g : Nat} {f s c : Value} {t : TypeId} (h : W.heap[g]? = some (.cells #[f, s, c] t)) : W.cell? ⟨g, 0, none⟩ = some f ∧ W.cell? ⟨g, 1, none⟩ = some s ∧ W.cell? ⟨g, 2, none⟩ = some c := by
 simp [World.cell?, h]
theorem alloc_at (W : World) (o : Obj) : (W.alloc o).heap[W.heap.size]? = some o := World.alloc_heap_new W _
theorem below_heap {w W : World} {g : Nat} {o : Obj} (h : Below w.heap.size w W) (k : w.heap[g]? = some o) : W.heap[g]? = some o := (h.block g (Array.getElem?_eq_some_iff.1 k).1).trans k
theorem own_grows {w0 w w' : World} {e : TypeId} {s n : Nat} {v : Value} {xs : List Value} {o : Obj} (h : Below w0.heap.size w0 w) (k : w.ownsRow w0.heap.size e s v n xs) (hg : (w.alloc o).grownBy w' v.ownBlock) : Below w0.heap.size w0 w' :=
 (h.alloc h.size o).grown hg (Nat.le_trans h.size (by simp)) (by intro k' hk'; exact (k.lt k' hk').1)
theorem steps_more (f s : Int) (m : Nat) : stepsR f s (m + 1) = stepsR f s m ++ [f + s * (m : Int)] := by
 rw [steps_app f s m 1, Int.mul_comm s]
 rfl
theorem times_more {q : List Rn} {k : Nat} {r : Rn} (h : q[k]? = some r) : timesR (q.take (k + 1)) = timesR (q.take k) ++ stepsR r.f r.s r.c.toNat := by
 obtain ⟨a1, e1⟩ := List.getElem?_eq_some_iff.1 h
 rw [List.take_succ_eq_append_getElem a1, e1, timesR_app]
 simp [timesR]
end Go.Proofs.YtcfidimnbamnkaaGreat.P7

/-
 Layer 7: the runs of times, as the document's answer makes them, one whole run at a time. Conditions: those written at each fact.
-/
namespace Go.Proofs.YtcfidimnbamnkaaGreat.P7
open Go.RowKit

structure OfInv (T : List Int) (P : List Rn) (k : Nat) : Prop where
 rest : restB none 0 P = true
 times : timesR P = T.take k
 fol : ∀ t, T[k]? = some t → followB (lastO none P) ⟨t, 0, 1⟩ = true
theorem OfInv.start (T : List Int) : OfInv T [] 0 := ⟨rfl, rfl, fun _ _ => rfl⟩
theorem rest_pos {P : List Rn} (h : restB none 0 P = true) : ∀ r ∈ P, 1 ≤ r.c := fun r hr =>
 ((okB_facts (l := P) (by unfold okB; rw [h, Bool.and_true]; exact decide_eq_true (List.ne_nil_of_mem hr))).2.1 r hr).1
theorem OfInv.total {T : List Int} {P : List Rn} {k : Nat} (h : OfInv T P k) (hk : k ≤ T.length) : totalR P = k := by
 have e := timesR_length (l := P) (fun r hr => by have := rest_pos h.rest r hr; omega)
 rw [h.times, List.length_take] at e
 omega
theorem OfInv.small {T : List Int} {P : List Rn} {k : Nat} (h : OfInv T P k) (hk : k ≤ T.length) : P.length ≤ k := by
 have e := h.total hk
 have h1 : ∀ l : List Rn, (∀ r ∈ l, 1 ≤ r.c) → (l.length : Int) ≤ totalR l := by
  intro l
  induction l with
  | nil => simp [totalR]
  | cons a l ih =>
   intro hl
   have := ih (fun r hr => hl r (List.mem_cons_of_mem _ hr))
   have := hl a (List.mem_cons_self ..)
   simp only [totalR, List.length_cons]
   omega
 have := h1 P (rest_pos h.rest)
 omega
theorem OfInv.done {T : List Int} {P : List Rn} {k : Nat} (h : OfInv T P k) (hk : k = T.length) (hA : areB T = true) : laidR T = P := by
 have e : timesR P = T := by rw [h.times, hk, List.take_length]
 have hne : P ≠ [] := by
  rintro rfl
  have := ((areB_iff T).1 hA).1
  rw [← e] at this
  simp [timesR] at this
 have ok : okB P = true := by unfold okB; rw [h.rest, Bool.and_true]; exact decide_eq_true hne
 rw [← e]; exact laid_times ok
theorem up_range {T : List Int} (h : Up T) {i : Nat} {a : Int} (hi : T[i]? = some a) : 0 ≤ a ∧ a ≤ 281474976710656 := h.1 a (List.mem_of_getElem? hi)
theorem up_less {T : List Int} (h : Up T) {i j : Nat} {a b : Int} (hi : T[i]? = some a) (hj : T[j]? = some b) (hij : i < j) : a < b := by
 obtain ⟨a1, e1⟩ := List.getElem?_eq_some_iff.1 hi
 obtain ⟨b1, e2⟩ := List.getElem?_eq_some_iff.1 hj
 subst e1 e2
 exact List.pairwise_iff_getElem.1 h.2 i j a1 b1 hij
def Even (T : List Int) (k m : Nat) (f s : Int) : Prop := ∀ q, k ≤ q → q ≤ m → T[q]? = some (f + ((q - k : Nat) : Int) * s)
theorem even_take {T : List Int} {k m : Nat} {f s : Int} (hq : Even T k m f s) : ∀ n, k + n ≤ m + 1 → T.take (k + n) = T.take k ++ stepsR f s n
 | 0, _ => by simp [stepsR]
 | n + 1, h => by
  obtain ⟨a1, e1⟩ := List.getElem?_eq_some_iff.1 (hq (k + n) (by omega) (by omega))
  rw [← Nat.add_assoc, List.take_succ_eq_append_getElem a1, e1, even_take hq n (by omega), steps_more, List.append_assoc, Nat.add_sub_cancel_left, Int.mul_comm s]
theorem even_two {T : List Int} {k : Nat} {f g : Int} (h1 : T[k]? = some f) (h2 : T[k + 1]? = some g) : Even T k (k + 1) f (g - f) := by
 intro q a b
 rcases Nat.lt_or_ge k q with c | c
 ·obtain rfl : q = k + 1 := by omega
  rw [h2, show k + 1 - k = 1 by omega]
  congr 1
  simp only [Int.natCast_one, Int.one_mul]
  omega
 ·obtain rfl : q = k := by omega
  rw [h1, Nat.sub_self]
  simp
theorem even_more {T : List Int} {k m : Nat} {f s x y : Int} (h : Even T k m f s) (hkm : k ≤ m) (hx : T[m]? = some x) (hy : T[m + 1]? = some y) (e : y - x = s) : Even T k (m + 1) f s := by
 intro q a b
 rcases Nat.lt_or_ge m q with c | c
 ·obtain rfl : q = m + 1 := by omega
  have := h m hkm (Nat.le_refl _)
  rw [hx] at this
  injection this with this
  rw [hy, show m + 1 - k = (m - k) + 1 by omega]
  congr 1
  rw [Int.natCast_add, Int.add_mul]
  simp only [Int.natCast_one, Int.one_mul]
  omega
 ·exact h q a c
theorem OfInv.next {T : List Int} {P : List Rn} {k : Nat} (h : OfInv T P k) (hA : areB T = true) {f s : Int} {m : Nat} (hkm : k < m) (hq : Even T k m f s) (hend : ∀ x y, T[m]? = some x → T[m + 1]? = some y → ¬ y - x = s) :
  OfInv T (P ++ [⟨f, s, (m : Int) - k + 1⟩]) (m + 1) := by
 obtain ⟨t1, t2, hU⟩ := (areB_iff T).1 hA
 have a0 := hq k (Nat.le_refl _) (by omega)
 have a1 := hq (k + 1) (by omega) (by omega)
 have am := hq m (by omega) (Nat.le_refl _)
 rw [Nat.sub_self] at a0
 rw [show k + 1 - k = 1 by omega] at a1
 simp only [Int.natCast_zero, Int.zero_mul, Int.add_zero] at a0
 simp only [Int.natCast_one, Int.one_mul] at a1
 have hm : m < T.length := (List.getElem?_eq_some_iff.1 am).1
 have r0 := up_range hU a0
 have r1 := up_range hU a1
 have rm := up_range hU am
 have l01 := up_less hU a0 a1 (by omega)
 have tot := h.total (k := k) (by omega)
 have ec : (m : Int) - k + 1 - 1 = ((m - k : Nat) : Int) := by omega
 have ec2 : (m : Int) - k + 1 = ((m - k : Nat) : Int) + 1 := by omega
 refine ⟨?_, ?_, ?_⟩
 ·rw [restB_snoc, h.rest, follow_f (b := ⟨f, s, (m : Int) - k + 1⟩) (h.fol f a0) rfl, Bool.true_and, Bool.and_true]
  refine (runB_iff _ _).2 ⟨by simp only; omega, by simp only; omega, r0, ?_⟩
  simp only
  rw [if_neg (by omega), ec]
  exact ⟨by omega, by omega, rm⟩
 ·rw [timesR_app, h.times]
  simp only [timesR, List.append_nil]
  rw [show ((m : Int) - k + 1).toNat = m - k + 1 by omega, ← even_take hq (m - k + 1) (by omega), show k + (m - k + 1) = m + 1 by omega]
 ·intro t ht
  rw [lastO_snoc]
  have lt := up_less hU am ht (by omega)
  have ne := hend _ _ am ht
  simp only [followB, behindB, Bool.and_eq_true, decide_eq_true_eq]
  refine ⟨by omega, by rw [ec]; exact lt, ?_⟩
  intro e
  apply ne
  rw [ec2, Int.add_mul, Int.one_mul] at e
  omega
theorem OfInv.last {T : List Int} {P : List Rn} {k : Nat} (h : OfInv T P k) (hA : areB T = true) {f : Int} (hf : T[k]? = some f) (hk : k + 1 = T.length) : laidR T = P ++ [⟨f, 0, 1⟩] := by
 obtain ⟨t1, t2, hU⟩ := (areB_iff T).1 hA
 have tot := h.total (k := k) (by omega)
 obtain ⟨a1, e1⟩ := List.getElem?_eq_some_iff.1 hf
 refine OfInv.done (k := k + 1) ⟨?_, ?_, fun t ht => ?_⟩ hk hA
 ·rw [restB_snoc, h.rest, h.fol f hf, Bool.true_and, Bool.and_true]
  exact (runB_iff _ _).2 ⟨by simp, by simp only; omega, up_range hU hf, by simp⟩
 ·rw [timesR_app, h.times, List.take_succ_eq_append_getElem a1, e1]
  simp [timesR, stepsR]
 ·have := (List.getElem?_eq_some_iff.1 ht).1
  omega
end Go.Proofs.YtcfidimnbamnkaaGreat.P7

/-
 Layer 7: the document's own answer: the times of runs. Conditions: those written at each fact.
-/
namespace Go.Proofs.YtcfidimnbamnkaaGreat.P7
open Go.RowKit

deriving instance DecidableEq for Rn
def smallB (r : Rn) (n : Int) : Bool := decide (1 ≤ r.c ∧ r.c ≤ 256 ∧ n + r.c ≤ 256 ∧ 0 ≤ r.s ∧ r.s ≤ 281474976710656 ∧ 0 ≤ r.f ∧ r.f ≤ 281474976710656)
def smallAll : Int → List Rn → Bool
 | _, [] => true
 | n, r :: l => smallB r n && smallAll (n + r.c) l
def timesD (l : List Rn) : List Int := if smallAll 0 l then timesR l else []
theorem small_rest : ∀ (l : List Rn) (p : Option Rn) (n : Int), 0 ≤ n → restB p n l = true → smallAll n l = true
 | [], _, _, _, _ => rfl
 | r :: l, p, n, h0, h => by
  simp only [restB, Bool.and_eq_true] at h
  obtain ⟨h1, _, h3⟩ := h
  obtain ⟨a1, a2, a3, a4⟩ := (runB_iff _ _).1 h1
  have h4 : smallB r n = true := by
   refine decide_eq_true ⟨a1, by omega, by omega, ?_, ?_, a3.1, a3.2⟩
   ·split at a4 <;> omega
   ·split at a4 <;> omega
  rw [smallAll, h4, small_rest l (some r) (n + r.c) (by omega) h3]
  rfl
theorem timesD_ok {l : List Rn} (h : okB l = true) : timesD l = timesR l := by
 unfold okB at h
 simp only [Bool.and_eq_true] at h
 rw [timesD, if_pos (small_rest l none 0 (Int.le_refl _) h.2)]
theorem right_is (l : List Rn) : okB l = (areB (timesD l) && decide (laidR (timesD l) = l)) := by
 cases g : okB l with
 | true =>
  rw [timesD_ok g, times_are g, laid_times g]
  simp
 | false =>
  cases a : areB (timesD l) with
  | false => rfl
  | true =>
   symm
   rw [Bool.true_and]
   refine decide_eq_false fun e => ?_
   have := (laid_are a).1
   rw [e, g] at this
   cases this
theorem small_cases (f s c : Int) (n : Nat) (hn : n ≤ 256) : smallB ⟨f, s, c⟩ n = false ∧ (c < 1 ∨ (¬ c < 1 ∧ 256 < c) ∨ (¬ c < 1 ∧ ¬ 256 < c ∧ wrap64 ((n : Int) + c) = (n : Int) + c ∧ 256 < (n : Int) + c) ∨ (¬ c < 1 ∧ ¬ 256 < c ∧ wrap64 ((n : Int) + c) = (n : Int) + c ∧ ¬ 256 < (n : Int) + c ∧ s < 0) ∨ (¬ c < 1 ∧ ¬ 256 < c ∧ wrap64 ((n : Int) + c) = (n : Int) + c ∧ ¬ 256 < (n : Int) + c ∧ ¬ s < 0 ∧ 281474976710656 < s)
  ∨ (¬ c < 1 ∧ ¬ 256 < c ∧ wrap64 ((n : Int) + c) = (n : Int) + c ∧ ¬ 256 < (n : Int) + c ∧ ¬ s < 0 ∧ ¬ 281474976710656 < s ∧ f < 0) ∨ (¬ c < 1 ∧ ¬ 256 < c ∧ wrap64 ((n : Int) + c) = (n : Int) + c ∧ ¬ 256 < (n : Int) + c ∧ ¬ s < 0 ∧ ¬ 281474976710656 < s ∧ ¬ f < 0 ∧ 281474976710656 < f))
  ∨ smallB ⟨f, s, c⟩ n = true ∧ ¬ c < 1 ∧ ¬ 256 < c ∧ wrap64 ((n : Int) + c) = (n : Int) + c ∧ ¬ 256 < (n : Int) + c ∧ ¬ s < 0 ∧ ¬ 281474976710656 < s ∧ ¬ f < 0 ∧ ¬ 281474976710656 < f := by
 by_cases a1 : c < 1
 ·exact .inl ⟨decide_eq_false (by simp only; omega), .inl a1⟩
 by_cases a2 : 256 < c
 ·exact .inl ⟨decide_eq_false (by simp only; omega), .inr (.inl ⟨a1, a2⟩)⟩
 have w : wrap64 ((n : Int) + c) = (n : Int) + c := i64_keeps (by omega) (by omega)
 by_cases a3 : 256 < (n : Int) + c
 ·exact .inl ⟨decide_eq_false (by simp only; omega), .inr (.inr (.inl ⟨a1, a2, w, a3⟩))⟩
 by_cases a4 : s < 0
 ·exact .inl ⟨decide_eq_false (by simp only; omega), .inr (.inr (.inr (.inl ⟨a1, a2, w, a3, a4⟩)))⟩
 by_cases a5 : 281474976710656 < s
 ·exact .inl ⟨decide_eq_false (by simp only; omega), .inr (.inr (.inr (.inr (.inl ⟨a1, a2, w, a3, a4, a5⟩))))⟩
 by_cases a6 : f < 0
 ·exact .inl ⟨decide_eq_false (by simp only; omega), .inr (.inr (.inr (.inr (.inr (.inl ⟨a1, a2, w, a3, a4, a5, a6⟩)))))⟩
 by_cases a7 : 281474976710656 < f
 ·exact .inl ⟨decide_eq_false (by simp only; omega), .inr (.inr (.inr (.inr (.inr (.inr ⟨a1, a2, w, a3, a4, a5, a6, a7⟩)))))⟩
 ·exact .inr ⟨decide_eq_true (by simp only; omega), a1, a2, w, a3, a4, a5, a6, a7⟩
theorem small_step {s c : Int} (h1 : ¬ 256 < c) (h2 : ¬ s < 0) (h3 : ¬ 281474976710656 < s) {j : Nat} (hj : (j : Int) < c) : 0 ≤ (j : Int) * s ∧ (j : Int) * s ≤ 72057594037927936 := by
 have a1 : 0 ≤ (j : Int) * s := Int.mul_nonneg (by omega) (by omega)
 have a2 : (j : Int) * s ≤ 256 * s := Int.mul_le_mul_of_nonneg_right (by omega) (by omega)
 omega
theorem steps_more2 (f s : Int) (m : Nat) : stepsR f s (m + 1) = stepsR f s m ++ [f + (m : Int) * s] := by rw [steps_more, Int.mul_comm s]
theorem smallAll_drop {l : List Rn} {k : Nat} {r : Rn} (h : l[k]? = some r) (n : Int) : smallAll n (l.drop k) = (smallB r n && smallAll (n + r.c) (l.drop (k + 1))) := by rw [drop_of h]; rfl
theorem own_slice {w : World} {B : Nat} {e : TypeId} {s n : Nat} {v : Value} {xs : List Value} (h : w.ownsRow B e s v n xs) : ∃ A c, v = .slice A n c := by
 obtain ⟨_, h⟩ := h
 rcases h with ⟨rfl, rfl⟩ | ⟨g, cap, cur, rfl, _⟩
 ·exact ⟨none, 0, rfl⟩
 ·exact ⟨_, cap, rfl⟩
def LaidI (w : World) (l : List Int) (e : Ending) (w' : World) : Prop := ∃ v, e = .returned v ∧ Below w.heap.size w w' ∧ RowI w.heap.size l v w'

set_option maxRecDepth 100000 in
set_option maxHeartbeats 4000000 in
theorem refTimes_any (l : List Rn) (hl : l.length ≤ 1000000) (v : Value) (w : World) (h : ReadsR w v l) : Calls Tryz.prog 56 #[v] w (LaidI w (timesD l)) := by
 obtain ⟨i0, hi, hz0, hz1, hz2⟩ := info_parts infoI64
 obtain ⟨A, c, rfl, hc, hk⟩ := h
 have HK := Lib.hid hk
 clear hk
 go_enter Tryz.func56, Tryz.ntmps56
 go_wp2_with fail
 go_loopw [3, 4] (fun u i wr => ∃ (k n : Nat), i = .int .i64 k ∧ k ≤ l.length ∧ n ≤ 256 ∧ Hid ((timesR (l.take k)).length = n ∧ smallAll 0 l = smallAll n (l.drop k)) ∧ Hid (wr.ownsRow w.heap.size 2 1 u n ((timesR (l.take k)).map (Value.int .i64))) ∧ Below w.heap.size w wr) (fun _ i _ => l.length - (intOf i).toNat)
 case atStart => exact ⟨0, 0, rfl, by omega, by omega, Lib.hid ⟨rfl, rfl⟩, Lib.hid (World.ownsRow_nil _ _ _ _), Below.refl _ _⟩
 case round =>
  obtain ⟨k, n, rfl, hkl, hn, HI, HO, hB⟩ := hrel
  by_cases gk : k < l.length
  ·obtain ⟨⟨f, s, d⟩, hx⟩ : ∃ s, l[k]? = some s := ⟨_, List.getElem?_eq_getElem gk⟩
   obtain ⟨bb, off, rfl, hbw, hc1, hc2, hc3⟩ := HK.out k _ hx
   have c1 := (hB.cell (p := ⟨bb, off + k * 3, none⟩) hbw).trans hc1
   have c2 := (hB.cell (p := ⟨bb, off + k * 3 + 1, none⟩) hbw).trans hc2
   have c3 := (hB.cell (p := ⟨bb, off + k * 3 + 2, none⟩) hbw).trans hc3
   have j1 : (k : Int) < (l.length : Int) := by omega
   have j0 : (0 : Int) ≤ (k : Int) := by omega
   have SD := Lib.hid (smallAll_drop hx (n : Int))
   have ET := Lib.hid (times_more hx)
   simp only at c1 c2 c3
   clear hc1 hc2 hc3 hx
   obtain ⟨A3, c3', rfl⟩ := own_slice HO.out
   rcases small_cases f s d n hn with ⟨hb, hcs⟩ | ⟨hb, a1, a2, a3, a4, a5, a6, a7, a8⟩
   ·have EE : Hid (timesD l = []) := Lib.hid (by rw [timesD, if_neg (by rw [HI.out.2, SD.out, hb]; simp)])
    clear SD ET HI
    rcases hcs with a1 | ⟨a1, a2⟩ | ⟨a1, a2, a3, a4⟩ | ⟨a1, a2, a3, a4, a5⟩ | ⟨a1, a2, a3, a4, a5, a6⟩ | ⟨a1, a2, a3, a4, a5, a6, a7⟩ | ⟨a1, a2, a3, a4, a5, a6, a7, a8⟩
    all_goals
     go_wp2_with fail
     go_ret
     exact ⟨_, rfl, under hB (below_alloc wr _), by rw [EE.out]; exact World.ownsRow_nil _ _ _ _⟩
   ·obtain ⟨ET2, hEn⟩ : Hid (timesR (l.take (k + 1)) = timesR (l.take k) ++ stepsR f s d.toNat) ∧ Hid (smallAll 0 l = smallAll ((n : Int) + d) (l.drop (k + 1))) := ⟨Lib.hid ET.out, Lib.hid (by rw [HI.out.2, SD.out, hb, Bool.true_and])⟩
    have HN := Lib.hid HI.out.1
    clear ET SD HI hb
    generalize timesR (l.take k) = P at *
    go_wp2_with fail
    obtain ⟨wo, rfl⟩ : ∃ wo : World, wo = wr := ⟨_, rfl⟩
    have E0 : P ++ stepsR f s 0 = P := List.append_nil _
    go_loopw [3, 6] (fun u i wi => ∃ j : Nat, i = .int .i64 j ∧ (j : Int) ≤ d ∧ Hid (wi.ownsRow w.heap.size 2 1 u (P ++ stepsR f s j).length ((P ++ stepsR f s j).map (Value.int .i64))) ∧ Hid (wi.heap[wo.heap.size]? = some (.cells #[.int .i64 f, .int .i64 s, .int .i64 d] 44)) ∧ Below w.heap.size w wi) (fun _ i _ => (d - intOf i).toNat)
    case atStart => exact ⟨0, rfl, by omega, Lib.hid (by rw [E0, HN.out]; exact HO.out.alloc _), Lib.hid (alloc_at _ _), under hB (below_alloc wo _)⟩
    case round =>
     obtain ⟨j, rfl, hjc, HJ, HR, hBi⟩ := hrel
     obtain ⟨q1, q2, q3⟩ := run3_cells HR.out
     by_cases gj : (j : Int) < d
     ·obtain ⟨b1, b2⟩ := small_step (s := s) (c := d) (by omega) (by omega) (by omega) gj
      have e3 : wrap64 ((j : Int) * s) = (j : Int) * s := i64_keeps (by omega) (by omega)
      have e4 : wrap64 (f + (j : Int) * s) = f + (j : Int) * s := i64_keeps (by omega) (by omega)
      have EV := Lib.hid (steps_more2 f s j)
      have hLn : (P ++ stepsR f s j).length ≤ 512 := by rw [List.length_append, steps_length, HN.out]; omega
      have hjs : j ≤ 256 := by omega
      clear b1 b2
      go_wp2_with (at_builtin; go_loud (refine wpList_append_own _ rfl _ _ 25 rfl w.heap.size 2 i0 (.int .i64 0) 1 8 Tryz.underlying25 hi hz0 hz1 hz2 rfl (by decide) _ _ _ rfl (HJ.out.alloc _) ⟨wr.heap.size, 0, none⟩ 1 1 [.int .i64 (f + (j : Int) * s)] rfl rfl ?c1 ?c2 ?c3 ?c4 ?c5 ?_))
      case c1 =>
       intro j u hj
       match j, hj with
       | 0, hj => simp at hj; subst hj; simp [Addr.add]
      case c2 => intro u hu; simp at hu; subst hu; rfl
      case c3 => unfold maxLen; omega
      case c4 => omega
      case c5 => have := hBi.size; simp; omega
      intro v' w12 hown' hgrow _
      have HR3 := Lib.hid (run_grows (below_heap (below_alloc wr _) HR.out) (HJ.out.alloc _) (by decide) hgrow)
      have HO3 : Hid (w12.ownsRow w.heap.size 2 1 v' ((P ++ stepsR f s j) ++ [f + (j : Int) * s]).length (((P ++ stepsR f s j) ++ [f + (j : Int) * s]).map (Value.int .i64))) := Lib.hid (by simpa [Nat.add_assoc] using hown')
      have hB3 := own_grows hBi HJ.out hgrow
      rw [List.append_assoc, ← EV.out] at HO3
      clear hown' hgrow HJ HR hBi q1 q2 q3 e3 e4
      go_wp2_with fail
      go_roundw
      case rel => exact ⟨j + 1, by simp, by omega, HO3, HR3, hB3⟩
      case measure => simp [intOf]; omega
     ·have j2 : ¬ (j : Int) < d := by omega
      have EJ : j = d.toNat := by omega
      rw [EJ, ← ET2.out] at HJ
      obtain ⟨n2, hn2⟩ : ∃ n2 : Nat, n2 = n + d.toNat := ⟨_, rfl⟩
      have HI2 : Hid ((timesR (l.take (k + 1))).length = n2 ∧ smallAll 0 l = smallAll (n2 : Int) (l.drop (k + 1))) := Lib.hid ⟨by rw [ET2.out, List.length_append, steps_length, HN.out, hn2], by rw [hEn.out]; congr 1; omega⟩
      rw [HI2.out.1] at HJ
      go_wp2_with fail
      go_roundw
      case rel => exact ⟨k + 1, n2, by simp, gk, by omega, HI2, HJ, hBi⟩
      case measure => exact index_less7 gk
  ·have hkk : k = l.length := by omega
   have i1 : ¬ (k : Int) < (l.length : Int) := by omega
   have EL : Hid (timesD l = timesR l ∧ (timesR l).length = n) := Lib.hid (by
    obtain ⟨h1, h2⟩ := HI.out
    rw [hkk, List.drop_length] at h2
    rw [hkk, List.take_length] at h1
    exact ⟨by rw [timesD, if_pos (by rw [h2]; rfl)], h1⟩)
   rw [hkk, List.take_length] at HO
   clear HI
   go_wp2_with fail
   go_ret
   exact ⟨_, rfl, hB, by unfold RowI; rw [EL.out.1, EL.out.2]; exact HO.out⟩
end Go.Proofs.YtcfidimnbamnkaaGreat.P7

/-
 Layer 7: the document's own answer: the runs of times. Conditions: those written at each fact.
-/
namespace Go.Proofs.YtcfidimnbamnkaaGreat.P7
open Go.RowKit

set_option maxRecDepth 100000 in
set_option maxHeartbeats 4000000 in
theorem refOf_any (T : List Int) (hA : areB T = true) (v : Value) (w : World) (h : Reads .i64 w v T) : Calls Tryz.prog 113 #[v] w (LaidR w (laidR T)) := by
 obtain ⟨i0, hi, hz0, hz1, hz2⟩ := info_parts infoRun
 obtain ⟨A, c, rfl, hc, hk⟩ := h
 have HK := Lib.hid hk
 have HA := Lib.hid hA
 have hn : T.length ≤ 256 := ((areB_iff T).1 hA).2.1
 have HU : Hid (Up T) := Lib.hid ((areB_iff T).1 hA).2.2
 clear hk hA
 go_enter Tryz.func113, Tryz.ntmps113
 go_wp2_with fail
 go_loopw [3, 4] (fun u i wr => ∃ (k : Nat) (P : List Rn), i = .int .i64 k ∧ k ≤ T.length ∧ Hid (OfInv T P k) ∧ Hid (wr.ownsRow w.heap.size 44 3 u P.length (flatR P)) ∧ Below w.heap.size w wr) (fun _ i _ => T.length - (intOf i).toNat)
 case atStart => exact ⟨0, [], rfl, by omega, Lib.hid (OfInv.start T), Lib.hid (World.ownsRow_nil _ _ _ _), Below.refl _ _⟩
 case round =>
  obtain ⟨k, P, rfl, hkl, HI, HO, hB⟩ := hrel
  by_cases gk : k < T.length
  ·obtain ⟨f, hx⟩ : ∃ s, T[k]? = some s := ⟨_, List.getElem?_eq_getElem gk⟩
   obtain ⟨bb, off, rfl, hbw, hc1⟩ := HK.out k _ hx
   have i1 : (k : Int) < (T.length : Int) := by omega
   have j0 : (0 : Int) ≤ (k : Int) := by omega
   have HX := Lib.hid hx
   have HC1 := Lib.hid hc1
   have HP : P.length ≤ 256 := by have := HI.out.small hkl; omega
   clear hc1 hx
   by_cases ge : k + 1 = T.length
   ·have e1 : ((k : Int) + 1 == (T.length : Int)) = true := beq_iff_eq.2 (by omega)
    have EL := Lib.hid (HI.out.last HA.out HX.out ge)
    have c1 := (hB.cell (p := ⟨bb, off + k, none⟩) hbw).trans HC1.out
    clear HI HX HA HU HC1
    go_wp2_with (at_builtin; refine wpList_append_own _ rfl _ _ 22 rfl w.heap.size 44 i0 (.agg #[.int .i64 0, .int .i64 0, .int .i64 0]) 3 24 Tryz.underlying22 hi hz0 hz1 hz2 rfl (by decide) _ _ _ rfl (HO.out.alloc _) ⟨wr.heap.size, 0, none⟩ 1 1 [.int .i64 f, .int .i64 0, .int .i64 1] rfl rfl ?c1 ?c2 ?c3 ?c4 ?c5 ?_)
    case c1 => exact new_cells3 rfl
    case c2 => intro u hu; simp at hu; rcases hu with rfl | rfl | rfl <;> rfl
    case c3 => unfold maxLen; omega
    case c4 => omega
    case c5 => have := hB.size; simp; omega
    intro v' w12 hown' hgrow _
    have hB3 := own_grows hB HO.out hgrow
    go_wp2_with fail
    go_ret
    exact ⟨v', rfl, hB3, by rw [EL.out, List.length_append, flatR_app]; exact hown'⟩
   ·have e1 : ((k : Int) + 1 == (T.length : Int)) = false := beq_eq_false_iff_ne.2 (by omega)
    obtain ⟨g, hy⟩ : ∃ s, T[k + 1]? = some s := ⟨_, List.getElem?_eq_getElem (by omega)⟩
    obtain ⟨bb', off', hbe, hbw', hp1⟩ := HK.out (k + 1) _ hy
    cases hbe
    have HC2 := Lib.hid hp1
    have l1 : (k : Int) + 1 < (T.length : Int) := by omega
    have rf := up_range HU.out HX.out
    have rg := up_range HU.out hy
    obtain ⟨s, hs⟩ : ∃ s, g - f = s := ⟨_, rfl⟩
    have wsK : IntKind.i64.wrap (g - f) = s := by rw [← hs, IntKind.wrap_i64]; omega
    have ws : wrap64 (g - f) = s := by rw [← hs]; exact i64_keeps (by omega) (by omega)
    have HS : Hid (Even T k (k + 1) f s) := Lib.hid (by rw [← hs]; exact even_two HX.out hy)
    clear hp1 hy rf rg hs HX
    go_wp2_with fail
    obtain ⟨wo, rfl⟩ : ∃ wo : World, wo = wr := ⟨_, rfl⟩
    go_loopw [5] (fun j wi => ∃ m : Nat, j = .int .i64 m ∧ k < m ∧ m < T.length ∧ Hid (Even T k m f s) ∧ Below wo.heap.size wo wi) (fun j _ => T.length - (intOf j).toNat)
    case atStart => exact ⟨k + 1, by simp, by omega, by omega, HS, Below.refl _ _⟩
    case round =>
     obtain ⟨m, rfl, hkm, hmT, HE, hBi⟩ := hrel
     have hB2 := under hB hBi
     by_cases gm : m + 1 < T.length
     ·obtain ⟨x, hx⟩ : ∃ s, T[m]? = some s := ⟨_, List.getElem?_eq_getElem hmT⟩
      obtain ⟨y, hy⟩ : ∃ s, T[m + 1]? = some s := ⟨_, List.getElem?_eq_getElem gm⟩
      obtain ⟨bb', off', hbe, hbw1, hp1⟩ := HK.out m _ hx
      cases hbe
      obtain ⟨bb', off', hbe, hbw2, hp2⟩ := HK.out (m + 1) _ hy
      cases hbe
      have rx := up_range HU.out hx
      have ry := up_range HU.out hy
      have c1 := (hB2.cell (p := ⟨bb, off + k, none⟩) hbw).trans HC1.out
      have c2 := (hB2.cell (p := ⟨bb, off + (k + 1), none⟩) hbw').trans HC2.out
      have c3 := (hB2.cell (p := ⟨bb, off + m, none⟩) hbw1).trans hp1
      have c4 := (hB2.cell (p := ⟨bb, off + (m + 1), none⟩) hbw2).trans hp2
      have m1 : (m : Int) + 1 < (T.length : Int) := by omega
      have m2 : (m : Int) < (T.length : Int) := by omega
      have m0 : (0 : Int) ≤ (m : Int) := by omega
      obtain ⟨d, hd⟩ : ∃ d, y - x = d := ⟨_, rfl⟩
      have wd : wrap64 (y - x) = d := by rw [← hd]; exact i64_keeps (by omega) (by omega)
      clear hp1 hp2 rx ry hbw1 hbw2
      by_cases ed : d = s
      ·have HE2 := Lib.hid (even_more HE.out (by omega) hx hy (hd.trans ed))
       have tt : (d == s) = true := beq_iff_eq.2 ed
       clear hd ed hx hy
       go_wp2_with fail
       go_quiet (fail)
       go_wp2_with fail
       go_roundw
       case rel => exact ⟨m + 1, by simp, by omega, gm, HE2, below_drewN hBi _⟩
       case measure => exact index_less7 hmT
      ·have HN := Lib.hid (HI.out.next HA.out hkm HE.out (fun x' y' h1 h2 h3 => by rw [hx] at h1; rw [hy] at h2; cases h1; cases h2; exact ed (hd.symm.trans h3)))
       have tt : (d == s) = false := beq_eq_false_iff_ne.2 ed
       clear hd ed hx hy
       go_wp2_with fail
       go_quiet (fail)
       go_wp2_with fail
       have HOI := Lib.hid (owns_below HO.out (below_drewN hBi nq))
       have hBz := below_drewN hB2 nq
       generalize wr.drewN nq = wz at *
       obtain ⟨k1, hk1⟩ : ∃ k1, k1 = k + 1 := ⟨_, rfl⟩
       have wk1 : IntKind.i64.wrap ((k : Int) + 1) = (k1 : Int) := by rw [IntKind.wrap_i64]; omega
       have wk2 : (k1 : Int) < (T.length : Int) := by omega
       have wk0 : (0 : Int) ≤ (k1 : Int) := by omega
       have HC3 : Hid (w.cell? ⟨bb, off + k1, none⟩ = some (.int .i64 g)) := Lib.hid (by rw [hk1]; exact HC2.out)
       clear hk1
       have wm : IntKind.i64.wrap ((m : Int) - k) = (m : Int) - k := by rw [IntKind.wrap_i64]; omega
       have wm1 : IntKind.i64.wrap ((m : Int) - k + 1) = (m : Int) - k + 1 := by rw [IntKind.wrap_i64]; omega
       refine region_keeps (w0 := w) (L := []) (by kernel_rfl) ⟨hBz, trivial⟩ (fun hHeld0 => ?_)
       refine tv 0 56 rfl rfl ?_
       try go_frame
       refine tv 1 57 rfl rfl ?_
       try go_frame
       refine tv 2 58 rfl rfl ?_
       try go_frame
       refine tv 3 59 rfl rfl ?_
       try go_frame
       refine tk 4 60 rfl rfl ?_ ?_ ?_
       rotate_left
       ·intro wq hSw; obtain _ := hSw.2; have x1 := (hSw.1.cell (p := ⟨bb, off + k, none⟩) hbw).trans HC1.out; have x2 := (hSw.1.cell (p := ⟨bb, off + k1, none⟩) hbw').trans HC3.out; go_simp; (try with_reducible rfl)
       try go_frame
       refine tv 5 61 rfl rfl ?_
       try go_frame
       refine tv 6 62 rfl rfl ?_
       try go_frame
       refine tv 7 63 rfl rfl ?_
       try go_frame
       refine tv 8 64 rfl rfl ?_
       try go_frame
       refine tk 9 65 rfl rfl ?_ ?_ ?_
       rotate_left
       ·intro wq hSw; obtain _ := hSw.2; have x1 := (hSw.1.cell (p := ⟨bb, off + k, none⟩) hbw).trans HC1.out; have x2 := (hSw.1.cell (p := ⟨bb, off + k1, none⟩) hbw').trans HC3.out; go_simp; (try with_reducible rfl)
       try go_frame
       refine tv 10 66 rfl rfl ?_
       try go_frame
       refine tv 11 67 rfl rfl ?_
       try go_frame
       refine tv 12 68 rfl rfl ?_
       try go_frame
       refine tk 13 69 rfl rfl ?_ ?_ ?_
       rotate_left
       ·intro wq hSw; obtain _ := hSw.2; have x1 := (hSw.1.cell (p := ⟨bb, off + k, none⟩) hbw).trans HC1.out; have x2 := (hSw.1.cell (p := ⟨bb, off + k1, none⟩) hbw').trans HC3.out; go_simp; (try with_reducible rfl)
       try go_frame
       refine tv 14 70 rfl rfl ?_
       try go_frame
       refine tv 15 71 rfl rfl ?_
       try go_frame
       refine tv 16 72 rfl rfl ?_
       try go_frame
       refine tv 17 73 rfl rfl ?_
       try go_frame
       refine tv 18 74 rfl rfl ?_
       try go_frame
       refine tv 19 75 rfl rfl ?_
       try go_frame
       refine tw 20 rfl fun K hK => ?_
       go_simp
       refine hK.out _ _ (by first | exact hHeld0.alloc _ | exact (hHeld0.alloc _).drew) (fun hHeld1 => ?_)
       clear hK K; try clear hb
       try go_frame
       refine tw 21 rfl fun K hK => ?_
       (refine if_wanted rfl ?_; refine wp_append_own _ (.tmp 56) (.tmp 76) 22 rfl w.heap.size 44 i0 (.agg #[.int .i64 0, .int .i64 0, .int .i64 0]) 3 24 Tryz.underlying22 hi hz0 hz1 hz2 rfl (by decide) _ _ _ rfl (owns_below HOI.out (by go_grown)) ⟨wz.heap.size, 0, none⟩ 1 1 [.int .i64 f, .int .i64 s, .int .i64 ((m : Int) - k + 1)] rfl rfl (fun j u hj => new_cells3 (W := wz) rfl j u hj) (by intro u hu; simp at hu; rcases hu with rfl | rfl | rfl <;> rfl) (by unfold maxLen; omega) (by omega) (hHeld1).1.size (fun v5 w5 hown5 hgrow5 _ => ?_))
       refine hK.out _ _ (⟨((hHeld1).1).grown hgrow5 (hHeld1).1.size (fun j hj => (HOI.out.lt j hj).1), trivial⟩) (fun hHeld2 => ?_)
       clear hK K; try clear hb
       try go_frame
       refine tv 22 3 rfl rfl ?_
       try go_frame
       refine wpAnyH_done (by kernel_rfl) ?_ _
       have hHeld := hHeld2
       all_goals
        have HO5 : Hid (w5.ownsRow w.heap.size 44 3 v5 (P ++ [(⟨f, s, (m : Int) - k + 1⟩ : Rn)]).length (flatR (P ++ [⟨f, s, (m : Int) - k + 1⟩]))) := Lib.hid (by rw [List.length_append, flatR_app]; exact hown5)
        have hB5 := hHeld.1
        clear hown5 hgrow5 hHeld hHeld0 hHeld1 HO HOI HE HI wk1 wk2 wk0 HC3 wm wm1 ws wsK
        go_wp2_with fail
        go_roundw
        case rel => exact ⟨m + 1, P ++ [⟨f, s, (m : Int) - k + 1⟩], by simp, by omega, HN, HO5, hB5⟩
        case measure => simp [intOf]; omega
     ·have HN := Lib.hid (HI.out.next HA.out hkm HE.out (fun x' y' h1 h2 => by have := (List.getElem?_eq_some_iff.1 h2).1; omega))
      have m1 : decide ((m : Int) + 1 < (T.length : Int)) = false := decide_eq_false (by omega)
      go_wp2_with fail
      go_quiet (fail)
      go_wp2_with fail
      have HOI := Lib.hid (owns_below HO.out (below_drewN hBi nq))
      have hBz := below_drewN hB2 nq
      generalize wr.drewN nq = wz at *
      obtain ⟨k1, hk1⟩ : ∃ k1, k1 = k + 1 := ⟨_, rfl⟩
      have wk1 : IntKind.i64.wrap ((k : Int) + 1) = (k1 : Int) := by rw [IntKind.wrap_i64]; omega
      have wk2 : (k1 : Int) < (T.length : Int) := by omega
      have wk0 : (0 : Int) ≤ (k1 : Int) := by omega
      have HC3 : Hid (w.cell? ⟨bb, off + k1, none⟩ = some (.int .i64 g)) := Lib.hid (by rw [hk1]; exact HC2.out)
      clear hk1
      have wm : IntKind.i64.wrap ((m : Int) - k) = (m : Int) - k := by rw [IntKind.wrap_i64]; omega
      have wm1 : IntKind.i64.wrap ((m : Int) - k + 1) = (m : Int) - k + 1 := by rw [IntKind.wrap_i64]; omega
      refine region_keeps (w0 := w) (L := []) (by kernel_rfl) ⟨hBz, trivial⟩ (fun hHeld0 => ?_)
      refine tv 0 56 rfl rfl ?_
      try go_frame
      refine tv 1 57 rfl rfl ?_
      try go_frame
      refine tv 2 58 rfl rfl ?_
      try go_frame
      refine tv 3 59 rfl rfl ?_
      try go_frame
      refine tk 4 60 rfl rfl ?_ ?_ ?_
      rotate_left
      ·intro wq hSw; obtain _ := hSw.2; have x1 := (hSw.1.cell (p := ⟨bb, off + k, none⟩) hbw).trans HC1.out; have x2 := (hSw.1.cell (p := ⟨bb, off + k1, none⟩) hbw').trans HC3.out; go_simp; (try with_reducible rfl)
      try go_frame
      refine tv 5 61 rfl rfl ?_
      try go_frame
      refine tv 6 62 rfl rfl ?_
      try go_frame
      refine tv 7 63 rfl rfl ?_
      try go_frame
      refine tv 8 64 rfl rfl ?_
      try go_frame
      refine tk 9 65 rfl rfl ?_ ?_ ?_
      rotate_left
      ·intro wq hSw; obtain _ := hSw.2; have x1 := (hSw.1.cell (p := ⟨bb, off + k, none⟩) hbw).trans HC1.out; have x2 := (hSw.1.cell (p := ⟨bb, off + k1, none⟩) hbw').trans HC3.out; go_simp; (try with_reducible rfl)
      try go_frame
      refine tv 10 66 rfl rfl ?_
      try go_frame
      refine tv 11 67 rfl rfl ?_
      try go_frame
      refine tv 12 68 rfl rfl ?_
      try go_frame
      refine tk 13 69 rfl rfl ?_ ?_ ?_
      rotate_left
      ·intro wq hSw; obtain _ := hSw.2; have x1 := (hSw.1.cell (p := ⟨bb, off + k, none⟩) hbw).trans HC1.out; have x2 := (hSw.1.cell (p := ⟨bb, off + k1, none⟩) hbw').trans HC3.out; go_simp; (try with_reducible rfl)
      try go_frame
      refine tv 14 70 rfl rfl ?_
      try go_frame
      refine tv 15 71 rfl rfl ?_
      try go_frame
      refine tv 16 72 rfl rfl ?_
      try go_frame
      refine tv 17 73 rfl rfl ?_
      try go_frame
      refine tv 18 74 rfl rfl ?_
      try go_frame
      refine tv 19 75 rfl rfl ?_
      try go_frame
      refine tw 20 rfl fun K hK => ?_
      go_simp
      refine hK.out _ _ (by first | exact hHeld0.alloc _ | exact (hHeld0.alloc _).drew) (fun hHeld1 => ?_)
      clear hK K; try clear hb
      try go_frame
      refine tw 21 rfl fun K hK => ?_
      (refine if_wanted rfl ?_; refine wp_append_own _ (.tmp 56) (.tmp 76) 22 rfl w.heap.size 44 i0 (.agg #[.int .i64 0, .int .i64 0, .int .i64 0]) 3 24 Tryz.underlying22 hi hz0 hz1 hz2 rfl (by decide) _ _ _ rfl (owns_below HOI.out (by go_grown)) ⟨wz.heap.size, 0, none⟩ 1 1 [.int .i64 f, .int .i64 s, .int .i64 ((m : Int) - k + 1)] rfl rfl (fun j u hj => new_cells3 (W := wz) rfl j u hj) (by intro u hu; simp at hu; rcases hu with rfl | rfl | rfl <;> rfl) (by unfold maxLen; omega) (by omega) (hHeld1).1.size (fun v5 w5 hown5 hgrow5 _ => ?_))
      refine hK.out _ _ (⟨((hHeld1).1).grown hgrow5 (hHeld1).1.size (fun j hj => (HOI.out.lt j hj).1), trivial⟩) (fun hHeld2 => ?_)
      clear hK K; try clear hb
      try go_frame
      refine tv 22 3 rfl rfl ?_
      try go_frame
      refine wpAnyH_done (by kernel_rfl) ?_ _
      have hHeld := hHeld2
      all_goals
       have HO5 : Hid (w5.ownsRow w.heap.size 44 3 v5 (P ++ [(⟨f, s, (m : Int) - k + 1⟩ : Rn)]).length (flatR (P ++ [⟨f, s, (m : Int) - k + 1⟩]))) := Lib.hid (by rw [List.length_append, flatR_app]; exact hown5)
       have hB5 := hHeld.1
       clear hown5 hgrow5 hHeld hHeld0 hHeld1 HO HOI HE HI wk1 wk2 wk0 HC3 wm wm1 ws wsK
       go_wp2_with fail
       go_roundw
       case rel => exact ⟨m + 1, P ++ [⟨f, s, (m : Int) - k + 1⟩], by simp, by omega, HN, HO5, hB5⟩
       case measure => simp [intOf]; omega
  ·have hkk : k = T.length := by omega
   have i1 : ¬ (k : Int) < (T.length : Int) := by omega
   have EL := Lib.hid (HI.out.done hkk HA.out)
   clear HI
   go_wp2_with fail
   go_ret
   exact ⟨_, rfl, hB, by rw [EL.out]; exact HO.out⟩
end Go.Proofs.YtcfidimnbamnkaaGreat.P7

/-
 Layer 7: the document's own answer: may runs be? Conditions: those written at each fact.
-/
namespace Go.Proofs.YtcfidimnbamnkaaGreat.P7
open Go.RowKit

theorem take_step {l m : List Rn} {k : Nat} {r : Rn} (h : l.take k = m.take k) (h1 : l[k]? = some r) (h2 : m[k]? = some r) : l.take (k + 1) = m.take (k + 1) := by
 obtain ⟨a1, e1⟩ := List.getElem?_eq_some_iff.1 h1
 obtain ⟨a2, e2⟩ := List.getElem?_eq_some_iff.1 h2
 rw [List.take_succ_eq_append_getElem a1, List.take_succ_eq_append_getElem a2, e1, e2, h]
set_option maxRecDepth 100000 in
set_option maxHeartbeats 4000000 in
theorem refSame_any (l m : List Rn) (hl : l.length ≤ 1000000) (hm : m.length ≤ 1000000) (v u : Value) (w : World) (h : ReadsR w v l) (hu : ReadsR w u m) : Calls Tryz.prog 63 #[v, u] w (Ret w (.bool (decide (l = m)))) := by
 obtain ⟨A, c, rfl, hc, hk⟩ := h
 obtain ⟨A2, c2, rfl, hc2, hk2⟩ := hu
 have HK := Lib.hid hk
 have HK2 := Lib.hid hk2
 clear hk hk2
 by_cases g : l.length = m.length
 ·have t0 : ((l.length : Int) != (m.length : Int)) = false := by simp [g]
  have HG := Lib.hid g
  go_enter Tryz.func63, Tryz.ntmps63
  go_wp2_with fail
  go_loopw [5] (fun i wr => ∃ k : Nat, i = .int .i64 k ∧ k ≤ l.length ∧ Hid (l.take k = m.take k) ∧ Below w.heap.size w wr) (fun i _ => l.length - (intOf i).toNat)
  case atStart => exact ⟨0, rfl, by omega, Lib.hid rfl, by go_grown⟩
  case round =>
   obtain ⟨k, rfl, hkl, HT, hB⟩ := hrel
   by_cases gk : k < l.length
   ·obtain ⟨⟨x, y, z⟩, hx⟩ : ∃ s, l[k]? = some s := ⟨_, List.getElem?_eq_getElem gk⟩
    obtain ⟨⟨x2, y2, z2⟩, hx2⟩ : ∃ s, m[k]? = some s := ⟨_, List.getElem?_eq_getElem (by have := HG.out; omega)⟩
    obtain ⟨b, off, rfl, hbw, d1, d2, d5⟩ := HK.out k _ hx
    obtain ⟨b2, off2, rfl, hbw2, d3, d4, d6⟩ := HK2.out k _ hx2
    have c1 := (hB.cell (p := ⟨b, off + k * 3, none⟩) hbw).trans d1
    have c2 := (hB.cell (p := ⟨b, off + k * 3 + 1, none⟩) hbw).trans d2
    have c5 := (hB.cell (p := ⟨b, off + k * 3 + 2, none⟩) hbw).trans d5
    have c3 := (hB.cell (p := ⟨b2, off2 + k * 3, none⟩) hbw2).trans d3
    have c4 := (hB.cell (p := ⟨b2, off2 + k * 3 + 1, none⟩) hbw2).trans d4
    have c6 := (hB.cell (p := ⟨b2, off2 + k * 3 + 2, none⟩) hbw2).trans d6
    simp only at c1 c2 c3 c4 c5 c6
    have i1 : (k : Int) < (l.length : Int) := by omega
    have i2 : (k : Int) < (m.length : Int) := by omega
    have i0 : (0 : Int) ≤ (k : Int) := by omega
    clear d1 d2 d3 d4 d5 d6
    by_cases ge : (⟨x, y, z⟩ : Rn) = ⟨x2, y2, z2⟩
    ·have HT2 := Lib.hid (take_step HT.out hx (by rw [hx2, ge]))
     cases ge
     clear hx hx2
     go_wp2_with fail
     go_quiet (fail)
     go_wp2_with fail
     go_roundw
     case rel => exact ⟨k + 1, by simp, by omega, HT2, below_drewN hB _⟩
     case measure => exact index_less7 gk
    ·have HN : Hid (decide (l = m) = false) := Lib.hid (decide_eq_false fun e => by
      subst e
      rw [hx] at hx2
      injection hx2 with hx2
      exact ge hx2)
     have bx : (x == x2) = false ∨ (x = x2 ∧ (y == y2) = false) ∨ (x = x2 ∧ y = y2 ∧ (z == z2) = false) := by
      by_cases g1 : x = x2
      ·by_cases g2 : y = y2
       ·by_cases g3 : z = z2
        ·exact absurd (by rw [g1, g2, g3]) ge
        ·exact .inr (.inr ⟨g1, g2, beq_eq_false_iff_ne.2 g3⟩)
       ·exact .inr (.inl ⟨g1, beq_eq_false_iff_ne.2 g2⟩)
      ·exact .inl (beq_eq_false_iff_ne.2 g1)
     clear hx hx2 ge HT
     rcases bx with bx | ⟨rfl, bx⟩ | ⟨rfl, rfl, bx⟩
     all_goals
      go_wp2_with fail
      go_quiet (fail)
      go_wp2_with fail
      go_ret
      exact ⟨by rw [HN.out]; rfl, below_drewN hB _⟩
   ·have hkk : k = l.length := by omega
    have i1 : ¬ (k : Int) < (l.length : Int) := by omega
    have EL : Hid (decide (l = m) = true) := Lib.hid (decide_eq_true (by
     have h1 := HT.out
     rw [hkk, List.take_length] at h1
     rw [h1, HG.out, List.take_length]))
    go_wp2_with fail
    go_ret
    exact ⟨by rw [EL.out]; rfl, hB⟩
 ·have t0 : ((l.length : Int) != (m.length : Int)) = true := by simp; omega
  have e0 : decide (l = m) = false := decide_eq_false fun e => g (by rw [e])
  rw [e0]
  clear e0
  go_enter Tryz.func63, Tryz.ntmps63
  go_wp2_with fail
  go_ret
  exact ⟨rfl, by go_grown⟩
theorem timesD_small (l : List Rn) : (timesD l).length ≤ 1000000 := by
 have key : ∀ (l : List Rn) (n : Int), smallAll n l = true → ((timesR l).length : Int) + n ≤ 256 ∨ l = [] := by
  intro l
  induction l with
  | nil => intro n _; exact .inr rfl
  | cons r l ih =>
   intro n h
   simp only [smallAll, Bool.and_eq_true] at h
   obtain ⟨h1, h2⟩ := h
   have h3 := of_decide_eq_true h1
   left
   rw [timesR, List.length_append, steps_length]
   rcases ih _ h2 with h4 | h4
   ·omega
   ·subst h4; simp [timesR]; omega
 unfold timesD
 split
 ·next h =>
  rcases key l 0 h with h4 | h4
  ·omega
  ·subst h4; simp [timesR]
 ·simp
set_option maxRecDepth 100000 in
set_option maxHeartbeats 1000000 in
theorem refRight_any (l : List Rn) (hl : l.length ≤ 1000000) (v : Value) (w : World) (h : ReadsR w v l) : Calls Tryz.prog 55 #[v] w (Ret w (.bool (okB l))) := by
 have TM := Lib.hid (refTimes_any l hl v w h)
 have HR := Lib.hid h
 have RT := Lib.hid (right_is l)
 have RI := Lib.hid (fun v W hr => refRising_any (timesD l) (timesD_small l) v W hr)
 obtain ⟨A, c, rfl, _, _⟩ := h
 cases g : areB (timesD l) with
 | false =>
  rw [g] at RI RT
  replace RT : Hid (okB l = false) := Lib.hid (by rw [RT.out]; rfl)
  rw [RT.out]
  clear RT g
  generalize timesD l = T at *
  go_enter Tryz.func55, Tryz.ntmps55
  go_wp2_with fail
  refine TM.out.mono ?_
  rintro e w1 ⟨u, rfl, hb1, ho1⟩
  have R1 := Lib.hid (reads_own (k := .i64) ho1)
  clear ho1
  go_wp2_with fail
  refine (RI.out _ _ R1.out).mono ?_
  rintro e w2 ⟨rfl, hb2⟩
  go_wp2_with fail
  go_ret
  exact ⟨rfl, under hb1 hb2⟩
 | true =>
  have RO := Lib.hid (fun v W hr => refOf_any (timesD l) g v W hr)
  have hl2 := (okB_facts (laid_are g).1).2.2.2
  rw [g] at RI RT
  have SA := Lib.hid (fun v u W h1 h2 => refSame_any (laidR (timesD l)) l (by omega) hl v u W h1 h2)
  replace RT : Hid (decide (laidR (timesD l) = l) = okB l) := Lib.hid (by rw [RT.out]; rfl)
  rw [RT.out] at SA
  clear RT g
  generalize laidR (timesD l) = L at *
  generalize timesD l = T at *
  generalize okB l = b at *
  go_enter Tryz.func55, Tryz.ntmps55
  go_wp2_with fail
  refine TM.out.mono ?_
  rintro e w1 ⟨u, rfl, hb1, ho1⟩
  have R1 := Lib.hid (reads_own (k := .i64) ho1)
  have H1 := Lib.hid (HR.out.below hb1)
  clear ho1
  go_wp2_with fail
  refine (RI.out _ _ R1.out).mono ?_
  rintro e w2 ⟨rfl, hb2⟩
  have R2 := Lib.hid (R1.out.below hb2)
  have H2 := Lib.hid (H1.out.below hb2)
  have hB2 := under hb1 hb2
  clear hb1 hb2 R1 H1
  go_wp2_with fail
  refine (RO.out _ _ R2.out).mono ?_
  rintro e w3 ⟨u3, rfl, hb3, ho3⟩
  have R3 := Lib.hid (readsR_own ho3)
  have H3 := Lib.hid (H2.out.below hb3)
  have hB3 := under hB2 hb3
  clear hb3 hB2 R2 H2 ho3
  go_wp2_with fail
  refine (SA.out _ _ _ R3.out H3.out).mono ?_
  rintro e w4 ⟨rfl, hb4⟩
  have hB4 := under hB3 hb4
  cases b
  all_goals
   go_wp2_with fail
   go_ret
   exact ⟨rfl, hB4⟩
end Go.Proofs.YtcfidimnbamnkaaGreat.P7
