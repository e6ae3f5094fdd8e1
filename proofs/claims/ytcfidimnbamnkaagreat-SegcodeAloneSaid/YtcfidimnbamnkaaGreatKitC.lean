/-
 Tools for walks: a region that draws, loads cells and behind all else stores into them: loads are taken first up to the operations that close it (c). Conditions: those written at each fact.
-/
import Derived.OrdersHeld
import Derived.Deep.RegionHeld
import Derived.Test.YtcfidimnbamnkaaGreatKitX
namespace Go.Proofs.YtcfidimnbamnkaaGreat
open Go.RowKit

section
variable {P : Program} {ops : Array Oper} {Q : Exit → Act → World → Prop} {md : Region.Mode} {S : World → Prop} {c : Nat → Bool}
def wpC (P : Program) (md : Region.Mode) (ops : Array Oper) (Q : Exit → Act → World → Prop) (S : World → Prop) (c : Nat → Bool) : Nat → Array Bool → Act → World → Prop
 | 0, done, a, w => Region.ready md ops done = [] ∧ Q .normal a w
 | n + 1, done, a, w => (Region.ready md ops done = [] → Q .normal a w) ∧
  ∀ i ∈ Region.ready md ops done, wpOp P ops Q i (fun b u => (c i = true → wpAny P md ops Q n (done.setIfInBounds i true) b u) ∧ (c i = false → S u ∧ wpC P md ops Q S c n (done.setIfInBounds i true) b u)) a w
theorem any_of_c : ∀ (n : Nat) (done : Array Bool) (a : Act) (w : World), wpC P md ops Q S c n done a w → wpAny P md ops Q n done a w
 | 0, _, _, _, h => h
 | n + 1, _, _, _, h => ⟨h.1, fun i hi => wpOp_mono (fun b u hb => by
   cases hc : c i with
   | true => exact hb.1 hc
   | false => exact any_of_c n _ b u (hb.2 hc).2) (h.2 i hi)⟩
def closeW (md : Region.Mode) (ops : Array Oper) (c : Nat → Bool) (i : Nat) : Bool :=
 (List.range ops.size).all fun j => !(c j) || (match ops[j]? with | some o => o.after.toList.any (fun e => Region.binds md e && e.on == i) | none => true)
theorem closeW_spec {i j : Nat} {o : Oper} (h : closeW md ops c i = true) (ho : ops[j]? = some o) (hc : c j = true) : ∃ e ∈ o.after, Region.binds md e = true ∧ e.on = i := by
 obtain ⟨hj, _⟩ := Array.getElem?_eq_some_iff.1 ho
 have h1 := List.all_eq_true.1 h j (List.mem_range.2 hj)
 rw [hc, ho] at h1
 simp only [Bool.not_true, Bool.false_or, List.any_eq_true, Bool.and_eq_true, beq_iff_eq] at h1
 obtain ⟨e, he, hb, hi⟩ := h1
 exact ⟨e, by simpa using he, hb, hi⟩
theorem c_first {i : Nat} {oi : Oper} {v : Value} (hi : ops[i]? = some oi) (hci : c i = false) (hsel : ∀ (j : Nat) (o : Oper) cs b, ops[j]? = some o → o.op ≠ .select cs b)
  (hQ : ∀ x a w, Q (.panic x) (a.put oi.dst v) w → Q (.panic x) a w) :
  ∀ (n : Nat) (done : Array Bool) (a : Act) (w : World),
   (∀ j oj, ops[j]? = some oj → j ≠ i → done.getD j true = false → (∀ e ∈ oj.after, Region.binds md e = true → e.on ≠ i) → oi.apart ops oj = true) →
   i ∈ Region.ready md ops done → YieldsIf P ops S oi v a → (Yields P ops oi v a ∨ closeW md ops c i = true) → S w →
   wpC P md ops Q S c n (done.setIfInBounds i true) (a.put oi.dst v) w → wpC P md ops Q S c (n + 1) done a w := by
 intro n
 induction n with
 | zero =>
  intro done a w _ hr hy _ hS H
  refine ⟨fun h => (by rw [h] at hr; cases hr), fun j hj => ?_⟩
  by_cases hji : j = i
  ·subst hji
   exact hy.wpOp hi hS ⟨fun h => absurd (hci.symm.trans h) (by decide), fun _ => ⟨hS, H⟩⟩
  ·have h0 := ready_mono hj hji
   rw [H.1] at h0
   cases h0
 | succ n ih =>
  intro done a w hfree hr hy hk hS H
  refine ⟨fun h => (by rw [h] at hr; cases hr), fun j hj => ?_⟩
  by_cases hji : j = i
  ·subst hji
   exact hy.wpOp hi hS ⟨fun h => absurd (hci.symm.trans h) (by decide), fun _ => ⟨hS, H⟩⟩
  have h1 := H.2 j (ready_mono hj hji)
  obtain ⟨hjun, oj, hoj, hall⟩ := mem_ready.1 hj
  have hun : done.getD i true = false := (mem_ready.1 hr).1
  have hnot : ∀ e ∈ oj.after, Region.binds md e = true → e.on ≠ i := fun e he hb heq => by
   have h2 := hall e he hb
   rw [heq] at h2
   rcases Nat.lt_or_ge i done.size with h' | h'
   ·simp [h'] at hun h2
    rw [hun] at h2
    cases h2
   ·simp [Array.getElem?_eq_none h'] at h2
  have hap := hfree j oj hoj hji hjun hnot
  have hfr : ∀ k ok, ops[k]? = some ok → k ≠ i → (done.setIfInBounds j true).getD k true = false → (∀ e ∈ ok.after, Region.binds md e = true → e.on ≠ i) → oi.apart ops ok = true := fun k ok hk' hki hu hno => by
   refine hfree k ok hk' hki ?_ hno
   by_cases hjk : j = k
   ·subst hjk; exact hjun
   ·rwa [getD_set_ne true hjk] at hu
  cases hc : c j with
  | true =>
   rcases hk with hp | hp
   ·refine wpOp_mono (fun b u h3 => ⟨fun _ => ?_, fun h => absurd h (by decide)⟩) (wpOp_put hoj hap (fun cs b => hsel i oi cs b hi) (fun cs b => hsel j oj cs b hoj) hQ hp h1)
    refine wpAny_first hi hsel hQ n (done.setIfInBounds j true) b u hfr (ready_mono hr (Ne.symm hji)) h3.1 ?_
    rw [Array.setIfInBounds_comm _ _ hji]
    exact h3.2.1 hc
   ·obtain ⟨e, he, hb, hei⟩ := closeW_spec hp hoj hc
    exact absurd hei (hnot e he hb)
  | false =>
   rcases hk with hp | hp
   ·refine wpOp_mono (fun b u h3 => ⟨fun h => absurd h (by decide), fun _ => ?_⟩) (wpOp_put hoj hap (fun cs b => hsel i oi cs b hi) (fun cs b => hsel j oj cs b hoj) hQ hp h1)
    obtain ⟨h4, h5⟩ := h3.2.2 hc
    refine ⟨h4, ih (done.setIfInBounds j true) b u hfr (ready_mono hr (Ne.symm hji)) h3.1.yieldsIf (.inl h3.1) h4 ?_⟩
    rw [Array.setIfInBounds_comm _ _ hji]
    exact h5
   ·refine wpOp_mono (fun b u h3 => ⟨fun h => absurd h (by decide), fun _ => ?_⟩) (wpOp_putIf hoj hap (fun cs b => hsel i oi cs b hi) (fun cs b => hsel j oj cs b hoj) hQ hy h1)
    obtain ⟨h4, h5⟩ := h3.2.2 hc
    refine ⟨h4, ih (done.setIfInBounds j true) b u hfr (ready_mono hr (Ne.symm hji)) h3.1 (.inr hp) h4 ?_⟩
    rw [Array.setIfInBounds_comm _ _ hji]
    exact h5
theorem c_region {id : Nat} {a : Act} {w : World} (c : Nat → Bool) (hm : P.follows .mixedOrders = true) (hS : S w.drew)
  (h : S w.drew → wpC P .any ops Q S c ops.size (Array.replicate ops.size false) a w.drew) : (Code.region id ops true).wp P Q a w :=
 wp_region_any hm (any_of_c _ _ _ _ (h hS))
theorem cl {n : Nat} {done : Array Bool} {a : Act} {w : World} (i d : Nat) {o : Oper} {v : Value} (hi : ops[i]? = some o) (hd : o.dst = some d)
  (hv : ∀ w, S w → (execOp a.eval o).run P w = .ok (.value v) w)
  (h : wpC P md ops Q S c n (done.setIfInBounds i true) (a.put (some d) v) w)
  (hci : c i = false := by rfl) (hcw : closeW md ops c i = true := by kernel_rfl)
  (hs : Region.noSelect ops = true := by kernel_rfl) (hf : Region.free md ops done i = true := by kernel_rfl) (hr : (Region.ready md ops done).contains i = true := by kernel_rfl)
  (hw : Region.wanted o (yielded ops a.tmps) = true := by rfl) (hQ : ∀ x a w, Q (.panic x) (a.put (some d) v) w → Q (.panic x) a w := by exact fun _ _ _ h => h) (hS : S w := by assumption) : wpC P md ops Q S c (n + 1) done a w :=
 c_first hi hci (Region.noSelect_spec hs) (by rw [hd]; exact hQ) n done a w (Region.free_spec hi hf) (by simpa using hr) (Or.inl ⟨hw, hv⟩) (.inr hcw) hS (by rw [hd]; exact h)
theorem cp {n : Nat} {done : Array Bool} {a : Act} {w : World} (i d : Nat) {o : Oper} (hi : ops[i]? = some o) (hd : o.dst = some d) {v : Value}
  (h : wpC P md ops Q S c n (done.setIfInBounds i true) (a.put (some d) v) w)
  (hv : ∀ w, (execOp a.eval o).run P w = .ok (.value v) w := by intro wq; go_simp; (try with_reducible rfl))
  (hci : c i = false := by rfl)
  (hs : Region.noSelect ops = true := by kernel_rfl) (hf : Region.free md ops done i = true := by kernel_rfl) (hr : (Region.ready md ops done).contains i = true := by kernel_rfl)
  (hw : Region.wanted o (yielded ops a.tmps) = true := by rfl) (hQ : ∀ x a w, Q (.panic x) (a.put (some d) v) w → Q (.panic x) a w := by exact fun _ _ _ h => h) (hS : S w := by assumption) : wpC P md ops Q S c (n + 1) done a w :=
 c_first hi hci (Region.noSelect_spec hs) (by rw [hd]; exact hQ) n done a w (Region.free_spec hi hf) (by simpa using hr) (Or.inl ⟨hw, fun w _ => hv w⟩) (.inl (Or.inl ⟨hw, hv⟩)) hS (by rw [hd]; exact h)
def AllC (P : Program) (md : Region.Mode) (ops : Array Oper) (Q : Exit → Act → World → Prop) (S : World → Prop) (c : Nat → Bool) (n : Nat) (done : Array Bool) (a : Act) (w : World) (rs : List Nat) : Prop :=
 ∀ i ∈ rs, wpOp P ops Q i (fun b u => (c i = true → wpAny P md ops Q n (done.setIfInBounds i true) b u) ∧ (c i = false → S u ∧ wpC P md ops Q S c n (done.setIfInBounds i true) b u)) a w
theorem AllC.nil {n : Nat} {done : Array Bool} {a : Act} {w : World} : AllC P md ops Q S c n done a w [] := fun _ h => nomatch h
theorem AllC.cons {n : Nat} {done : Array Bool} {a : Act} {w : World} {i : Nat} {o : Oper} {rs : List Nat} (ho : ops[i]? = some o) (hc : c i = false)
  (h : ∀ K' : Act → World → Prop, Shut (∀ a w, S w → (S w → wpC P md ops Q S c n (done.setIfInBounds i true) a w) → K' a w) → if Region.wanted o (yielded ops a.tmps) = true then Oper.wp P o a w K' Q else K' (a.put o.dst undef) w)
  (hs : AllC P md ops Q S c n done a w rs) : AllC P md ops Q S c n done a w (i :: rs) := fun j hj => by
 rcases List.mem_cons.1 hj with rfl | hj
 ·exact wpOp_step ho (fun K' hK => h K' (fun a w hS hW => hK a w ⟨fun h => absurd (hc.symm.trans h) (by decide), fun _ => ⟨hS, hW hS⟩⟩))
 ·exact hs j hj
theorem AllC.shut {n : Nat} {done : Array Bool} {a : Act} {w : World} {i : Nat} {o : Oper} {rs : List Nat} (ho : ops[i]? = some o) (hc : c i = true)
  (h : ∀ K' : Act → World → Prop, Shut (∀ a w, wpAny P md ops Q n (done.setIfInBounds i true) a w → K' a w) → if Region.wanted o (yielded ops a.tmps) = true then Oper.wp P o a w K' Q else K' (a.put o.dst undef) w)
  (hs : AllC P md ops Q S c n done a w rs) : AllC P md ops Q S c n done a w (i :: rs) := fun j hj => by
 rcases List.mem_cons.1 hj with rfl | hj
 ·exact wpOp_step ho (fun K' hK => h K' (fun a w hW => hK a w ⟨fun _ => hW, fun h => absurd (hc.symm.trans h) (by decide)⟩))
 ·exact hs j hj
theorem c_ready {n : Nat} {done : Array Bool} {a : Act} {w : World} (rs : List Nat) (h : AllC P md ops Q S c n done a w rs) (hr : Region.ready md ops done = rs := by kernel_rfl) (hne : rs ≠ [] := by simp) : wpC P md ops Q S c (n + 1) done a w :=
 ⟨fun h0 => absurd (hr ▸ h0) hne, hr ▸ h⟩
end
end Go.Proofs.YtcfidimnbamnkaaGreat
