/-
  Layer 7: runs: the runs of times, laid one by one: what holds of the open run. Conditions: those written at each fact.
-/
import Derived.Test.YtlfjmdfplmdmgaaRnI
namespace Go.Proofs.Ytlfjmdfplmdmgaa
open Go.RowKit Go.Shelf

def iniR : Rn × List Rn := (⟨0, 0, 0⟩, [])
def goR (l : List Int) : Rn × List Rn := l.foldl takeR iniR
/-- The runs of times. -/
def laidR (l : List Int) : List Rn := (goR l).2 ++ [(goR l).1]
/-- They are times, and rise. -/
def Up (l : List Int) : Prop := (∀ t ∈ l, 0 ≤ t ∧ t ≤ 281474976710656) ∧ l.Pairwise (· < ·)
theorem Up.cons {t : Int} {l : List Int} (h : Up (t :: l)) : (0 ≤ t ∧ t ≤ 281474976710656) ∧ (∀ x ∈ l, t < x) ∧ Up l :=
  ⟨h.1 t (List.mem_cons_self ..), (List.pairwise_cons.1 h.2).1, fun x hx => h.1 x (List.mem_cons_of_mem _ hx), (List.pairwise_cons.1 h.2).2⟩
theorem Up.mk {t : Int} {l : List Int} (h1 : 0 ≤ t ∧ t ≤ 281474976710656) (h2 : ∀ x ∈ l, t < x) (h3 : Up l) : Up (t :: l) :=
  ⟨fun x hx => by rcases List.mem_cons.1 hx with rfl | hx; exact h1; exact h3.1 x hx, List.pairwise_cons.2 ⟨h2, h3.2⟩⟩
theorem Up.take {l : List Int} (h : Up l) (k : Nat) : Up (l.take k) := ⟨fun t ht => h.1 t (List.mem_of_mem_take ht), h.2.sublist (List.take_sublist k l)⟩
theorem Up.drop {l : List Int} (h : Up l) (k : Nat) : Up (l.drop k) := ⟨fun t ht => h.1 t (List.mem_of_mem_drop ht), h.2.sublist (List.drop_sublist k l)⟩
theorem upB_iff : ∀ (l : List Int) (p : Option Int), upB p l = true ↔ (∀ a, p = some a → ∀ x ∈ l, a < x) ∧ Up l
  | [], p => by simp [upB, Up]
  | t :: l, p => by
    have ih := upB_iff l (some t)
    have e : upB p (t :: l) = true ↔ timeR t = true ∧ (∀ a, p = some a → a < t) ∧ upB (some t) l = true := by
      cases p <;> simp [upB]
    rw [e, ih, timeR_iff]
    constructor
    · rintro ⟨h1, h2, h3, h4⟩
      refine ⟨fun a ha x hx => ?_, Up.mk h1 (h3 t rfl) h4⟩
      rcases List.mem_cons.1 hx with rfl | hx
      · exact h2 a ha
      · exact Int.lt_trans (h2 a ha) (h3 t rfl x hx)
    · rintro ⟨h1, h2⟩
      obtain ⟨h3, h4, h5⟩ := h2.cons
      exact ⟨h3, fun a ha => h1 a ha t (List.mem_cons_self ..), fun a ha => by cases ha; exact h4, h5⟩
theorem areB_iff (l : List Int) : areB l = true ↔ 1 ≤ l.length ∧ l.length ≤ 256 ∧ Up l := by
  unfold areB
  simp only [Bool.and_eq_true, decide_eq_true_eq, upB_iff]
  simp

/-- What holds of the open run, when k times have come, the last one at z. -/
structure OpenInv (st : Rn × List Rn) (z : Int) (k : Nat) : Prop where
  c0 : 1 ≤ st.1.c
  c1 : st.1.c ≤ k
  f0 : 0 ≤ st.1.f
  z1 : z ≤ 281474976710656
  fz : st.1.f ≤ z
  at_ : (st.1.c = 1 ∧ st.1.s = 0 ∧ st.1.f = z) ∨ (2 ≤ st.1.c ∧ 1 ≤ st.1.s ∧ st.1.f + (st.1.c - 1) * st.1.s = z)
  len : st.2.length < k
theorem mul_pred (c s : Int) : c * s = (c - 1) * s + s := by rw [Int.sub_mul]; omega
theorem OpenInv.next {st : Rn × List Rn} {z : Int} {k : Nat} (h : OpenInv st z k) {t : Int} (h1 : z < t) (h2 : t ≤ 281474976710656) : OpenInv (takeR st t) t (k + 1) := by
  obtain ⟨⟨f, s, c⟩, sh⟩ := st
  obtain ⟨a1, a2, a3, a4, a5, a6, a7⟩ := h
  simp only at a1 a2 a3 a4 a5 a6 a7
  unfold takeR
  simp only
  rw [if_neg (by omega)]
  split
  · next e =>
    rcases a6 with ⟨_, b2, b3⟩ | ⟨b1, _⟩
    · exact ⟨by simp only; omega, by simp only; omega, a3, h2, by simp only; omega, .inr ⟨by simp only; omega, by simp only; omega, by simp only; omega⟩, by simp only; omega⟩
    · omega
  · next e =>
    rcases a6 with ⟨b1, _⟩ | ⟨b1, b2, b3⟩
    · omega
    · have hm := mul_pred c s
      split
      · next e2 =>
        refine ⟨by simp only; omega, by simp only; omega, a3, h2, by simp only; omega, .inr ⟨by simp only; omega, b2, ?_⟩, by simp only; omega⟩
        simp only
        rw [show c + 1 - 1 = c by omega]
        omega
      · exact ⟨by simp only; omega, by simp only; omega, by simp only; omega, h2, by simp only; omega, .inl ⟨rfl, rfl, rfl⟩, by simp only [List.length_append, List.length_singleton]; omega⟩
theorem fold_inv : ∀ (l : List Int) (st : Rn × List Rn) (z : Int) (k : Nat), OpenInv st z k → (∀ x ∈ l, z < x) → Up l → ∃ z', OpenInv (l.foldl takeR st) z' (k + l.length) ∧ z ≤ z' ∧ ∀ x ∈ l, x ≤ z'
  | [], st, z, k, h, _, _ => ⟨z, h, Int.le_refl _, fun x hx => by simp at hx⟩
  | t :: l, st, z, k, h, hz, hU => by
    obtain ⟨h1, h2, h3⟩ := hU.cons
    have ht := hz t (List.mem_cons_self ..)
    obtain ⟨z', g1, g2, g3⟩ := fold_inv l (takeR st t) t (k + 1) (h.next ht h1.2) h2 h3
    refine ⟨z', ?_, by omega, fun x hx => ?_⟩
    · rw [List.foldl_cons, List.length_cons, show k + (l.length + 1) = k + 1 + l.length by omega]; exact g1
    · rcases List.mem_cons.1 hx with rfl | hx
      · exact g2
      · exact g3 x hx
theorem go_inv {l : List Int} (hne : l ≠ []) (hU : Up l) : ∃ z, OpenInv (goR l) z l.length := by
  obtain ⟨t, r, rfl⟩ := List.exists_cons_of_ne_nil hne
  obtain ⟨h1, h2, h3⟩ := hU.cons
  have h0 : OpenInv (takeR iniR t) t 1 := by
    have e : takeR iniR t = (⟨t, 0, 1⟩, []) := by simp [takeR, iniR]
    rw [e]
    exact ⟨by simp, by simp, h1.1, h1.2, Int.le_refl _, .inl ⟨rfl, rfl, rfl⟩, by simp⟩
  obtain ⟨z, g, _⟩ := fold_inv r _ t 1 h0 h2 h3
  refine ⟨z, ?_⟩
  rw [show (t :: r).length = 1 + r.length by simp; omega]
  exact g
theorem fold_ok : ∀ (l : List Int) (st : Rn × List Rn) (n : Nat), OpenOk st.1 n → st.2.length ≤ n → (∀ t ∈ l, 0 ≤ t ∧ t ≤ 281474976710656) → OpenOk (l.foldl takeR st).1 (n + l.length) ∧ (l.foldl takeR st).2.length ≤ n + l.length
  | [], _, _, h, hs, _ => ⟨h, hs⟩
  | t :: l, st, n, h, hs, ht => by
    obtain ⟨h1, h2⟩ := h.next hs (ht t (List.mem_cons_self ..))
    have := fold_ok l (takeR st t) (n + 1) h1 h2 fun x hx => ht x (List.mem_cons_of_mem _ hx)
    rw [List.foldl_cons, List.length_cons, show n + (l.length + 1) = n + 1 + l.length by omega]
    exact this
theorem ini_ok : OpenOk iniR.1 0 ∧ iniR.2.length ≤ 0 := ⟨⟨by simp [iniR], by simp [iniR], by simp [iniR], by simp [iniR], by simp [iniR], by simp [iniR]⟩, by simp [iniR]⟩
theorem go_ok {l : List Int} (ht : ∀ t ∈ l, 0 ≤ t ∧ t ≤ 281474976710656) : OpenOk (goR l).1 l.length ∧ (goR l).2.length ≤ l.length := by
  have := fold_ok l iniR 0 ini_ok.1 ini_ok.2 ht
  rwa [Nat.zero_add] at this
theorem goR_snoc (l : List Int) (t : Int) : goR (l ++ [t]) = takeR (goR l) t := by simp [goR]
end Go.Proofs.Ytlfjmdfplmdmgaa
