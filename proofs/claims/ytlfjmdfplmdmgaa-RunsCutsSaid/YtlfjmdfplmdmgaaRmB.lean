/-
  Layer 7: runs: the times of pieces. Conditions: those written at each fact.
-/
import Derived.Test.YtlfjmdfplmdmgaaRnN
import Derived.Test.YtlfjmdfplmdmgaaRnF
import Derived.Test.YtlfjmdfplmdmgaaRmA
namespace Go.Proofs.Ytlfjmdfplmdmgaa
open Go.RowKit Go.Shelf

theorem steps_app (f s : Int) (m n : Nat) : stepsR f s (m + n) = stepsR f s m ++ stepsR (f + m * s) s n := by
  induction m generalizing f with
  | zero => simp [stepsR]
  | succ m ih =>
    rw [show m + 1 + n = (m + n) + 1 by omega]
    simp only [stepsR, List.cons_append]
    rw [ih]
    have e : f + s + (m : Int) * s = f + ((m + 1 : Nat) : Int) * s := by rw [Int.natCast_add, Int.add_mul]; omega
    rw [e]
theorem steps_take (f s : Int) {m n : Nat} (h : m ≤ n) : (stepsR f s n).take m = stepsR f s m := by
  obtain ⟨k, rfl⟩ : ∃ k, n = m + k := ⟨n - m, by omega⟩
  rw [steps_app, List.take_left' (steps_length f s m)]
theorem steps_drop (f s : Int) {m n : Nat} (h : m ≤ n) : (stepsR f s n).drop m = stepsR (f + m * s) s (n - m) := by
  obtain ⟨k, rfl⟩ : ∃ k, n = m + k := ⟨n - m, by omega⟩
  rw [steps_app, List.drop_left' (steps_length f s m), show m + k - m = k by omega]
theorem steps_get (f s : Int) {k n : Nat} (h : k < n) : (stepsR f s n)[k]? = some (f + k * s) := by
  obtain ⟨m, rfl⟩ : ∃ m, n = k + (m + 1) := ⟨n - k - 1, by omega⟩
  rw [steps_app, List.getElem?_append_right (by rw [steps_length]; exact Nat.le_refl _), steps_length, Nat.sub_self]
  rfl
theorem steps_mem {f s t : Int} {n : Nat} (h : t ∈ stepsR f s n) : ∃ k : Nat, k < n ∧ t = f + k * s := by
  obtain ⟨k, hk⟩ := List.mem_iff_getElem?.1 h
  have hlt : k < n := by have := (List.getElem?_eq_some_iff.1 hk).1; rwa [steps_length] at this
  rw [steps_get f s hlt] at hk
  exact ⟨k, hlt, (Option.some.inj hk).symm⟩
theorem timesR_app : ∀ (l m : List Rn), timesR (l ++ m) = timesR l ++ timesR m
  | [], m => rfl
  | r :: l, m => by simp only [List.cons_append, timesR, timesR_app l m, List.append_assoc]
theorem totalR_app : ∀ (l m : List Rn), totalR (l ++ m) = totalR l + totalR m
  | [], m => by simp [totalR]
  | r :: l, m => by simp only [List.cons_append, totalR, totalR_app l m]; omega
/-- A run's times are times. -/
theorem run_times {r : Rn} (h : RunOk r) : ∀ t ∈ stepsR r.f r.s r.c.toNat, 0 ≤ t ∧ t ≤ 281474976710656 := by
  intro t ht
  obtain ⟨k, hk, rfl⟩ := steps_mem ht
  obtain ⟨h1, h2, h3, h4, h5, h6, h7⟩ := h
  have a1 : 0 ≤ (k : Int) * r.s := Int.mul_nonneg (by omega) h4
  have a2 : (k : Int) * r.s ≤ (r.c - 1) * r.s := Int.mul_le_mul_of_nonneg_right (by omega) h4
  omega
theorem times_all : ∀ {l : List Rn}, (∀ r ∈ l, RunOk r) → ∀ t ∈ timesR l, 0 ≤ t ∧ t ≤ 281474976710656
  | [], _, t, ht => by simp [timesR] at ht
  | r :: l, h, t, ht => by
    simp only [timesR, List.mem_append] at ht
    rcases ht with ht | ht
    · exact run_times (h r (List.mem_cons_self ..)) t ht
    · exact times_all (l := l) (fun x hx => h x (List.mem_cons_of_mem _ hx)) t ht
theorem where_len : ∀ {l : List Rn} {p : Int}, (∀ r ∈ l, 1 ≤ r.c) → 0 ≤ p → p < totalR l → ((timesR (l.take (whereR l p).1)).length : Int) + (whereR l p).2 = p
  | [], p, _, h0, h1 => by simp only [totalR] at h1; omega
  | r :: l, p, h, h0, h1 => by
    simp only [totalR] at h1
    unfold whereR
    split
    · simp [timesR]
    · next e =>
      have := where_len (l := l) (p := p - r.c) (fun x hx => h x (List.mem_cons_of_mem _ hx)) (by omega) (by omega)
      have hc := h r (List.mem_cons_self ..)
      simp only [List.take_succ_cons, timesR, List.length_append, steps_length]
      omega
/-- The time of a place. -/
def timeAt (l : List Rn) (i : Int) : Int := match l[(whereR l i).1]? with | some r => r.f + (whereR l i).2 * r.s | none => 0
theorem times_get {l : List Rn} {p : Int} (h : ∀ r ∈ l, 1 ≤ r.c) (h0 : 0 ≤ p) (h1 : p < totalR l) : (timesR l)[p.toNat]? = some (timeAt l p) := by
  obtain ⟨r, a1, a2, a3⟩ := whereR_lt h h0 h1
  have hw := where_len h h0 h1
  have ht : timeAt l p = r.f + (whereR l p).2 * r.s := by unfold timeAt; rw [a1]
  rw [ht]
  generalize whereR l p = x at *
  obtain ⟨k, q⟩ := x
  simp only at a1 a2 a3 hw ⊢
  have hl : l = l.take k ++ r :: l.drop (k + 1) := by rw [← drop_of a1, List.take_append_drop]
  have e : timesR l = timesR (l.take k) ++ (stepsR r.f r.s r.c.toNat ++ timesR (l.drop (k + 1))) := by
    conv => lhs; rw [hl]
    rw [timesR_app]; rfl
  rw [e, List.getElem?_append_right (by omega), List.getElem?_append_left (by rw [steps_length]; omega), steps_get _ _ (by omega)]
  congr 2
  congr 1
  omega
theorem set_last {α : Type} {m : List α} {x y : α} (h : m[m.length - 1]? = some x) : m = m.take (m.length - 1) ++ [x] ∧ m.set (m.length - 1) y = m.take (m.length - 1) ++ [y] := by
  have hlt := (List.getElem?_eq_some_iff.1 h).1
  have e : m = m.take (m.length - 1) ++ [x] := by
    conv => lhs; rw [← List.take_append_drop (m.length - 1) m]
    congr 1
    rw [List.drop_eq_getElem_cons hlt, (List.getElem?_eq_some_iff.1 h).2, show m.length - 1 + 1 = m.length by omega, List.drop_length]
  refine ⟨e, ?_⟩
  have hl : (m.take (m.length - 1)).length = m.length - 1 := by rw [List.length_take]; omega
  have e2 : m.set (m.length - 1) y = (m.take (m.length - 1) ++ [x]).set (m.length - 1) y := congrArg (fun z => List.set z (m.length - 1) y) e
  rw [e2, List.set_append_right _ _ (by omega), hl, Nat.sub_self]
  rfl
theorem first_trim {r : Rn} {t : List Rn} {p : Int} (h0 : 0 ≤ p) (h1 : p ≤ r.c) : timesR (⟨r.f + p * r.s, r.s, r.c - p⟩ :: t) = (timesR (r :: t)).drop p.toNat := by
  simp only [timesR]
  rw [List.drop_append_of_le_length (by rw [steps_length]; omega), steps_drop _ _ (by omega)]
  congr 2
  · rw [Int.toNat_of_nonneg h0]
  · omega
/-- What pieces are, and their times. -/
theorem pieces_facts {l : List Rn} (hR : ∀ r ∈ l, RunOk r) {i j : Int} (g1 : 0 ≤ i) (g2 : i < j) (g3 : j ≤ totalR l) :
    timesR (piecesR l i j) = ((timesR l).drop i.toNat).take (j - i).toNat ∧ (∀ r ∈ piecesR l i j, RunOk r) ∧ (piecesR l i j).length ≤ l.length := by
  have hc : ∀ r ∈ l, 1 ≤ r.c := fun r hr => (hR r hr).1
  obtain ⟨ra, a1, a2, a3⟩ := whereR_lt hc g1 (show i < totalR l by omega)
  obtain ⟨rb, b1, b2, b3⟩ := whereR_lt hc (show 0 ≤ j - 1 by omega) (show j - 1 < totalR l by omega)
  have hab := whereR_mono (l := l) (show i ≤ j - 1 by omega)
  have wa := where_len hc g1 (show i < totalR l by omega)
  have wb := where_len hc (show 0 ≤ j - 1 by omega) (show j - 1 < totalR l by omega)
  have EQ : piecesR l i j = trimR ((l.drop (whereR l i).1).take ((whereR l (j - 1)).1 + 1 - (whereR l i).1)) (whereR l i).2 (whereR l (j - 1)).2 := rfl
  rw [EQ]
  generalize whereR l i = xa at *
  generalize whereR l (j - 1) = xb at *
  obtain ⟨a, p⟩ := xa
  obtain ⟨b, q⟩ := xb
  simp only at a1 a2 a3 b1 b2 b3 hab wa wb ⊢
  have hal : a < l.length := (List.getElem?_eq_some_iff.1 a1).1
  have hbl : b < l.length := (List.getElem?_eq_some_iff.1 b1).1
  have hml : ((l.drop a).take (b + 1 - a)).length = b + 1 - a := by rw [List.length_take, List.length_drop]; omega
  have hm0 : ((l.drop a).take (b + 1 - a))[0]? = some ra := by rw [List.getElem?_take, if_pos (by omega), List.getElem?_drop]; exact a1
  have hmj : ((l.drop a).take (b + 1 - a))[b + 1 - a - 1]? = some rb := by rw [List.getElem?_take, if_pos (by omega), List.getElem?_drop, show a + (b + 1 - a - 1) = b by omega]; exact b1
  have hsplit : l = l.take a ++ ((l.drop a).take (b + 1 - a) ++ l.drop (b + 1)) := by
    conv => lhs; rw [← List.take_append_drop a l, ← List.take_append_drop (b + 1 - a) (l.drop a)]
    rw [List.drop_drop, show a + (b + 1 - a) = b + 1 by omega]
  have hmt : (l.drop a).take (b + 1 - a - 1) = (l.drop a).take (b - a) := by rw [show b + 1 - a - 1 = b - a by omega]
  have htb : l.take b = l.take a ++ (l.drop a).take (b - a) := by
    have : b = a + (b - a) := by omega
    conv => lhs; rw [this, List.take_add]
  have hmm : ∀ r ∈ (l.drop a).take (b + 1 - a), RunOk r := fun r hr => hR r (List.mem_of_mem_drop (List.mem_of_mem_take hr))
  have hmt2 : ((l.drop a).take (b + 1 - a)).take (b + 1 - a - 1) = (l.drop a).take (b - a) := by rw [List.take_take, ← hmt, Nat.min_eq_left (by omega)]
  have hRa : RunOk ra := hR ra (List.mem_of_getElem? a1)
  have hRb : RunOk rb := hR rb (List.mem_of_getElem? b1)
  have hsame : a = b → ra = rb ∧ p ≤ q := fun e => by
    subst e
    rw [a1] at b1
    exact ⟨Option.some.inj b1, by omega⟩
  have hlen : (timesR (l.take b)).length = (timesR (l.take a)).length + (timesR ((l.drop a).take (b - a))).length := by rw [htb, timesR_app, List.length_append]
  replace hmj : ((l.drop a).take (b + 1 - a))[((l.drop a).take (b + 1 - a)).length - 1]? = some rb := by rw [hml]; exact hmj
  replace hmt2 : ((l.drop a).take (b + 1 - a)).take (((l.drop a).take (b + 1 - a)).length - 1) = (l.drop a).take (b - a) := by rw [hml]; exact hmt2
  generalize (l.drop a).take (b + 1 - a) = m at *
  obtain ⟨s1, s2⟩ := set_last (y := (⟨rb.f, rb.s, q + 1⟩ : Rn)) hmj
  rw [hmt2] at s1 s2
  generalize (l.drop a).take (b - a) = d at *
  have htm : timesR m = timesR d ++ stepsR rb.f rb.s rb.c.toNat := by
    conv => lhs; rw [s1]
    rw [timesR_app]; simp [timesR]
  have htm1 : timesR (m.set (m.length - 1) ⟨rb.f, rb.s, q + 1⟩) = (timesR m).take ((timesR d).length + (q + 1).toNat) := by
    rw [s2, timesR_app, htm, List.take_append, List.take_of_length_le (by omega), show (timesR d).length + (q + 1).toNat - (timesR d).length = (q + 1).toNat by omega, steps_take _ _ (by omega)]
    simp [timesR]
  have hm1 : ∃ c0 t, m.set (m.length - 1) ⟨rb.f, rb.s, q + 1⟩ = ⟨ra.f, ra.s, c0⟩ :: t ∧ p < c0 ∧ c0 ≤ ra.c ∧ (∀ r ∈ t, RunOk r) := by
    cases m with
    | nil => simp at hm0
    | cons x t =>
      simp at hm0
      subst hm0
      cases t with
      | nil =>
        simp at hml
        obtain ⟨e1, e2⟩ := hsame (by omega)
        subst e1
        exact ⟨q + 1, [], rfl, by omega, by omega, fun r hr => by simp at hr⟩
      | cons y t =>
        refine ⟨x.c, (y :: t).set ((y :: t).length - 1) ⟨rb.f, rb.s, q + 1⟩, ?_, a3, Int.le_refl _, fun r hr => ?_⟩
        · simp [List.set_cons_succ]
        · rcases List.mem_or_eq_of_mem_set hr with hr | rfl
          · exact hmm r (List.mem_cons_of_mem _ hr)
          · obtain ⟨h1, h2, h3, h4, h5, h6, h7⟩ := hRb
            have : q * rb.s ≤ (rb.c - 1) * rb.s := Int.mul_le_mul_of_nonneg_right (by omega) h4
            exact ⟨by simp only; omega, by simp only; omega, h3, h4, h5, by simp only; rw [show q + 1 - 1 = q by omega]; omega, h7⟩
  obtain ⟨c0, t, e1, e2, e3, e4⟩ := hm1
  have hT : trimR m p q = ⟨ra.f + p * ra.s, ra.s, c0 - p⟩ :: t := by
    unfold trimR
    rw [hmj]
    simp only
    rw [e1]
  have hft := first_trim (r := ⟨ra.f, ra.s, c0⟩) (t := t) a2 (show p ≤ c0 by omega)
  simp only at hft
  refine ⟨?_, ?_, ?_⟩
  · have hR2 : (timesR l).drop i.toNat = (timesR m ++ timesR (l.drop (b + 1))).drop p.toNat := by
      conv => lhs; rw [hsplit, timesR_app, timesR_app]
      rw [show i.toNat = (timesR (l.take a)).length + p.toNat by omega, List.drop_append, List.drop_of_length_le (by omega), List.nil_append, show (timesR (l.take a)).length + p.toNat - (timesR (l.take a)).length = p.toNat by omega]
    have hml2 : (timesR m).length = (timesR d).length + rb.c.toNat := by rw [htm, List.length_append, steps_length]
    rw [hT, hft, ← e1, htm1, hR2, List.drop_take, List.drop_append_of_le_length (by omega), List.take_append_of_le_length (by rw [List.length_drop]; omega)]
    congr 1
    omega
  · rw [hT]
    intro r hr
    rcases List.mem_cons.1 hr with rfl | hr
    · obtain ⟨h1, h2, h3, h4, h5, h6, h7⟩ := hRa
      have h8 : 0 ≤ p * ra.s := Int.mul_nonneg a2 h4
      have h9 : (c0 - 1) * ra.s ≤ (ra.c - 1) * ra.s := Int.mul_le_mul_of_nonneg_right (by omega) h4
      have h10 : (c0 - p - 1) * ra.s = (c0 - 1) * ra.s - p * ra.s := by rw [show c0 - p - 1 = (c0 - 1) - p by omega, Int.sub_mul]
      have h11 : 0 ≤ (c0 - p - 1) * ra.s := Int.mul_nonneg (by omega) h4
      exact ⟨by simp only; omega, by simp only; omega, by simp only; omega, h4, h5, by simp only; omega, by simp only; omega⟩
    · exact e4 r hr
  · rw [hT]
    have h5 : (m.set (m.length - 1) ⟨rb.f, rb.s, q + 1⟩).length = m.length := List.length_set ..
    rw [e1] at h5
    simp only [List.length_cons] at h5 ⊢
    omega
end Go.Proofs.Ytlfjmdfplmdmgaa
