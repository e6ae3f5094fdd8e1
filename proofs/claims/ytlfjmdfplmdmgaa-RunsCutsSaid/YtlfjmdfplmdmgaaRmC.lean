/-
  Layer 7: runs: times have just their runs, and runs just their times. Conditions: those written at each fact.
-/
import Derived.Test.YtlfjmdfplmdmgaaRmB
namespace Go.Proofs.Ytlfjmdfplmdmgaa
open Go.RowKit Go.Shelf

theorem fold_steps (f s : Int) (sh : List Rn) : ∀ (m : Nat) (n : Int), 2 ≤ n → (stepsR (f + n * s) s m).foldl takeR (⟨f, s, n⟩, sh) = (⟨f, s, n + m⟩, sh)
  | 0, n, _ => by simp [stepsR]
  | m + 1, n, h => by
    have e : takeR (⟨f, s, n⟩, sh) (f + n * s) = (⟨f, s, n + 1⟩, sh) := by
      unfold takeR
      simp only
      rw [if_neg (by omega), if_neg (by omega), if_pos trivial]
    have e2 : f + n * s + s = f + (n + 1) * s := by rw [Int.add_mul]; omega
    rw [stepsR, List.foldl_cons, e, e2, fold_steps f s sh m (n + 1) (by omega)]
    simp only [Prod.mk.injEq, Rn.mk.injEq, and_true, true_and]
    omega
/-- All times of a run come, behind the first of them. -/
theorem fold_run {r : Rn} {room : Int} (h : runB r room = true) (sh : List Rn) : (stepsR (r.f + r.s) r.s (r.c.toNat - 1)).foldl takeR (⟨r.f, 0, 1⟩, sh) = (r, sh) := by
  obtain ⟨f, s, c⟩ := r
  unfold runB at h
  simp only [Bool.and_eq_true, decide_eq_true_eq] at h
  obtain ⟨h1, _, _, h2⟩ := h
  by_cases g : c = 1
  · rw [if_pos g] at h2
    have h3 := of_decide_eq_true h2
    subst g h3
    rfl
  · obtain ⟨m, hm⟩ : ∃ m, c.toNat - 1 = m + 1 := ⟨c.toNat - 2, by omega⟩
    simp only [hm, stepsR, List.foldl_cons]
    have e : takeR (⟨f, 0, 1⟩, sh) (f + s) = (⟨f, s, 2⟩, sh) := by
      unfold takeR
      simp only
      rw [if_neg (by omega), if_pos trivial]
      simp only [Prod.mk.injEq, Rn.mk.injEq, and_true, true_and]
      omega
    rw [e, show f + s + s = f + 2 * s by omega, fold_steps f s sh m 2 (by omega)]
    simp only [Prod.mk.injEq, Rn.mk.injEq, and_true, true_and]
    omega
theorem steps_first {r : Rn} {room : Int} (h : runB r room = true) : stepsR r.f r.s r.c.toNat = r.f :: stepsR (r.f + r.s) r.s (r.c.toNat - 1) := by
  have h1 : 1 ≤ r.c := by unfold runB at h; simp only [Bool.and_eq_true, decide_eq_true_eq] at h; exact h.1
  obtain ⟨m, hm⟩ : ∃ m, r.c.toNat = m + 1 := ⟨r.c.toNat - 1, by omega⟩
  rw [hm, Nat.add_sub_cancel]
  rfl
theorem fold_rest : ∀ (l : List Rn) (a : Rn) (n : Int) (sh : List Rn), restB (some a) n l = true → ((timesR l).foldl takeR (a, sh)).2 ++ [((timesR l).foldl takeR (a, sh)).1] = sh ++ a :: l
  | [], a, n, sh, _ => by simp [timesR]
  | r :: l, a, n, sh, h => by
    simp only [restB, Bool.and_eq_true] at h
    obtain ⟨h1, h2, h3⟩ := h
    unfold behindB at h2
    simp only [Bool.and_eq_true, decide_eq_true_eq] at h2
    obtain ⟨b1, b2, b3⟩ := h2
    have e : takeR (a, sh) r.f = (⟨r.f, 0, 1⟩, sh ++ [a]) := by
      unfold takeR
      simp only
      rw [if_neg (by omega), if_neg (by omega), if_neg b3]
    rw [timesR, steps_first h1, List.cons_append, List.foldl_cons, List.foldl_append, e, fold_run h1, fold_rest l r _ (sh ++ [a]) h3]
    simp
/-- The runs of the times of runs that may be are these. -/
theorem laid_times {l : List Rn} (h : okB l = true) : laidR (timesR l) = l := by
  unfold okB at h
  simp only [Bool.and_eq_true, decide_eq_true_eq] at h
  obtain ⟨hne, h⟩ := h
  obtain ⟨r, m, rfl⟩ := List.exists_cons_of_ne_nil hne
  simp only [restB, Bool.and_eq_true, true_and] at h
  obtain ⟨h1, h3⟩ := h
  have e : takeR iniR r.f = (⟨r.f, 0, 1⟩, []) := by simp [takeR, iniR]
  have := fold_rest m r _ [] h3
  unfold laidR goR
  rw [timesR, steps_first h1, List.cons_append, List.foldl_cons, List.foldl_append, e, fold_run h1]
  simpa using this
theorem steps_up {f s : Int} (hs : 1 ≤ s) : ∀ (n : Nat) (x : Int), (stepsR x s n).Pairwise (· < ·) ∧ ∀ t ∈ stepsR x s n, x ≤ t ∧ t ≤ x + ((n : Int) - 1) * s
  | 0, x => by simp [stepsR]
  | n + 1, x => by
    obtain ⟨h1, h2⟩ := steps_up (f := f) hs n (x + s)
    have e : ((n + 1 : Nat) : Int) - 1 = (n : Int) := by omega
    have e2 : x + s + ((n : Int) - 1) * s = x + (n : Int) * s := by rw [Int.sub_mul]; omega
    have e3 : 0 ≤ (n : Int) * s := Int.mul_nonneg (by omega) (by omega)
    rw [e]
    refine ⟨List.pairwise_cons.2 ⟨fun t ht => by have := (h2 t ht).1; omega, h1⟩, fun t ht => ?_⟩
    rcases List.mem_cons.1 ht with rfl | ht
    · omega
    · have := h2 t ht; omega
theorem run_up {r : Rn} {room : Int} (h : runB r room = true) : (stepsR r.f r.s r.c.toNat).Pairwise (· < ·) ∧ ∀ t ∈ stepsR r.f r.s r.c.toNat, r.f ≤ t ∧ t ≤ r.f + (r.c - 1) * r.s := by
  unfold runB at h
  simp only [Bool.and_eq_true, decide_eq_true_eq] at h
  obtain ⟨h1, _, _, h2⟩ := h
  split at h2
  · next e => rw [e]; simp [stepsR]
  · simp only [Bool.and_eq_true, decide_eq_true_eq] at h2
    obtain ⟨a, b⟩ := steps_up (f := 0) h2.1 r.c.toNat r.f
    refine ⟨a, fun t ht => ?_⟩
    have := b t ht
    rwa [Int.toNat_of_nonneg (by omega)] at this
theorem rest_up : ∀ (l : List Rn) (p : Option Rn) (n : Int), restB p n l = true → (timesR l).Pairwise (· < ·) ∧ ∀ a, p = some a → ∀ t ∈ timesR l, a.f + (a.c - 1) * a.s < t
  | [], _, _, _ => by simp [timesR]
  | r :: l, p, n, h => by
    simp only [restB, Bool.and_eq_true] at h
    obtain ⟨h1, h2, h3⟩ := h
    obtain ⟨a1, a2⟩ := run_up h1
    obtain ⟨b1, b2⟩ := rest_up l (some r) _ h3
    refine ⟨List.pairwise_append.2 ⟨a1, b1, fun x hx y hy => ?_⟩, fun a ha t ht => ?_⟩
    · have := (a2 x hx).2
      have := b2 r rfl y hy
      omega
    · subst ha
      unfold behindB at h2
      simp only [Bool.and_eq_true, decide_eq_true_eq] at h2
      have hf : a.f + (a.c - 1) * a.s < r.f := h2.2.1
      rcases List.mem_append.1 ht with ht | ht
      · have := (a2 t ht).1; omega
      · have h4 := b2 r rfl t ht
        have h5 : r.f ∈ stepsR r.f r.s r.c.toNat := by rw [steps_first h1]; exact List.mem_cons_self ..
        have := (a2 _ h5).2
        omega
/-- The times of runs that may be are times. -/
theorem times_are {l : List Rn} (h : okB l = true) : areB (timesR l) = true := by
  obtain ⟨hne, hR, hT, hl2⟩ := okB_facts h
  have hTL := timesR_length (l := l) (fun r hr => by have := (hR r hr).1; omega)
  have h2 : restB none 0 l = true := by unfold okB at h; simp only [Bool.and_eq_true] at h; exact h.2
  have hpos : 1 ≤ totalR l := by
    obtain ⟨r, m, rfl⟩ := List.exists_cons_of_ne_nil hne
    have h1 := (hR r (List.mem_cons_self ..)).1
    have := totalR_pos (l := m) (fun x hx => by have := (hR x (List.mem_cons_of_mem _ hx)).1; omega)
    simp only [totalR]; omega
  exact (areB_iff _).2 ⟨by omega, by omega, times_all hR, (rest_up l none 0 h2).1⟩

def lastO : Option Rn → List Rn → Option Rn
  | p, [] => p
  | _, x :: l => lastO (some x) l
theorem lastO_snoc : ∀ (l : List Rn) (p : Option Rn) (r : Rn), lastO p (l ++ [r]) = some r
  | [], _, _ => rfl
  | _ :: l, _, r => lastO_snoc l _ r
def followB (p : Option Rn) (r : Rn) : Bool := match p with | none => true | some a => behindB a r
theorem restB_snoc : ∀ (l : List Rn) (p : Option Rn) (n : Int) (r : Rn), restB p n (l ++ [r]) = (restB p n l && (runB r (256 - n - totalR l) && followB (lastO p l) r))
  | [], p, n, r => by
    cases p <;> simp [restB, totalR, lastO, followB]
  | x :: l, p, n, r => by
    simp only [List.cons_append, restB, restB_snoc l (some x) (n + x.c) r, totalR, lastO]
    rw [show 256 - (n + x.c) - totalR l = 256 - n - (x.c + totalR l) by omega]
    simp only [Bool.and_assoc]
/-- What holds when the times T have come. -/
structure LaidInv (st : Rn × List Rn) (T : List Int) (z : Int) : Prop where
  times : timesR (st.2 ++ [st.1]) = T
  shut : restB none 0 st.2 = true
  open_ : runB st.1 (256 - totalR st.2) = true
  fol : followB (lastO none st.2) st.1 = true
  last_ : st.1.f + (st.1.c - 1) * st.1.s = z
theorem runB_iff (r : Rn) (room : Int) : runB r room = true ↔ 1 ≤ r.c ∧ r.c ≤ room ∧ (0 ≤ r.f ∧ r.f ≤ 281474976710656) ∧ (if r.c = 1 then r.s = 0 else 1 ≤ r.s ∧ r.s ≤ 281474976710656 ∧ 0 ≤ r.f + (r.c - 1) * r.s ∧ r.f + (r.c - 1) * r.s ≤ 281474976710656) := by
  unfold runB
  simp only [Bool.and_eq_true, decide_eq_true_eq, timeR_iff]
  split <;> simp [timeR_iff]
theorem follow_f {p : Option Rn} {a b : Rn} (h : followB p a = true) (e : a.f = b.f) : followB p b = true := by
  cases p with
  | none => rfl
  | some x => simp only [followB, behindB] at h ⊢; rwa [← e]
theorem LaidInv.next {st : Rn × List Rn} {T : List Int} {z t : Int} (h : LaidInv st T z) (hz : z < t) (ht : t ≤ 281474976710656) (hT : T.length < 256) : LaidInv (takeR st t) (T ++ [t]) t := by
  obtain ⟨⟨f, s, c⟩, sh⟩ := st
  obtain ⟨h1, h2, h3, h4, h5⟩ := h
  simp only at h1 h2 h3 h4 h5
  obtain ⟨a1, a2, a3, a4⟩ := (runB_iff _ _).1 h3
  simp only at a1 a2 a3 a4
  have hpos : ∀ r ∈ sh, 0 ≤ r.c := fun r hr => by
    have := (okB_facts (l := sh) (by
      unfold okB
      rw [h2, Bool.and_true]
      exact decide_eq_true (List.ne_nil_of_mem hr))).2.1 r hr
    have := this.1; omega
  have hlen : totalR sh + c < 256 := by
    have e := timesR_length (l := sh ++ [⟨f, s, c⟩]) (fun r hr => by
      rcases List.mem_append.1 hr with hr | hr
      · exact hpos r hr
      · rcases List.mem_singleton.1 hr with rfl
        simp only; omega)
    rw [h1, totalR_app] at e
    simp only [totalR] at e
    omega
  rw [timesR_app] at h1
  simp only [timesR, List.append_nil] at h1
  unfold takeR
  simp only
  rw [if_neg (by omega)]
  split
  · next e =>
    subst e
    rw [if_pos rfl] at a4
    subst a4
    refine ⟨?_, h2, (runB_iff _ _).2 ⟨by simp only; omega, by simp only; omega, a3, ?_⟩, follow_f h4 rfl, by simp only; omega⟩
    · rw [timesR_app, ← h1]
      simp only [timesR, List.append_nil, List.append_assoc]
      congr 1
      simp only [show (1 : Int).toNat = 1 from rfl, show (2 : Int).toNat = 2 from rfl, stepsR, List.cons_append, List.nil_append]
      congr 2
      omega
    · simp only
      rw [if_neg (by omega)]
      omega
  · next e =>
    rw [if_neg e] at a4
    split
    · next e2 =>
      have hm := mul_pred c s
      refine ⟨?_, h2, (runB_iff _ _).2 ⟨by simp only; omega, by simp only; omega, a3, ?_⟩, follow_f h4 rfl, ?_⟩
      · rw [timesR_app, ← h1]
        simp only [timesR, List.append_nil, List.append_assoc]
        congr 1
        rw [show (c + 1).toNat = c.toNat + 1 by omega, steps_app, Int.toNat_of_nonneg (by omega), e2]
        rfl
      · simp only
        rw [if_neg (by omega), show c + 1 - 1 = c by omega]
        omega
      · simp only
        rw [show c + 1 - 1 = c by omega]
        omega
    · next e2 =>
      have hb : behindB ⟨f, s, c⟩ ⟨t, 0, 1⟩ = true := by
        unfold behindB
        simp only [Bool.and_eq_true, decide_eq_true_eq]
        exact ⟨by omega, by omega, e2⟩
      refine ⟨?_, ?_, (runB_iff _ _).2 ⟨by simp only; omega, ?_, by simp only; omega, by simp⟩, ?_, by simp only; omega⟩
      · rw [timesR_app, timesR_app, ← h1]
        simp [timesR, stepsR]
      · rw [restB_snoc, h2, h4, show (256 : Int) - 0 - totalR sh = 256 - totalR sh by omega, h3]; rfl
      · simp only [totalR_app, totalR]; omega
      · simp only [lastO_snoc, followB]; exact hb
theorem fold_laid : ∀ (l : List Int) (st : Rn × List Rn) (T : List Int) (z : Int), LaidInv st T z → (∀ x ∈ l, z < x) → Up l → T.length + l.length ≤ 256 → ∃ z', LaidInv (l.foldl takeR st) (T ++ l) z'
  | [], st, T, z, h, _, _, _ => ⟨z, by simpa using h⟩
  | t :: l, st, T, z, h, hz, hU, hn => by
    obtain ⟨h1, h2, h3⟩ := hU.cons
    simp only [List.length_cons] at hn
    obtain ⟨z', g⟩ := fold_laid l (takeR st t) (T ++ [t]) t (h.next (hz t (List.mem_cons_self ..)) h1.2 (by omega)) h2 h3 (by rw [List.length_append, List.length_singleton]; omega)
    exact ⟨z', by rw [List.foldl_cons]; simpa using g⟩
/-- Times have runs that may be, and whose times they are. -/
theorem laid_are {l : List Int} (h : areB l = true) : okB (laidR l) = true ∧ timesR (laidR l) = l := by
  obtain ⟨h1, h2, hU⟩ := (areB_iff l).1 h
  obtain ⟨t, r, rfl⟩ : ∃ t r, l = t :: r := by
    cases l with
    | nil => simp at h1
    | cons t r => exact ⟨t, r, rfl⟩
  obtain ⟨g1, g2, g3⟩ := hU.cons
  have h0 : LaidInv (takeR iniR t) [t] t := by
    have e : takeR iniR t = (⟨t, 0, 1⟩, []) := by simp [takeR, iniR]
    rw [e]
    exact ⟨by simp [timesR, stepsR], rfl, (runB_iff _ _).2 ⟨by simp, by simp [totalR], g1, by simp⟩, rfl, by simp⟩
  obtain ⟨z, g⟩ := fold_laid r _ [t] t h0 g2 g3 (by simp only [List.length_cons, List.length_nil] at h2 ⊢; omega)
  have e : laidR (t :: r) = (r.foldl takeR (takeR iniR t)).2 ++ [(r.foldl takeR (takeR iniR t)).1] := rfl
  rw [e]
  refine ⟨?_, by rw [g.times]; rfl⟩
  unfold okB
  rw [restB_snoc, g.shut, g.fol, show (256 : Int) - 0 - totalR (r.foldl takeR (takeR iniR t)).2 = 256 - totalR (r.foldl takeR (takeR iniR t)).2 by omega, g.open_]
  simp
end Go.Proofs.Ytlfjmdfplmdmgaa
