/-
  Layer 10: bands upside down, and bands at later times. Conditions: those written at each fact.
-/
import Derived.Test.YtmdhgiaaofdjiaaSlN
namespace Go.Proofs.Ytmdhgiaaofdjiaa.P10
open Go.RowKit Go.Shelf Go.Proofs.Ytmdhgiaaofdjiaa.P8

/-- A band upside down; a band at a later time. -/
def dnB (b : Bd) : Bd := ⟨b.t, -b.hi, -b.lo⟩
def laB (s : Int) (b : Bd) : Bd := ⟨b.t + s, b.lo, b.hi⟩
/-- Slopes upside down. -/
def nsS (s : Sl) : Sl := ⟨-s.c, s.d, -s.a, s.b⟩
theorem lq_neg (n d m e : Int) : lq (-n) d (-m) e = lq m e n d := by
  unfold lq
  rw [Int.neg_mul, Int.neg_mul, decide_eq_decide]
  omega
theorem pair_dn (x y : Bd) : pairS (dnB x) (dnB y) = nsS (pairS x y) := by
  simp only [pairS, dnB, nsS, Sl.mk.injEq, and_true, true_and]
  omega
theorem join_dn (s o : Sl) : joinS (nsS s) (nsS o) = nsS (joinS s o) := by
  simp only [joinS, nsS, lq_neg, Sl.mk.injEq, and_true, true_and]
  refine ⟨?_, ?_⟩ <;> split <;> rfl
theorem shut_dn (s : Sl) : shutS (nsS s) = shutS s := by
  simp only [shutS, nsS, lq_neg]
theorem every_dn : nsS every0 = every0 := by simp [nsS, every0]
theorem let_dn (y : Bd) : ∀ (l : List Bd) (s : Sl), letS (dnB y) (l.map dnB) (nsS s) = nsS (letS y l s)
  | [], _ => rfl
  | x :: l, s => by
    rw [List.map_cons, letS, letS, pair_dn, join_dn, let_dn y l]
theorem goA_dn : ∀ (l h : List Bd) (s : Sl), goA (h.map dnB) (nsS s) (l.map dnB) = goA h s l
  | [], _, _ => rfl
  | y :: l, h, s => by
    have := goA_dn l (h ++ [y]) (letS y h s)
    rw [List.map_append] at this
    rw [List.map_cons, goA, goA, let_dn, shut_dn]
    split
    · rfl
    · exact congrArg (· + 1) this
theorem fold_dn : ∀ (l h : List Bd) (s : Sl), foldA (h.map dnB) (nsS s) (l.map dnB) = nsS (foldA h s l)
  | [], _, _ => rfl
  | y :: l, h, s => by
    have := fold_dn l (h ++ [y]) (letS y h s)
    rw [List.map_append] at this
    rw [List.map_cons, foldA, foldA, let_dn]
    exact this
theorem firN_dn (l : List Bd) : firN (l.map dnB) = firN l := by
  have := goA_dn l [] every0
  rwa [every_dn] at this
theorem firS_dn (l : List Bd) : firS (l.map dnB) = nsS (firS l) := by
  unfold firS allS
  rw [firN_dn, ← List.map_take]
  have := fold_dn (l.take (firN l)) [] every0
  rwa [every_dn] at this
theorem cut_dn : ∀ (n : Nat) (l : List Bd), l.length ≤ n → cutN (l.map dnB) = cutN l
  | n, [], _ => by rw [List.map_nil]
  | 0, _ :: _, h => by simp at h
  | n + 1, b :: l, h => by
    have hne : b :: l ≠ [] := by simp
    obtain ⟨h1, h2⟩ := firN_le hne
    rw [cutN_next hne, cutN_next (by simp), firN_dn, ← List.map_drop, cut_dn n _ (by rw [List.length_drop]; rw [List.length_cons] at *; omega)]
theorem pairs_map {R : Bd → Bd → Prop} {f : Bd → Bd} (hf : ∀ x y, R (f x) (f y) ↔ R x y) : ∀ {l : List Bd}, (l.map f).Pairwise R ↔ l.Pairwise R
  | [] => by simp
  | b :: l => by
    rw [List.map_cons, List.pairwise_cons, List.pairwise_cons, pairs_map hf]
    simp [hf]
theorem ok_dn (l : List Bd) : okD (l.map dnB) = okD l := by
  have e : okD (l.map dnB) = true ↔ okD l = true := by
    rw [okD_iff, okD_iff, List.length_map, pairs_map (f := dnB) (fun x y => Iff.rfl)]
    have : (∀ b ∈ l.map dnB, BdOk b) ↔ ∀ b ∈ l, BdOk b := by
      simp only [List.mem_map, forall_exists_index, and_imp, forall_apply_eq_imp_iff₂]
      refine forall_congr' fun b => forall_congr' fun _ => ?_
      simp only [BdOk, dnB]
      omega
    rw [this]
  cases h : okD l
  · cases h2 : okD (l.map dnB)
    · rfl
    · rw [e.1 h2] at h; cases h
  · exact e.2 h
theorem fitE_dn (l : List Bd) : fitE (l.map dnB) = fitE l := by
  unfold fitE
  rw [ok_dn, firN_dn, List.length_map]
theorem low_dn (n d : Int) : lowN (-n) d = -lowN n d ∧ lowD (-n) d = lowD n d := by
  have hg : gcdI (-n) d = gcdI n d := by simp [gcdI]
  unfold lowN lowD
  rw [hg]
  exact ⟨Int.neg_ediv_of_dvd (by unfold gcdI; exact Int.gcd_dvd_left ..), rfl⟩
theorem sloS_dn (l : List Bd) : sloS (l.map dnB) = nsS (sloS l) := by
  unfold sloS
  rw [fitE_dn, firS_dn]
  split
  · simp only [lowS, nsS, (low_dn _ _).1, (low_dn _ _).2]
  · simp [none0, nsS]
theorem code_dn (l : List Bd) : codeS (l.map dnB) = codeS l ∧ rowS (l.map dnB) = rowS l := by
  unfold codeS rowS
  rw [ok_dn, cut_dn l.length l (Nat.le_refl _)]
  exact ⟨rfl, rfl⟩

theorem pair_la (s : Int) (x y : Bd) : pairS (laB s x) (laB s y) = pairS x y := by
  simp only [pairS, laB, Sl.mk.injEq, true_and]
  omega
theorem let_la (z : Int) (y : Bd) : ∀ (l : List Bd) (s : Sl), letS (laB z y) (l.map (laB z)) s = letS y l s
  | [], _ => rfl
  | x :: l, s => by
    rw [List.map_cons, letS, letS, pair_la, let_la z y l]
theorem goA_la (z : Int) : ∀ (l h : List Bd) (s : Sl), goA (h.map (laB z)) s (l.map (laB z)) = goA h s l
  | [], _, _ => rfl
  | y :: l, h, s => by
    have := goA_la z l (h ++ [y]) (letS y h s)
    rw [List.map_append] at this
    rw [List.map_cons, goA, goA, let_la]
    split
    · rfl
    · exact congrArg (· + 1) this
theorem fold_la (z : Int) : ∀ (l h : List Bd) (s : Sl), foldA (h.map (laB z)) s (l.map (laB z)) = foldA h s l
  | [], _, _ => rfl
  | y :: l, h, s => by
    have := fold_la z l (h ++ [y]) (letS y h s)
    rw [List.map_append] at this
    rw [List.map_cons, foldA, foldA, let_la]
    exact this
theorem firN_la (z : Int) (l : List Bd) : firN (l.map (laB z)) = firN l := goA_la z l [] every0
theorem firS_la (z : Int) (l : List Bd) : firS (l.map (laB z)) = firS l := by
  unfold firS allS
  rw [firN_la, ← List.map_take]
  exact fold_la z (l.take (firN l)) [] every0
theorem ok_la {l : List Bd} {z : Int} (h : okD l = true) (h0 : 0 ≤ z) (h1 : ∀ b ∈ l, b.t + z ≤ 281474976710656) : okD (l.map (laB z)) = true := by
  rw [okD_iff] at h ⊢
  rw [List.length_map, pairs_map (f := laB z) (fun x y => by simp only [laB]; omega)]
  refine ⟨h.1, h.2.1, ?_, h.2.2.2⟩
  simp only [List.mem_map, forall_exists_index, and_imp, forall_apply_eq_imp_iff₂]
  intro b hb
  have h2 := h.2.2.1 b hb
  have h3 := h1 b hb
  simp only [BdOk, laB] at *
  omega
theorem lowF_la (t0 n d z : Int) : ∀ (l : List Bd) (m : Int), lowF (t0 + z) n d m (l.map (laB z)) = lowF t0 n d m l
  | [], _ => rfl
  | b :: l, m => by
    have e : capC (t0 + z) n d (laB z b) = capC t0 n d b := by
      simp only [capC, laB]
      rw [show b.t + z - (t0 + z) = b.t - t0 by omega]
    rw [List.map_cons, lowF, lowF, e, lowF_la t0 n d z l]
theorem line_la (z : Int) (l : List Bd) (s : Sl) : lineC (l.map (laB z)) s = lineC l s := by
  cases l with
  | nil => rfl
  | cons b l =>
    unfold lineC
    rw [List.map_cons]
    show lowF (b.t + z) (flatN s) (flatE s) (capC (b.t + z) (flatN s) (flatE s) (laB z b)) (l.map (laB z)) = lowF b.t (flatN s) (flatE s) (capC b.t (flatN s) (flatE s) b) l
    have e : capC (b.t + z) (flatN s) (flatE s) (laB z b) = capC b.t (flatN s) (flatE s) b := by
      simp only [capC, laB]
      rw [show b.t + z - (b.t + z) = b.t - b.t by omega]
    rw [e, lowF_la]
structure LaterOk (l : List Bd) (z : Int) : Prop where
  e : fitE (l.map (laB z)) = fitE l
  a : fitA (l.map (laB z)) = fitA l
  r : fitR (l.map (laB z)) = fitR l
  n : fitN (l.map (laB z)) = fitN l
  d : fitD (l.map (laB z)) = fitD l
theorem later_ok {l : List Bd} {z : Int} (h : okD l = true) (h0 : 0 ≤ z) (h1 : ∀ b ∈ l, b.t + z ≤ 281474976710656) : LaterOk l z := by
  have hk := ok_la h h0 h1
  have e : fitE (l.map (laB z)) = fitE l := by
    unfold fitE
    rw [hk, h, firN_la, List.length_map]
  refine ⟨e, ?_, ?_, ?_, ?_⟩
  · unfold fitA; rw [e, firS_la, line_la]
  · unfold fitR; rw [e, firS_la, line_la]
  · unfold fitN; rw [e, firS_la]
  · unfold fitD; rw [e, firS_la]
/-- The last time is the latest. -/
theorem last_time {l : List Bd} (h : RowOk l) {b x : Bd} (hb : b ∈ l) (hx : l[l.length - 1]? = some x) : b.t ≤ x.t := by
  obtain ⟨i, hi, rfl⟩ := List.mem_iff_getElem.1 hb
  obtain ⟨hj, rfl⟩ := List.getElem?_eq_some_iff.1 hx
  by_cases g : i = l.length - 1
  · subst g; exact Int.le_refl _
  · exact Int.le_of_lt (List.pairwise_iff_getElem.1 h.2 i (l.length - 1) hi hj (by omega))
end Go.Proofs.Ytmdhgiaaofdjiaa.P10
