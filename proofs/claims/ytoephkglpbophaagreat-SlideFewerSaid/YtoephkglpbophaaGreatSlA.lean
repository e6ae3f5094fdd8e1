/-
  Layer 10: slide: the slopes that bands let, in numbers. Conditions: those written at each fact.
-/
import Derived.Test.YtoephkglpbophaaGreatLC
import Derived.Test.YtoephkglpbophaaGreatHS
namespace Go.Proofs.YtoephkglpbophaaGreat.P10
open Go.RowKit Go.Shelf Go.Proofs.YtoephkglpbophaaGreat.P8

/-- Fractions: from n / d up to m / e, up to k / f. -/
theorem frac_trans {n d m e k f : Int} (hd : 0 < d) (he : 0 < e) (hf : 0 < f) (h1 : n * e ≤ m * d) (h2 : m * f ≤ k * e) : n * f ≤ k * d := by
  have a1 := Int.mul_le_mul_of_nonneg_right h1 (Int.le_of_lt hf)
  have a2 := Int.mul_le_mul_of_nonneg_right h2 (Int.le_of_lt hd)
  have e1 : m * d * f = m * f * d := by rw [Int.mul_assoc, Int.mul_comm d f, ← Int.mul_assoc]
  have e2 : n * e * f = n * f * e := by rw [Int.mul_assoc, Int.mul_comm e f, ← Int.mul_assoc]
  have e3 : k * e * d = k * d * e := by rw [Int.mul_assoc, Int.mul_comm e d, ← Int.mul_assoc]
  rw [e2, e1] at a1
  rw [e3] at a2
  exact Int.le_of_mul_le_mul_right (Int.le_trans a1 a2) he
/-- All slopes from a / b up to c / d. -/
structure Sl where
  a : Int
  b : Int
  c : Int
  d : Int
/-- Is n / d less than m / e? -/
def lq (n d m e : Int) : Bool := decide (n * e < m * d)
def every0 : Sl := ⟨-4611688217450643456, 1, 4611688217450643456, 1⟩
/-- What two bands let. -/
def pairS (x y : Bd) : Sl := ⟨y.lo - x.hi, y.t - x.t, y.hi - x.lo, y.t - x.t⟩
/-- What both let, be it none. -/
def joinS (s o : Sl) : Sl :=
  ⟨if lq s.a s.b o.a o.b then o.a else s.a, if lq s.a s.b o.a o.b then o.b else s.b, if lq o.c o.d s.c s.d then o.c else s.c, if lq o.c o.d s.c s.d then o.d else s.d⟩
def shutS (s : Sl) : Bool := lq s.c s.d s.a s.b
structure StOk (s : Sl) : Prop where
  lo : slopeB s.a s.b = true
  hi : slopeB s.c s.d = true
theorem StOk.pos {s : Sl} (h : StOk s) : 0 < s.b ∧ 0 < s.d := by
  have h1 := (slopeB_iff _ _).1 h.lo
  have h2 := (slopeB_iff _ _).1 h.hi
  omega
theorem every_ok : StOk every0 := ⟨by simp [every0, slopeB], by simp [every0, slopeB]⟩
theorem pair_ok {x y : Bd} (hx : BdOk x) (hy : BdOk y) (h : x.t < y.t) : StOk (pairS x y) := by
  obtain ⟨h1, h2, h3, h4, h5⟩ := hx
  obtain ⟨g1, g2, g3, g4, g5⟩ := hy
  refine ⟨(slopeB_iff _ _).2 ?_, (slopeB_iff _ _).2 ?_⟩ <;> simp only [pairS] <;> omega
theorem join_ok {s o : Sl} (hs : StOk s) (ho : StOk o) : StOk (joinS s o) := by
  refine ⟨?_, ?_⟩ <;> unfold joinS <;> simp only
  · cases lq s.a s.b o.a o.b
    · simpa using hs.lo
    · simpa using ho.lo
  · cases lq o.c o.d s.c s.d
    · simpa using hs.hi
    · simpa using ho.hi
/-- The slope n / d is among them. -/
def InS (s : Sl) (n d : Int) : Prop := s.a * d ≤ n * s.b ∧ n * s.d ≤ s.c * d
theorem in_join {s o : Sl} {n d : Int} (hs : StOk s) (ho : StOk o) (hd : 1 ≤ d) : InS (joinS s o) n d ↔ InS s n d ∧ InS o n d := by
  obtain ⟨p1, p2⟩ := hs.pos
  obtain ⟨q1, q2⟩ := ho.pos
  have hd0 : 0 < d := by omega
  have e1 : (joinS s o).a * d ≤ n * (joinS s o).b ↔ s.a * d ≤ n * s.b ∧ o.a * d ≤ n * o.b := by
    unfold joinS
    simp only
    cases g : lq s.a s.b o.a o.b
    · have g' := of_decide_eq_false g
      simp only [Bool.false_eq_true, if_false]
      exact ⟨fun h => ⟨h, frac_trans q1 p1 hd0 (by omega) h⟩, fun h => h.1⟩
    · have g' := of_decide_eq_true g
      simp only [if_true]
      exact ⟨fun h => ⟨frac_trans p1 q1 hd0 (Int.le_of_lt g') h, h⟩, fun h => h.2⟩
  have e2 : n * (joinS s o).d ≤ (joinS s o).c * d ↔ n * s.d ≤ s.c * d ∧ n * o.d ≤ o.c * d := by
    unfold joinS
    simp only
    cases g : lq o.c o.d s.c s.d
    · have g' := of_decide_eq_false g
      simp only [Bool.false_eq_true, if_false]
      exact ⟨fun h => ⟨h, frac_trans hd0 p2 q2 h (by omega)⟩, fun h => h.1⟩
    · have g' := of_decide_eq_true g
      simp only [if_true]
      exact ⟨fun h => ⟨frac_trans hd0 q2 p2 h (Int.le_of_lt g'), h⟩, fun h => h.2⟩
  unfold InS
  rw [e1, e2]
  exact ⟨fun h => ⟨⟨h.1.1, h.2.1⟩, h.1.2, h.2.2⟩, fun h => ⟨⟨h.1.1, h.2.1⟩, h.1.2, h.2.2⟩⟩
theorem open_iff {s : Sl} : shutS s = false ↔ s.a * s.d ≤ s.c * s.b := by
  unfold shutS lq
  rw [decide_eq_false_iff_not]
  omega
theorem in_open {s : Sl} {n d : Int} (hs : StOk s) (hd : 1 ≤ d) (h : InS s n d) : shutS s = false := by
  obtain ⟨p1, p2⟩ := hs.pos
  exact open_iff.2 (frac_trans p1 (by omega) p2 h.1 h.2)
theorem own_in {s : Sl} (h : shutS s = false) : InS s s.a s.b := ⟨Int.le_refl _, open_iff.1 h⟩
/-- Who is shut stays so. -/
theorem shut_join {s o : Sl} (hs : StOk s) (ho : StOk o) (h : shutS s = true) : shutS (joinS s o) = true := by
  cases g : shutS (joinS s o)
  · have hj := join_ok hs ho
    have hd := ((slopeB_iff _ _).1 hj.lo).2.2.1
    have h1 := ((in_join hs ho hd).1 (own_in g)).1
    rw [in_open hs hd h1] at h
    exact h
  · rfl
/-- What a band lets with each of those ahead of it. -/
def letS (y : Bd) : List Bd → Sl → Sl
  | [], s => s
  | x :: l, s => letS y l (joinS s (pairS x y))
theorem let_ok {y : Bd} (hy : BdOk y) : ∀ {l : List Bd} {s : Sl}, (∀ x ∈ l, BdOk x ∧ x.t < y.t) → StOk s → StOk (letS y l s)
  | [], _, _, h => h
  | x :: l, s, hl, h => by
    have hx := hl x (List.mem_cons_self ..)
    exact let_ok hy (l := l) (fun z hz => hl z (List.mem_cons_of_mem _ hz)) (join_ok h (pair_ok hx.1 hy hx.2))
theorem let_in {y : Bd} (hy : BdOk y) {n d : Int} (hd : 1 ≤ d) : ∀ {l : List Bd} {s : Sl}, (∀ x ∈ l, BdOk x ∧ x.t < y.t) → StOk s → (InS (letS y l s) n d ↔ InS s n d ∧ ∀ x ∈ l, InS (pairS x y) n d)
  | [], s, _, _ => by simp [letS]
  | x :: l, s, hl, h => by
    have hx := hl x (List.mem_cons_self ..)
    have hp := pair_ok hx.1 hy hx.2
    rw [letS, let_in hy hd (l := l) (fun z hz => hl z (List.mem_cons_of_mem _ hz)) (join_ok h hp), in_join h hp hd]
    constructor
    · rintro ⟨⟨h1, h2⟩, h3⟩
      refine ⟨h1, fun z hz => ?_⟩
      rcases List.mem_cons.1 hz with rfl | hz
      · exact h2
      · exact h3 z hz
    · rintro ⟨h1, h2⟩
      exact ⟨⟨h1, h2 x (List.mem_cons_self ..)⟩, fun z hz => h2 z (List.mem_cons_of_mem _ hz)⟩
theorem shut_let {y : Bd} (hy : BdOk y) : ∀ {l : List Bd} {s : Sl}, (∀ x ∈ l, BdOk x ∧ x.t < y.t) → StOk s → shutS s = true → shutS (letS y l s) = true
  | [], _, _, _, h => h
  | x :: l, s, hl, hs, h => by
    have hx := hl x (List.mem_cons_self ..)
    have hp := pair_ok hx.1 hy hx.2
    exact shut_let hy (l := l) (fun z hz => hl z (List.mem_cons_of_mem _ hz)) (join_ok hs hp) (shut_join hs hp h)
/-- What bands let, behind those of h that let s. -/
def foldA : List Bd → Sl → List Bd → Sl
  | _, s, [] => s
  | h, s, y :: l => foldA (h ++ [y]) (letS y h s) l
theorem foldA_next : ∀ (l : List Bd) (h : List Bd) (s : Sl) (y : Bd), foldA h s (l ++ [y]) = letS y (h ++ l) (foldA h s l)
  | [], h, s, y => by simp [foldA]
  | x :: l, h, s, y => by
    show foldA (h ++ [x]) (letS x h s) (l ++ [y]) = letS y (h ++ x :: l) (foldA (h ++ [x]) (letS x h s) l)
    rw [foldA_next l, List.append_assoc]
    rfl
/-- May a row of bands be, behind those of h? -/
def RowOk (l : List Bd) : Prop := (∀ b ∈ l, BdOk b) ∧ l.Pairwise (fun x y => x.t < y.t)
theorem RowOk.take {l : List Bd} (h : RowOk l) (k : Nat) : RowOk (l.take k) := ⟨fun b hb => h.1 b (List.mem_of_mem_take hb), h.2.sublist (List.take_sublist k l)⟩
theorem RowOk.drop {l : List Bd} (h : RowOk l) (k : Nat) : RowOk (l.drop k) := ⟨fun b hb => h.1 b (List.mem_of_mem_drop hb), h.2.sublist (List.drop_sublist k l)⟩
theorem row_ok {l : List Bd} (h : okD l = true) : RowOk l := ⟨((okD_iff l).1 h).2.2.1, ((okD_iff l).1 h).2.2.2⟩
theorem row_ahead {h l : List Bd} {y : Bd} (hr : RowOk (h ++ y :: l)) : BdOk y ∧ ∀ x ∈ h, BdOk x ∧ x.t < y.t := by
  refine ⟨hr.1 y (by simp), fun x hx => ⟨hr.1 x (by simp [hx]), ?_⟩⟩
  exact (List.pairwise_append.1 hr.2).2.2 x hx y (List.mem_cons_self ..)
theorem fold_ok : ∀ {l h : List Bd} {s : Sl}, RowOk (h ++ l) → StOk s → StOk (foldA h s l)
  | [], _, _, _, hs => hs
  | y :: l, h, s, hr, hs => by
    obtain ⟨hy, hx⟩ := row_ahead hr
    exact fold_ok (l := l) (h := h ++ [y]) (by rw [List.append_assoc]; exact hr) (let_ok hy hx hs)
theorem fold_in {n d : Int} (hd : 1 ≤ d) : ∀ {l h : List Bd} {s : Sl}, RowOk (h ++ l) → StOk s →
    (InS (foldA h s l) n d ↔ InS s n d ∧ (∀ x ∈ h, ∀ y ∈ l, InS (pairS x y) n d) ∧ l.Pairwise (fun x y => InS (pairS x y) n d))
  | [], h, s, _, _ => by simp [foldA]
  | y :: l, h, s, hr, hs => by
    obtain ⟨hy, hah⟩ := row_ahead hr
    rw [foldA, fold_in hd (l := l) (h := h ++ [y]) (by rw [List.append_assoc]; exact hr) (let_ok hy hah hs), let_in hy hd hah hs, List.pairwise_cons]
    constructor
    · rintro ⟨⟨h1, h2⟩, h3, h4⟩
      refine ⟨h1, fun x hx y' hy' => ?_, fun z hz => h3 y (by simp) z hz, h4⟩
      rcases List.mem_cons.1 hy' with rfl | hy'
      · exact h2 x hx
      · exact h3 x (by simp [hx]) y' hy'
    · rintro ⟨h1, h2, h3, h4⟩
      refine ⟨⟨h1, fun x hx => h2 x hx y (List.mem_cons_self ..)⟩, fun x hx z hz => ?_, h4⟩
      rcases List.mem_append.1 hx with hx | hx
      · exact h2 x hx z (List.mem_cons_of_mem _ hz)
      · rw [List.mem_singleton.1 hx]; exact h3 z hz
theorem shut_fold : ∀ {l h : List Bd} {s : Sl}, RowOk (h ++ l) → StOk s → shutS s = true → shutS (foldA h s l) = true
  | [], _, _, _, _, h => h
  | y :: l, h, s, hr, hs, g => by
    obtain ⟨hy, hx⟩ := row_ahead hr
    exact shut_fold (l := l) (h := h ++ [y]) (by rw [List.append_assoc]; exact hr) (let_ok hy hx hs) (shut_let hy hx hs g)
/-- The slopes that bands let, each two of them. -/
def allS (l : List Bd) : Sl := foldA [] every0 l
def PairW (l : List Bd) (n d : Int) : Prop := l.Pairwise (fun x y => InS (pairS x y) n d)
theorem all_ok {l : List Bd} (h : RowOk l) : StOk (allS l) := fold_ok (h := []) h every_ok
theorem all_in {l : List Bd} {n d : Int} (h : RowOk l) (hd : 1 ≤ d) : InS (allS l) n d ↔ InS every0 n d ∧ PairW l n d := by
  unfold allS PairW
  rw [fold_in hd (h := []) h every_ok]
  simp
theorem all_take {l : List Bd} {k : Nat} {y : Bd} (h : l[k]? = some y) : allS (l.take (k + 1)) = letS y (l.take k) (allS (l.take k)) := by
  unfold allS
  rw [List.take_add_one, h]
  have := foldA_next (l.take k) [] every0 y
  simpa using this
/-- How many bands the longest first part has, behind those of h that let s. -/
def goA : List Bd → Sl → List Bd → Nat
  | _, _, [] => 0
  | h, s, y :: l => if shutS (letS y h s) then 0 else goA (h ++ [y]) (letS y h s) l + 1
theorem goA_eq : ∀ (l h : List Bd) (s : Sl) (n : Nat), n ≤ l.length → (∀ i, i < n → shutS (foldA h s (l.take (i + 1))) = false) → (n = l.length ∨ shutS (foldA h s (l.take (n + 1))) = true) → goA h s l = n
  | [], _, _, n, h, _, _ => by simp at h; subst h; rfl
  | y :: l, h, s, 0, _, _, g => by
    rcases g with g | g
    · simp at g
    · rw [goA, if_pos (by simpa [foldA] using g)]
  | y :: l, h, s, n + 1, h1, h2, h3 => by
    have h0 := h2 0 (by omega)
    rw [goA, if_neg (by simp only [List.take_succ_cons, List.take_zero, foldA] at h0; simp [h0])]
    congr 1
    refine goA_eq l _ _ n (by simpa using h1) (fun i hi => ?_) ?_
    · have := h2 (i + 1) (by omega)
      simpa [foldA] using this
    · rcases h3 with h3 | h3
      · exact .inl (by simpa using h3)
      · exact .inr (by simpa [foldA] using h3)
theorem goA_le : ∀ (l h : List Bd) (s : Sl), goA h s l ≤ l.length
  | [], _, _ => Nat.le_refl _
  | y :: l, h, s => by
    rw [goA]
    split
    · simp
    · have := goA_le l (h ++ [y]) (letS y h s); simp; omega
theorem goA_open : ∀ (l h : List Bd) (s : Sl), shutS s = false → shutS (foldA h s (l.take (goA h s l))) = false
  | [], _, _, h => h
  | y :: l, h, s, g => by
    rw [goA]
    split
    · exact g
    · rename_i g2
      exact goA_open l (h ++ [y]) (letS y h s) (by simpa using g2)
theorem goA_stop : ∀ (l h : List Bd) (s : Sl), goA h s l < l.length → shutS (foldA h s (l.take (goA h s l + 1))) = true
  | [], _, _, h => by simp at h
  | y :: l, h, s, g => by
    rw [goA] at g ⊢
    split
    · rename_i g2
      simpa [foldA] using g2
    · rename_i g2
      rw [if_neg g2] at g
      exact goA_stop l (h ++ [y]) (letS y h s) (by simpa using g)
/-- How many bands the first part has; the slopes that it lets. -/
def firN (l : List Bd) : Nat := goA [] every0 l
def firS (l : List Bd) : Sl := allS (l.take (firN l))
theorem every_open : shutS every0 = false := by decide
theorem firN_cons (b : Bd) (t : List Bd) : firN (b :: t) = goA [b] every0 t + 1 := by
  unfold firN
  rw [goA, letS, every_open, if_neg (by simp)]
  rfl
theorem firN_le {l : List Bd} (hne : l ≠ []) : 1 ≤ firN l ∧ firN l ≤ l.length := by
  refine ⟨?_, goA_le _ _ _⟩
  obtain ⟨b, t, rfl⟩ := List.exists_cons_of_ne_nil hne
  rw [firN_cons]; omega
theorem firN_eq {l : List Bd} {n : Nat} (h1 : n ≤ l.length) (h2 : ∀ i, i < n → shutS (allS (l.take (i + 1))) = false) (h3 : n = l.length ∨ shutS (allS (l.take (n + 1))) = true) : firN l = n := goA_eq _ _ _ _ h1 h2 h3
theorem firS_open (l : List Bd) : shutS (firS l) = false := goA_open _ _ _ every_open
theorem firS_ok {l : List Bd} (h : RowOk l) : StOk (firS l) := all_ok (h.take _)
theorem firN_stop {l : List Bd} (h : firN l < l.length) : shutS (allS (l.take (firN l + 1))) = true := goA_stop _ _ _ h
theorem shut_take {l : List Bd} (h : RowOk l) {k : Nat} (hs : shutS (allS (l.take k)) = true) : shutS (allS l) = true := by
  have e : ∀ (m q h : List Bd) (s : Sl), foldA h s (m ++ q) = foldA (h ++ m) (foldA h s m) q := by
    intro m
    induction m with
    | nil => intro q h s; simp [foldA]
    | cons x m ih => intro q h s; show foldA (h ++ [x]) (letS x h s) (m ++ q) = _; rw [ih, List.append_assoc]; rfl
  have := e (l.take k) (l.drop k) [] every0
  rw [List.take_append_drop] at this
  unfold allS
  rw [this]
  exact shut_fold (by simpa using h) (all_ok (h.take k)) hs
theorem firN_long {l : List Bd} (h : RowOk l) {p : Nat} (hp : p ≤ l.length) (g : shutS (allS (l.take p)) = false) : p ≤ firN l := by
  by_cases g2 : p ≤ firN l
  · exact g2
  · have h1 := firN_stop (l := l) (by omega)
    have h2 := shut_take (l := l.take p) (h.take p) (k := firN l + 1) (by rw [List.take_take, Nat.min_eq_left (by omega)]; exact h1)
    rw [h2] at g
    cases g
end Go.Proofs.YtoephkglpbophaaGreat.P10
