/-
 Layer 11: what a segment is, and what its values are: plain numbers. Conditions: those written at each fact.
-/
import Derived.Test.YtcfidimnbamnkaaGreatNC
import Derived.Test.YtcfidimnbamnkaaGreatLC
import Derived.Test.YtcfidimnbamnkaaGreatFsA
namespace Go.Proofs.YtcfidimnbamnkaaGreat.P11
open Go.RowKit Go.Proofs.YtcfidimnbamnkaaGreat.P7

structure Sg where
 k : Int
 R : List Rn
 a : Int
 r : Int
 n : Int
 d : Int
 V : List Int
 e : Int
def fstT : List Rn → Int
 | [] => 0
 | x :: _ => x.f
def kindL (n r : Int) : Int := if n = 0 then 1 else if r = 0 then 2 else 3
def kindK (a r n d : Int) : Int := if lineB a r n d then kindL n r else 0
def lnAt (s : Sg) (t : Int) : Int := exV s.a s.r s.n s.d (t - fstT s.R) / s.d
def vals (s : Sg) : List Int := if s.k = 4 then s.V else (timesR s.R).map (lnAt s)
def backs (V : List Int) : Bool := V.all backB
theorem backs_iff (V : List Int) : backs V = true ↔ ∀ v ∈ V, backB v = true := by unfold backs; simp
def lineOk (s : Sg) : Bool := decide (s.V = []) && (lineB s.a s.r s.n s.d && decide (s.k = kindL s.n s.r))
def rawOk (s : Sg) : Bool := decide (s.a = 0 ∧ s.r = 0 ∧ s.n = 0 ∧ s.d = 0) && decide ((s.V.length : Int) = totalR s.R)
def segB (s : Sg) : Bool := okB s.R && (decide (0 ≤ s.e) && (decide (s.e ≤ 1099511627776) && ((if s.k = 4 then rawOk s else lineOk s) && backs (vals s))))
theorem kindL_cases (n r : Int) : kindL n r = 1 ∧ n = 0 ∨ kindL n r = 2 ∧ n ≠ 0 ∧ r = 0 ∨ kindL n r = 3 ∧ n ≠ 0 ∧ r ≠ 0 := by
 unfold kindL
 by_cases h : n = 0
 ·rw [if_pos h]; exact .inl ⟨rfl, h⟩
 ·rw [if_neg h]
  by_cases h2 : r = 0
  ·rw [if_pos h2]; exact .inr (.inl ⟨rfl, h, h2⟩)
  ·rw [if_neg h2]; exact .inr (.inr ⟨rfl, h, h2⟩)
theorem lineOk_iff (s : Sg) : lineOk s = true ↔ s.V = [] ∧ lineB s.a s.r s.n s.d = true ∧ s.k = kindL s.n s.r := by unfold lineOk; simp
theorem rawOk_iff (s : Sg) : rawOk s = true ↔ (s.a = 0 ∧ s.r = 0 ∧ s.n = 0 ∧ s.d = 0) ∧ (s.V.length : Int) = totalR s.R := by unfold rawOk; simp
theorem segB_iff (s : Sg) : segB s = true ↔ okB s.R = true ∧ 0 ≤ s.e ∧ s.e ≤ 1099511627776 ∧ (if s.k = 4 then rawOk s else lineOk s) = true ∧ ∀ v ∈ vals s, backB v = true := by
 unfold segB; simp only [Bool.and_eq_true, decide_eq_true_eq, backs_iff]
theorem segB_kind {s : Sg} (h : segB s = true) : s.k = 4 ∧ rawOk s = true ∧ vals s = s.V ∨ (s.k = 1 ∨ s.k = 2 ∨ s.k = 3) ∧ s.k ≠ 4 ∧ lineOk s = true ∧ vals s = (timesR s.R).map (lnAt s) := by
 obtain ⟨_, _, _, h4, _⟩ := (segB_iff s).1 h
 by_cases g : s.k = 4
 ·rw [if_pos g] at h4
  exact .inl ⟨g, h4, by unfold vals; rw [if_pos g]⟩
 ·rw [if_neg g] at h4
  have := ((lineOk_iff s).1 h4).2.2
  refine .inr ⟨?_, g, h4, by unfold vals; rw [if_neg g]⟩
  have := kindL_cases s.n s.r
  omega
structure TimesOk (R : List Rn) : Prop where
 one : 1 ≤ (timesR R).length
 few : (timesR R).length ≤ 256
 total : ((timesR R).length : Int) = totalR R
 cs : ∀ r ∈ R, 1 ≤ r.c
 oks : ∀ r ∈ R, RunOk r
 ne : R ≠ []
 runs : R.length ≤ 256
 times : ∀ t ∈ timesR R, 0 ≤ t ∧ t ≤ 281474976710656
 up : (timesR R).Pairwise (· < ·)
theorem times_ok {R : List Rn} (h : okB R = true) : TimesOk R := by
 obtain ⟨f1, f2, f3, f4⟩ := okB_facts h
 have h1c : ∀ r ∈ R, 1 ≤ r.c := fun r hr => (f2 r hr).1
 obtain ⟨g1, g2, g3⟩ := (areB_iff _).1 (times_are h)
 exact ⟨g1, g2, timesR_length (fun r hr => by have := h1c r hr; omega), h1c, f2, f1, f4, g3.1, g3.2⟩
theorem times_first {R : List Rn} (h : TimesOk R) : (timesR R)[0]? = some (fstT R) := by
 cases R with
 | nil => exact absurd rfl h.ne
 | cons x l =>
  have := h.cs x (List.mem_cons_self ..)
  obtain ⟨m, hm⟩ : ∃ m, x.c.toNat = m + 1 := ⟨x.c.toNat - 1, by omega⟩
  simp [timesR, hm, stepsR, fstT]
theorem up_get {l : List Int} (h : l.Pairwise (· < ·)) {i j : Nat} {x y : Int} (hi : l[i]? = some x) (hj : l[j]? = some y) (hij : i ≤ j) : x ≤ y := by
 obtain ⟨a1, rfl⟩ := List.getElem?_eq_some_iff.1 hi
 obtain ⟨b1, rfl⟩ := List.getElem?_eq_some_iff.1 hj
 by_cases e : i = j
 ·subst e; exact Int.le_refl _
 ·exact Int.le_of_lt (List.pairwise_iff_getElem.1 h i j a1 b1 (by omega))
theorem since_time {R : List Rn} (h : TimesOk R) {i : Nat} {t : Int} (hi : (timesR R)[i]? = some t) : 0 ≤ t - fstT R ∧ t - fstT R ≤ 281474976710656 ∧ timeB (t - fstT R) = true ∧ 0 ≤ fstT R ∧ fstT R ≤ t ∧ t ≤ 281474976710656 := by
 have h1 := up_get h.up (times_first h) hi (Nat.zero_le _)
 have h2 := h.times t (List.mem_of_getElem? hi)
 have h3 := h.times _ (List.mem_of_getElem? (times_first h))
 have e : 0 ≤ t - fstT R ∧ t - fstT R ≤ 281474976710656 := by omega
 exact ⟨e.1, e.2, (timeB_iff _).2 e, h3.1, h1, h2.2⟩
theorem ex_between {a r n d x y t : Int} (h1 : x ≤ t) (h2 : t ≤ y) : exV a r n d x ≤ exV a r n d t ∧ exV a r n d t ≤ exV a r n d y ∨ exV a r n d y ≤ exV a r n d t ∧ exV a r n d t ≤ exV a r n d x := by
 unfold exV
 by_cases h : 0 ≤ n
 ·have e1 := Int.mul_le_mul_of_nonneg_left h1 h
  have e2 := Int.mul_le_mul_of_nonneg_left h2 h
  exact .inl ⟨by omega, by omega⟩
 ·have e1 := Int.mul_le_mul_of_nonpos_left (a := n) (by omega) h1
  have e2 := Int.mul_le_mul_of_nonpos_left (a := n) (by omega) h2
  exact .inr ⟨by omega, by omega⟩
theorem line_between {a r n d x y t : Int} (hd : 1 ≤ d) (h1 : x ≤ t) (h2 : t ≤ y) : min (exV a r n d x / d) (exV a r n d y / d) ≤ exV a r n d t / d ∧ exV a r n d t / d ≤ max (exV a r n d x / d) (exV a r n d y / d) := by
 have mono : ∀ p q : Int, p ≤ q → p / d ≤ q / d := fun p q hpq => Int.ediv_le_ediv (by omega) hpq
 rcases ex_between (a := a) (r := r) (n := n) (d := d) h1 h2 with ⟨e1, e2⟩ | ⟨e1, e2⟩
 ·have := mono _ _ e1; have := mono _ _ e2; omega
 ·have := mono _ _ e1; have := mono _ _ e2; omega
theorem back_between {p q v : Int} (hp : backB p = true) (hq : backB q = true) (h : min p q ≤ v ∧ v ≤ max p q) : backB v = true := by
 rw [backB_iff] at *; omega
theorem line_d {a r n d : Int} (h : lineB a r n d = true) : 1 ≤ d := ((slopeB_iff _ _).1 ((lineB_iff _ _ _ _).1 h).1).2.2.1
theorem ends_all {s : Sg} (h : TimesOk s.R) (hl : lineB s.a s.r s.n s.d = true) {z : Int} (hz : (timesR s.R)[(timesR s.R).length - 1]? = some z)
  : (∀ v ∈ (timesR s.R).map (lnAt s), backB v = true) ↔ backB (exV s.a s.r s.n s.d 0 / s.d) = true ∧ backB (exV s.a s.r s.n s.d (z - fstT s.R) / s.d) = true := by
 have h0 := times_first h
 constructor
 ·intro hv
  refine ⟨?_, hv _ (List.mem_map.2 ⟨z, List.mem_of_getElem? hz, rfl⟩)⟩
  have := hv _ (List.mem_map.2 ⟨_, List.mem_of_getElem? h0, rfl⟩)
  unfold lnAt at this
  rwa [Int.sub_self] at this
 ·rintro ⟨b0, b1⟩ v hv
  obtain ⟨t, ht, rfl⟩ := List.mem_map.1 hv
  obtain ⟨i, hi⟩ := List.getElem?_of_mem ht
  have g1 := up_get h.up h0 hi (Nat.zero_le _)
  have g2 := up_get h.up hi hz (by have := (List.getElem?_eq_some_iff.1 hi).1; omega)
  exact back_between b0 b1 (line_between (line_d hl) (by omega) (by omega))
theorem last_time {R : List Rn} (h : TimesOk R) : (timesR R)[(timesR R).length - 1]? = some (timeAt R (totalR R - 1)) := by
 have h1 := h.one
 have e := times_get h.cs (p := totalR R - 1) (by have := h.total; omega) (by omega)
 rw [← e]
 congr 1
 have := h.total
 omega
theorem vals_length {s : Sg} (h : segB s = true) : (vals s).length = (timesR s.R).length := by
 have hT := times_ok ((segB_iff s).1 h).1
 rcases segB_kind h with ⟨_, g, e⟩ | ⟨_, _, _, e⟩
 ·rw [e]
  have := ((rawOk_iff s).1 g).2
  have := hT.total
  omega
 ·rw [e, List.length_map]
theorem vals_at {s : Sg} (h : segB s = true) {i : Nat} {t : Int} (hi : (timesR s.R)[i]? = some t) : ∃ v, (vals s)[i]? = some v ∧ backB v = true ∧ (s.k = 4 → s.V[i]? = some v) ∧ (s.k ≠ 4 → v = lnAt s t) := by
 have hl := vals_length h
 have hlt := (List.getElem?_eq_some_iff.1 hi).1
 obtain ⟨v, hv⟩ : ∃ v, (vals s)[i]? = some v := ⟨_, List.getElem?_eq_getElem (by omega)⟩
 refine ⟨v, hv, ((segB_iff s).1 h).2.2.2.2 v (List.mem_of_getElem? hv), fun g => ?_, fun g => ?_⟩
 ·unfold vals at hv; rwa [if_pos g] at hv
 ·unfold vals at hv
  rw [if_neg g, List.getElem?_map, hi] at hv
  exact (Option.some.inj hv).symm
theorem flat_at {s : Sg} (hl : lineB s.a s.r s.n s.d = true) (hn : s.n = 0) (t : Int) : lnAt s t = s.a := by
 obtain ⟨h1, h2, h3, h4, h5⟩ := (lineB_iff _ _ _ _).1 hl
 unfold lnAt exV
 rw [hn, Int.zero_mul, Int.add_zero, Int.add_comm, Int.add_mul_ediv_right _ _ (by omega), Int.ediv_eq_zero_of_lt h4 h5, Int.zero_add]

def minL : List Int → Int
 | [] => 0
 | x :: l => l.foldl min x
def maxL : List Int → Int
 | [] => 0
 | x :: l => l.foldl max x
def sumL (l : List Int) : Int := l.foldl (· + ·) 0
theorem foldl_add (l : List Int) (z : Int) : l.foldl (· + ·) z = z + sumL l := by
 unfold sumL
 induction l generalizing z with
 | nil => simp
 | cons x l ih => simp only [List.foldl_cons]; rw [ih, ih (0 + x)]; omega
theorem sumL_cons (x : Int) (l : List Int) : sumL (x :: l) = x + sumL l := by
 show l.foldl (· + ·) (0 + x) = _
 rw [foldl_add]; omega
theorem sumL_app (l m : List Int) : sumL (l ++ m) = sumL l + sumL m := by
 unfold sumL; rw [List.foldl_append, foldl_add m, foldl_add l]; simp [sumL]
theorem sumL_bound {l : List Int} {M : Int} (h : ∀ v ∈ l, -M ≤ v ∧ v ≤ M) : -(l.length * M) ≤ sumL l ∧ sumL l ≤ l.length * M := by
 induction l with
 | nil => simp [sumL]
 | cons x l ih =>
  have h1 := h x (List.mem_cons_self ..)
  have h2 := ih fun v hv => h v (List.mem_cons_of_mem _ hv)
  rw [sumL_cons, List.length_cons, Int.natCast_add, Int.add_mul]
  omega
theorem minL_app {l m : List Int} (hl : l ≠ []) (hm : m ≠ []) : minL (l ++ m) = min (minL l) (minL m) := by
 have key : ∀ (m : List Int) (x y : Int), m.foldl min (min x y) = min x (m.foldl min y) := by
  intro m
  induction m with
  | nil => intro x y; rfl
  | cons z m ih => intro x y; simp only [List.foldl_cons]; rw [Int.min_assoc, ih]
 cases l with
 | nil => exact absurd rfl hl
 | cons x l =>
  cases m with
  | nil => exact absurd rfl hm
  | cons y m => simp only [minL, List.cons_append, List.foldl_append, List.foldl_cons, key]
theorem maxL_app {l m : List Int} (hl : l ≠ []) (hm : m ≠ []) : maxL (l ++ m) = max (maxL l) (maxL m) := by
 have key : ∀ (m : List Int) (x y : Int), m.foldl max (max x y) = max x (m.foldl max y) := by
  intro m
  induction m with
  | nil => intro x y; rfl
  | cons z m ih => intro x y; simp only [List.foldl_cons]; rw [Int.max_assoc, ih]
 cases l with
 | nil => exact absurd rfl hl
 | cons x l =>
  cases m with
  | nil => exact absurd rfl hm
  | cons y m => simp only [maxL, List.cons_append, List.foldl_append, List.foldl_cons, key]
theorem minL_snoc {l : List Int} (hl : l ≠ []) (x : Int) : minL (l ++ [x]) = min (minL l) x := minL_app hl (by simp)
theorem maxL_snoc {l : List Int} (hl : l ≠ []) (x : Int) : maxL (l ++ [x]) = max (maxL l) x := maxL_app hl (by simp)
theorem minL_is {l : List Int} {x : Int} (hx : x ∈ l) (h : ∀ v ∈ l, x ≤ v) : minL l = x := by
 have key : ∀ (m : List Int) (y : Int), (x ≤ y) → (∀ v ∈ m, x ≤ v) → (y = x ∨ x ∈ m) → m.foldl min y = x := by
  intro m
  induction m with
  | nil => intro y _ _ h3; rcases h3 with h3 | h3; exact h3; simp at h3
  | cons z m ih =>
   intro y h1 h2 h3
   have hz := h2 z (List.mem_cons_self ..)
   simp only [List.foldl_cons]
   refine ih _ (by omega) (fun v hv => h2 v (List.mem_cons_of_mem _ hv)) ?_
   rcases h3 with h3 | h3
   ·exact .inl (by omega)
   ·rcases List.mem_cons.1 h3 with h3 | h3
    ·exact .inl (by omega)
    ·exact .inr h3
 cases l with
 | nil => simp at hx
 | cons y l => exact key l y (h y (List.mem_cons_self ..)) (fun v hv => h v (List.mem_cons_of_mem _ hv)) (by rcases List.mem_cons.1 hx with e | e; exact .inl e.symm; exact .inr e)
theorem maxL_is {l : List Int} {x : Int} (hx : x ∈ l) (h : ∀ v ∈ l, v ≤ x) : maxL l = x := by
 have key : ∀ (m : List Int) (y : Int), (y ≤ x) → (∀ v ∈ m, v ≤ x) → (y = x ∨ x ∈ m) → m.foldl max y = x := by
  intro m
  induction m with
  | nil => intro y _ _ h3; rcases h3 with h3 | h3; exact h3; simp at h3
  | cons z m ih =>
   intro y h1 h2 h3
   have hz := h2 z (List.mem_cons_self ..)
   simp only [List.foldl_cons]
   refine ih _ (by omega) (fun v hv => h2 v (List.mem_cons_of_mem _ hv)) ?_
   rcases h3 with h3 | h3
   ·exact .inl (by omega)
   ·rcases List.mem_cons.1 h3 with h3 | h3
    ·exact .inl (by omega)
    ·exact .inr h3
 cases l with
 | nil => simp at hx
 | cons y l => exact key l y (h y (List.mem_cons_self ..)) (fun v hv => h v (List.mem_cons_of_mem _ hv)) (by rcases List.mem_cons.1 hx with e | e; exact .inl e.symm; exact .inr e)

def cutL (l : List Int) (i j : Nat) : List Int := (l.drop i).take (j - i)
def inP (a b : Int) (p : Int × Int) : Bool := decide (a ≤ p.1) && decide (p.1 ≤ b)
def valsIn (s : Sg) (a b : Int) : List Int := (((timesR s.R).zip (vals s)).filter (inP a b)).map (·.2)
theorem filter_range : ∀ (T V : List Int) (a b : Int), T.Pairwise (· < ·) → V.length = T.length →
  ((T.zip V).filter (inP a b)).map (·.2) = cutL V (belowN T a) (max (belowN T a) (uptoN T b)) := by
 intro T
 induction T with
 | nil => intro V a b _ hl; have : V = [] := List.eq_nil_of_length_eq_zero hl; subst this; rfl
 | cons t T ih =>
  intro V a b hp hl
  obtain ⟨h1, h2⟩ := List.pairwise_cons.1 hp
  cases V with
  | nil => simp at hl
  | cons v V =>
   have ih' := ih V a b h2 (by simpa using hl)
   have e1 : belowN (t :: T) a = (if t < a then 1 else 0) + belowN T a := by unfold belowN; by_cases g : t < a <;> simp [g]; omega
   have e2 : uptoN (t :: T) b = (if t ≤ b then 1 else 0) + uptoN T b := by unfold uptoN; by_cases g : t ≤ b <;> simp [g]; omega
   have z1 : ¬ t < a → belowN T a = 0 := fun g => by
    unfold belowN
    rw [List.length_eq_zero_iff, List.filter_eq_nil_iff]
    intro x hx; have := h1 x hx; simp; omega
   have z2 : ¬ t ≤ b → uptoN T b = 0 := fun g => by
    unfold uptoN
    rw [List.length_eq_zero_iff, List.filter_eq_nil_iff]
    intro x hx; have := h1 x hx; simp; omega
   rw [List.zip_cons_cons, List.filter_cons]
   by_cases g1 : t < a
   ·have e : inP a b (t, v) = false := by unfold inP; simp; omega
    rw [e, if_neg (by simp), ih', e1, e2, if_pos g1]
    unfold cutL
    by_cases g2 : t ≤ b
    ·rw [if_pos g2, show 1 + belowN T a = belowN T a + 1 by omega, List.drop_succ_cons]
     congr 1; omega
    ·rw [if_neg g2, z2 g2, show 1 + belowN T a = belowN T a + 1 by omega, List.drop_succ_cons]
     congr 1; omega
   ·have zz := z1 g1
    by_cases g2 : t ≤ b
    ·have e : inP a b (t, v) = true := by unfold inP; simp; omega
     rw [e, if_pos rfl, List.map_cons, ih', e1, e2, if_neg g1, if_pos g2, zz]
     unfold cutL
     simp only [Nat.add_zero, Nat.zero_max, List.drop_zero, Nat.sub_zero]
     rw [show 1 + uptoN T b = uptoN T b + 1 by omega, List.take_succ_cons]
    ·have e : inP a b (t, v) = false := by unfold inP; simp; omega
     rw [e, if_neg (by simp), ih', e1, e2, if_neg g1, if_neg g2, zz, z2 g2]
     unfold cutL
     simp
theorem valsIn_cut {s : Sg} (h : segB s = true) (a b : Int) : valsIn s a b = cutL (vals s) (belowN (timesR s.R) a) (max (belowN (timesR s.R) a) (uptoN (timesR s.R) b)) :=
 filter_range _ _ a b (times_ok ((segB_iff s).1 h).1).up (vals_length h)
end Go.Proofs.YtcfidimnbamnkaaGreat.P11
