/-
 Layer 11: what a segment is, and what its values are: plain numbers. Conditions: those written at each fact.
-/
import Derived.Test.YtcfidimnbamnkaaGreatNC
import Derived.Test.YtcfidimnbamnkaaGreatLC
import Derived.Test.YtcfidimnbamnkaaGreatFsA
namespace Go.Proofs.YtcfidimnbamnkaaGreat.P11
open Go.RowKit Go.Proofs.YtcfidimnbamnkaaGreat.P7

structure Sg where
 k : Int
 R : List Rn
 a : Int
 r : Int
 n : Int
 d : Int
 V : List Int
 e : Int
def fstT : List Rn → Int
 | [] => 0
 | x :: _ => x.f
def kindL (n r : Int) : Int := if n = 0 then 1 else if r = 0 then 2 else 3
def kindK (a r n d : Int) : Int := if lineB a r n d then kindL n r else 0
def lnAt (s : Sg) (t : Int) : Int := exV s.a s.r s.n s.d (t - fstT s.R) / s.d
def vals (s : Sg) : List Int := if s.k = 4 then s.V else (timesR s.R).map (lnAt s)
def backs (V : List Int) : Bool := V.all backB
theorem backs_iff (V : List Int) : backs V = true ↔ ∀ v ∈ V, backB v = true := by unfold backs; simp
def lineOk (s : Sg) : Bool := decide (s.V = []) && (lineB s.a s.r s.n s.d && decide (s.k = kindL s.n s.r))
def rawOk (s : Sg) : Bool := decide (s.a = 0 ∧ s.r = 0 ∧ s.n = 0 ∧ s.d = 0) && decide ((s.V.length : Int) = totalR s.R)
def segB (s : Sg) : Bool := okB s.R && (decide (0 ≤ s.e) && (decide (s.e ≤ 1099511627776) && ((if s.k = 4 then rawOk s else lineOk s) && backs (vals s))))
theorem kindL_cases (n r : Int) : kindL n r = 1 ∧ n = 0 ∨ kindL n r = 2 ∧ n ≠ 0 ∧ r = 0 ∨ kindL n r = 3 ∧ n ≠ 0 ∧ r ≠ 0 := by
 unfold kindL
 by_cases h : n = 0
 ·rw [if_pos h]; exact .inl ⟨rfl, h⟩
 ·rw [if_neg h]
  by_cases h2 : r = 0
  ·rw [if_pos h2]; exact .inr (.inl ⟨rfl, h, h2⟩)
  ·rw [if_neg h2]; exact .inr (.inr ⟨rfl, h, h2⟩)
theorem lineOk_iff (s : Sg) : lineOk s = true ↔ s.V = [] ∧ lineB s.a s.r s.n s.d = true ∧ s.k = kindL s.n s.r := by unfold lineOk; simp
theorem rawOk_iff (s : Sg) : rawOk s = true ↔ (s.a = 0 ∧ s.r = 0 ∧ s.n = 0 ∧ s.d = 0) ∧ (s.V.length : Int) = totalR s.R := by unfold rawOk; simp
theorem segB_iff (s : Sg) : segB s = true ↔ okB s.R = true ∧ 0 ≤ s.e ∧ s.e ≤ 1099511627776 ∧ (if s.k = 4 then rawOk s else lineOk s) = true ∧ ∀ v ∈ vals s, backB v = true := by
 unfold segB; simp only [Bool.and_eq_true, decide_eq_true_eq, backs_iff]
theorem segB_kind {s : Sg} (h : segB s = true) : s.k = 4 ∧ rawOk s = true ∧ vals s = s.V ∨ (s.k = 1 ∨ s.k = 2 ∨ s.k = 3) ∧ s.k ≠ 4 ∧ lineOk s = true ∧ vals s = (timesR s.R).map (lnAt s) := by
 obtain ⟨_, _, _, h4, _⟩ := (segB_iff s).1 h
 by_cases g : s.k = 4
 ·rw [if_pos g] at h4
  exact .inl ⟨g, h4, by unfold vals; rw [if_pos g]⟩
 ·rw [if_neg g] at h4
  have := ((lineOk_iff s).1 h4).2.2
  refine .inr ⟨?_, g, h4, by unfold vals; rw [if_neg g]⟩
  have := kindL_cases s.n s.r
  omega
structure TimesOk (R : List Rn) : Prop where
 one : 1 ≤ (timesR R).length
 few : (timesR R).length ≤ 256
 total : ((timesR R).length : Int) = totalR R
 cs : ∀ r ∈ R, 1 ≤ r.c
 oks : ∀ r ∈ R, RunOk r
 ne : R ≠ []
 runs : R.length ≤ 256
 times : ∀ t ∈ timesR R, 0 ≤ t ∧ t ≤ 281474976710656
 up : (timesR R).Pairwise (· < ·)
theorem times_ok {R : List Rn} (h : okB R = true) : TimesOk R := by
 obtain ⟨f1, f2, f3, f4⟩ := okB_facts h
 have h1c : ∀ r ∈ R, 1 ≤ r.c := fun r hr => (f2 r hr).1
 obtain ⟨g1, g2, g3⟩ := (areB_iff _).1 (times_are h)
 exact ⟨g1, g2, timesR_length (fun r hr => by have := h1c r hr; omega), h1c, f2, f1, f4, g3.1, g3.2⟩
theorem times_first {R : List Rn} (h : TimesOk R) : (timesR R)[0]? = some (fstT R) := by
 cases R with
 | nil => exact absurd rfl h.ne
 | cons x l =>
  have := h.cs x (List.mem_cons_self ..)
  obtain ⟨m, hm⟩ : ∃ m, x.c.toNat = m + 1 := ⟨x.c.toNat - 1, by omega⟩
  simp [timesR, hm, stepsR, fstT]
theorem up_get {l : List Int} (h : l.Pairwise (· < ·)) {i j : Nat} {x y : Int} (hi : l[i]? = some x) (hj : l[j]? = some y) (hij : i ≤ j) : x ≤ y := by
 obtain ⟨a1, rfl⟩ := List.getElem?_eq_some_iff.1 hi
 obtain ⟨b1, rfl⟩ := List.getElem?_eq_some_iff.1 hj
 by_cases e : i = j
 ·subst e; exact Int.le_refl _
 ·exact Int.le_of_lt (List.pairwise_iff_getElem.1 h i j a1 b1 (by omega))
theorem since_time {R : List Rn} (h : TimesOk R) {i : Nat} {t : Int} (hi : (timesR R)[i]? = some t) : 0 ≤ t - fstT R ∧ t - fstT R ≤ 281474976710656 ∧ timeB (t - fstT R) = true ∧ 0 ≤ fstT R ∧ fstT R ≤ t ∧ t ≤ 281474976710656 := by
 have h1 := up_get h.up (times_first h) hi (Nat.zero_le _)
 have h2 := h.times t (List.mem_of_getElem? hi)
 have h3 := h.times _ (List.mem_of_getElem? (times_first h))
 have e : 0 ≤ t - fstT R ∧ t - fstT R ≤ 281474976710656 := by omega
 exact ⟨e.1, e.2, (timeB_iff _).2 e, h3.1, h1, h2.2⟩
theorem ex_between {a r n d x y t : Int} (h1 : x ≤ t) (h2 : t ≤ y) : exV a r n d x ≤ exV a r n d t ∧ exV a r n d t ≤ exV a r n d y ∨ exV a r n d y ≤ exV a r n d t ∧ exV a r n d t ≤ exV a r n d x := by
 unfold exV
 by_cases h : 0 ≤ n
 ·have e1 := Int.mul_le_mul_of_nonneg_left h1 h
  have e2 := Int.mul_le_mul_of_nonneg_left h2 h
  exact .inl ⟨by omega, by omega⟩
 ·have e1 := Int.mul_le_mul_of_nonpos_left (a := n) (by omega) h1
  have e2 := Int.mul_le_mul_of_nonpos_left (a := n) (by omega) h2
  exact .inr ⟨by omega, by omega⟩
theorem line_between {a r n d x y t : Int} (hd : 1 ≤ d) (h1 : x ≤ t) (h2 : t ≤ y) : min (exV a r n d x / d) (exV a r n d y / d) ≤ exV a r n d t / d ∧ exV a r n d t / d ≤ max (exV a r n d x / d) (exV a r n d y / d) := by
 have mono : ∀ p q : Int, p ≤ q → p / d ≤ q / d := fun p q hpq => Int.ediv_le_ediv (by omega) hpq
 rcases ex_between (a := a) (r := r) (n := n) (d := d) h1 h2 with ⟨e1, e2⟩ | ⟨e1, e2⟩
 ·have := mono _ _ e1; have := mono _ _ e2; omega
 ·have := mono _ _ e1; have := mono _ _ e2; omega
theorem back_between {p q v : Int} (hp : backB p = true) (hq : backB q = true) (h : min p q ≤ v ∧ v ≤ max p q) : backB v = true := by
 rw [backB_iff] at *; omega
theorem line_d {a r n d : Int} (h : lineB a r n d = true) : 1 ≤ d := ((slopeB_iff _ _).1 ((lineB_iff _ _ _ _).1 h).1).2.2.1
theorem ends_all {s : Sg} (h : TimesOk s.R) (hl : lineB s.a s.r s.n s.d = true) {z : Int} (hz : (timesR s.R)[(timesR s.R).length - 1]? = some z)
  : (∀ v ∈ (timesR s.R).map (lnAt s), backB v = true) ↔ backB (exV s.a s.r s.n s.d 0 / s.d) = true ∧ backB (exV s.a s.r s.n s.d (z - fstT s.R) / s.d) = true := by
 have h0 := times_first h
 constructor
 ·intro hv
  refine ⟨?_, hv _ (List.mem_map.2 ⟨z, List.mem_of_getElem? hz, rfl⟩)⟩
  have := hv _ (List.mem_map.2 ⟨_, List.mem_of_getElem? h0, rfl⟩)
  unfold lnAt at this
  rwa [Int.sub_self] at this
 ·rintro ⟨b0, b1⟩ v hv
  obtain ⟨t, ht, rfl⟩ := List.mem_map.1 hv
  obtain ⟨i, hi⟩ := List.getElem?_of_mem ht
  have g1 := up_get h.up h0 hi (Nat.zero_le _)
  have g2 := up_get h.up hi hz (by have := (List.getElem?_eq_some_iff.1 hi).1; omega)
  exact back_between b0 b1 (line_between (line_d hl) (by omega) (by omega))
theorem last_time {R : List Rn} (h : TimesOk R) : (timesR R)[(timesR R).length - 1]? = some (timeAt R (totalR R - 1)) := by
 have h1 := h.one
 have e := times_get h.cs (p := totalR R - 1) (by have := h.total; omega) (by omega)
 rw [← e]
 congr 1
 have := h.total
 omega
end Go.Proofs.YtcfidimnbamnkaaGreat.P11
