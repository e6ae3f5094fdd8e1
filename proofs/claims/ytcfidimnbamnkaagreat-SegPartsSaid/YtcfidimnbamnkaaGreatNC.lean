/-
 Layer 7: runs: the runs of the times of rows of runs are laid. Conditions: those written at each fact.
-/
import Derived.Test.YtcfidimnbamnkaaGreatNB
import Derived.Test.YtcfidimnbamnkaaGreatNA
import Derived.WalkMore
namespace Go.Proofs.YtcfidimnbamnkaaGreat.P7
open Go.RowKit Go.Shelf

end Go.Proofs.YtcfidimnbamnkaaGreat.P7

/-
 Layer 7: runs: the times of pieces. Conditions: those written at each fact.
-/
namespace Go.Proofs.YtcfidimnbamnkaaGreat.P7
open Go.RowKit Go.Shelf

theorem steps_app (f s : Int) (m n : Nat) : stepsR f s (m + n) = stepsR f s m ++ stepsR (f + m * s) s n := by
 induction m generalizing f with
 | zero => simp [stepsR]
 | succ m ih =>
  rw [show m + 1 + n = (m + n) + 1 by omega]
  simp only [stepsR, List.cons_append]
  rw [ih]
  have e : f + s + (m : Int) * s = f + ((m + 1 : Nat) : Int) * s := by rw [Int.natCast_add, Int.add_mul]; omega
  rw [e]
theorem steps_take (f s : Int) {m n : Nat} (h : m ≤ n) : (stepsR f s n).take m = stepsR f s m := by
 obtain ⟨k, rfl⟩ : ∃ k, n = m + k := ⟨n - m, by omega⟩
 rw [steps_app, List.take_left' (steps_length f s m)]
theorem steps_drop (f s : Int) {m n : Nat} (h : m ≤ n) : (stepsR f s n).drop m = stepsR (f + m * s) s (n - m) := by
 obtain ⟨k, rfl⟩ : ∃ k, n = m + k := ⟨n - m, by omega⟩
 rw [steps_app, List.drop_left' (steps_length f s m), show m + k - m = k by omega]
theorem steps_get (f s : Int) {k n : Nat} (h : k < n) : (stepsR f s n)[k]? = some (f + k * s) := by
 obtain ⟨m, rfl⟩ : ∃ m, n = k + (m + 1) := ⟨n - k - 1, by omega⟩
 rw [steps_app, List.getElem?_append_right (by rw [steps_length]; exact Nat.le_refl _), steps_length, Nat.sub_self]
 rfl
theorem steps_mem {f s t : Int} {n : Nat} (h : t ∈ stepsR f s n) : ∃ k : Nat, k < n ∧ t = f + k * s := by
 obtain ⟨k, hk⟩ := List.mem_iff_getElem?.1 h
 have hlt : k < n := by have := (List.getElem?_eq_some_iff.1 hk).1; rwa [steps_length] at this
 rw [steps_get f s hlt] at hk
 exact ⟨k, hlt, (Option.some.inj hk).symm⟩
theorem timesR_app : ∀ (l m : List Rn), timesR (l ++ m) = timesR l ++ timesR m
 | [], m => rfl
 | r :: l, m => by simp only [List.cons_append, timesR, timesR_app l m, List.append_assoc]
theorem totalR_app : ∀ (l m : List Rn), totalR (l ++ m) = totalR l + totalR m
 | [], m => by simp [totalR]
 | r :: l, m => by simp only [List.cons_append, totalR, totalR_app l m]; omega
theorem run_times {r : Rn} (h : RunOk r) : ∀ t ∈ stepsR r.f r.s r.c.toNat, 0 ≤ t ∧ t ≤ 281474976710656 := by
 intro t ht
 obtain ⟨k, hk, rfl⟩ := steps_mem ht
 obtain ⟨h1, h2, h3, h4, h5, h6, h7⟩ := h
 have a1 : 0 ≤ (k : Int) * r.s := Int.mul_nonneg (by omega) h4
 have a2 : (k : Int) * r.s ≤ (r.c - 1) * r.s := Int.mul_le_mul_of_nonneg_right (by omega) h4
 omega
theorem times_all : ∀ {l : List Rn}, (∀ r ∈ l, RunOk r) → ∀ t ∈ timesR l, 0 ≤ t ∧ t ≤ 281474976710656
 | [], _, t, ht => by simp [timesR] at ht
 | r :: l, h, t, ht => by
  simp only [timesR, List.mem_append] at ht
  rcases ht with ht | ht
  ·exact run_times (h r (List.mem_cons_self ..)) t ht
  ·exact times_all (l := l) (fun x hx => h x (List.mem_cons_of_mem _ hx)) t ht
theorem where_len : ∀ {l : List Rn} {p : Int}, (∀ r ∈ l, 1 ≤ r.c) → 0 ≤ p → p < totalR l → ((timesR (l.take (whereR l p).1)).length : Int) + (whereR l p).2 = p
 | [], p, _, h0, h1 => by simp only [totalR] at h1; omega
 | r :: l, p, h, h0, h1 => by
  simp only [totalR] at h1
  unfold whereR
  split
  ·simp [timesR]
  ·next e =>
   have := where_len (l := l) (p := p - r.c) (fun x hx => h x (List.mem_cons_of_mem _ hx)) (by omega) (by omega)
   have hc := h r (List.mem_cons_self ..)
   simp only [List.take_succ_cons, timesR, List.length_append, steps_length]
   omega
def timeAt (l : List Rn) (i : Int) : Int := match l[(whereR l i).1]? with | some r => r.f + (whereR l i).2 * r.s | none => 0
theorem times_get {l : List Rn} {p : Int} (h : ∀ r ∈ l, 1 ≤ r.c) (h0 : 0 ≤ p) (h1 : p < totalR l) : (timesR l)[p.toNat]? = some (timeAt l p) := by
 obtain ⟨r, a1, a2, a3⟩ := whereR_lt h h0 h1
 have hw := where_len h h0 h1
 have ht : timeAt l p = r.f + (whereR l p).2 * r.s := by unfold timeAt; rw [a1]
 rw [ht]
 generalize whereR l p = x at *
 obtain ⟨k, q⟩ := x
 simp only at a1 a2 a3 hw ⊢
 have hl : l = l.take k ++ r :: l.drop (k + 1) := by rw [← drop_of a1, List.take_append_drop]
 have e : timesR l = timesR (l.take k) ++ (stepsR r.f r.s r.c.toNat ++ timesR (l.drop (k + 1))) := by
  conv => lhs; rw [hl]
  rw [timesR_app]; rfl
 rw [e, List.getElem?_append_right (by omega), List.getElem?_append_left (by rw [steps_length]; omega), steps_get _ _ (by omega)]
 congr 2
 congr 1
 omega
theorem set_last {α : Type} {m : List α} {x y : α} (h : m[m.length - 1]? = some x) : m = m.take (m.length - 1) ++ [x] ∧ m.set (m.length - 1) y = m.take (m.length - 1) ++ [y] := by
 have hlt := (List.getElem?_eq_some_iff.1 h).1
 have e : m = m.take (m.length - 1) ++ [x] := by
  conv => lhs; rw [← List.take_append_drop (m.length - 1) m]
  congr 1
  rw [List.drop_eq_getElem_cons hlt, (List.getElem?_eq_some_iff.1 h).2, show m.length - 1 + 1 = m.length by omega, List.drop_length]
 refine ⟨e, ?_⟩
 have hl : (m.take (m.length - 1)).length = m.length - 1 := by rw [List.length_take]; omega
 have e2 : m.set (m.length - 1) y = (m.take (m.length - 1) ++ [x]).set (m.length - 1) y := congrArg (fun z => List.set z (m.length - 1) y) e
 rw [e2, List.set_append_right _ _ (by omega), hl, Nat.sub_self]
 rfl
theorem first_trim {r : Rn} {t : List Rn} {p : Int} (h0 : 0 ≤ p) (h1 : p ≤ r.c) : timesR (⟨r.f + p * r.s, r.s, r.c - p⟩ :: t) = (timesR (r :: t)).drop p.toNat := by
 simp only [timesR]
 rw [List.drop_append_of_le_length (by rw [steps_length]; omega), steps_drop _ _ (by omega)]
 congr 2
 ·rw [Int.toNat_of_nonneg h0]
 ·omega
theorem pieces_facts {l : List Rn} (hR : ∀ r ∈ l, RunOk r) {i j : Int} (g1 : 0 ≤ i) (g2 : i < j) (g3 : j ≤ totalR l) :
  timesR (piecesR l i j) = ((timesR l).drop i.toNat).take (j - i).toNat ∧ (∀ r ∈ piecesR l i j, RunOk r) ∧ (piecesR l i j).length ≤ l.length := by
 have hc : ∀ r ∈ l, 1 ≤ r.c := fun r hr => (hR r hr).1
 obtain ⟨ra, a1, a2, a3⟩ := whereR_lt hc g1 (show i < totalR l by omega)
 obtain ⟨rb, b1, b2, b3⟩ := whereR_lt hc (show 0 ≤ j - 1 by omega) (show j - 1 < totalR l by omega)
 have hab := whereR_mono (l := l) (show i ≤ j - 1 by omega)
 have wa := where_len hc g1 (show i < totalR l by omega)
 have wb := where_len hc (show 0 ≤ j - 1 by omega) (show j - 1 < totalR l by omega)
 have EQ : piecesR l i j = trimR ((l.drop (whereR l i).1).take ((whereR l (j - 1)).1 + 1 - (whereR l i).1)) (whereR l i).2 (whereR l (j - 1)).2 := rfl
 rw [EQ]
 generalize whereR l i = xa at *
 generalize whereR l (j - 1) = xb at *
 obtain ⟨a, p⟩ := xa
 obtain ⟨b, q⟩ := xb
 simp only at a1 a2 a3 b1 b2 b3 hab wa wb ⊢
 have hal : a < l.length := (List.getElem?_eq_some_iff.1 a1).1
 have hbl : b < l.length := (List.getElem?_eq_some_iff.1 b1).1
 have hml : ((l.drop a).take (b + 1 - a)).length = b + 1 - a := by rw [List.length_take, List.length_drop]; omega
 have hm0 : ((l.drop a).take (b + 1 - a))[0]? = some ra := by rw [List.getElem?_take, if_pos (by omega), List.getElem?_drop]; exact a1
 have hmj : ((l.drop a).take (b + 1 - a))[b + 1 - a - 1]? = some rb := by rw [List.getElem?_take, if_pos (by omega), List.getElem?_drop, show a + (b + 1 - a - 1) = b by omega]; exact b1
 have hsplit : l = l.take a ++ ((l.drop a).take (b + 1 - a) ++ l.drop (b + 1)) := by
  conv => lhs; rw [← List.take_append_drop a l, ← List.take_append_drop (b + 1 - a) (l.drop a)]
  rw [List.drop_drop, show a + (b + 1 - a) = b + 1 by omega]
 have hmt : (l.drop a).take (b + 1 - a - 1) = (l.drop a).take (b - a) := by rw [show b + 1 - a - 1 = b - a by omega]
 have htb : l.take b = l.take a ++ (l.drop a).take (b - a) := by
  have : b = a + (b - a) := by omega
  conv => lhs; rw [this, List.take_add]
 have hmm : ∀ r ∈ (l.drop a).take (b + 1 - a), RunOk r := fun r hr => hR r (List.mem_of_mem_drop (List.mem_of_mem_take hr))
 have hmt2 : ((l.drop a).take (b + 1 - a)).take (b + 1 - a - 1) = (l.drop a).take (b - a) := by rw [List.take_take, ← hmt, Nat.min_eq_left (by omega)]
 have hRa : RunOk ra := hR ra (List.mem_of_getElem? a1)
 have hRb : RunOk rb := hR rb (List.mem_of_getElem? b1)
 have hsame : a = b → ra = rb ∧ p ≤ q := fun e => by
  subst e
  rw [a1] at b1
  exact ⟨Option.some.inj b1, by omega⟩
 have hlen : (timesR (l.take b)).length = (timesR (l.take a)).length + (timesR ((l.drop a).take (b - a))).length := by rw [htb, timesR_app, List.length_append]
 replace hmj : ((l.drop a).take (b + 1 - a))[((l.drop a).take (b + 1 - a)).length - 1]? = some rb := by rw [hml]; exact hmj
 replace hmt2 : ((l.drop a).take (b + 1 - a)).take (((l.drop a).take (b + 1 - a)).length - 1) = (l.drop a).take (b - a) := by rw [hml]; exact hmt2
 generalize (l.drop a).take (b + 1 - a) = m at *
 obtain ⟨s1, s2⟩ := set_last (y := (⟨rb.f, rb.s, q + 1⟩ : Rn)) hmj
 rw [hmt2] at s1 s2
 generalize (l.drop a).take (b - a) = d at *
 have htm : timesR m = timesR d ++ stepsR rb.f rb.s rb.c.toNat := by
  conv => lhs; rw [s1]
  rw [timesR_app]; simp [timesR]
 have htm1 : timesR (m.set (m.length - 1) ⟨rb.f, rb.s, q + 1⟩) = (timesR m).take ((timesR d).length + (q + 1).toNat) := by
  rw [s2, timesR_app, htm, List.take_append, List.take_of_length_le (by omega), show (timesR d).length + (q + 1).toNat - (timesR d).length = (q + 1).toNat by omega, steps_take _ _ (by omega)]
  simp [timesR]
 have hm1 : ∃ c0 t, m.set (m.length - 1) ⟨rb.f, rb.s, q + 1⟩ = ⟨ra.f, ra.s, c0⟩ :: t ∧ p < c0 ∧ c0 ≤ ra.c ∧ (∀ r ∈ t, RunOk r) := by
  cases m with
  | nil => simp at hm0
  | cons x t =>
   simp at hm0
   subst hm0
   cases t with
   | nil =>
    simp at hml
    obtain ⟨e1, e2⟩ := hsame (by omega)
    subst e1
    exact ⟨q + 1, [], rfl, by omega, by omega, fun r hr => by simp at hr⟩
   | cons y t =>
    refine ⟨x.c, (y :: t).set ((y :: t).length - 1) ⟨rb.f, rb.s, q + 1⟩, ?_, a3, Int.le_refl _, fun r hr => ?_⟩
    ·simp [List.set_cons_succ]
    ·rcases List.mem_or_eq_of_mem_set hr with hr | rfl
     ·exact hmm r (List.mem_cons_of_mem _ hr)
     ·obtain ⟨h1, h2, h3, h4, h5, h6, h7⟩ := hRb
      have : q * rb.s ≤ (rb.c - 1) * rb.s := Int.mul_le_mul_of_nonneg_right (by omega) h4
      exact ⟨by simp only; omega, by simp only; omega, h3, h4, h5, by simp only; rw [show q + 1 - 1 = q by omega]; omega, h7⟩
 obtain ⟨c0, t, e1, e2, e3, e4⟩ := hm1
 have hT : trimR m p q = ⟨ra.f + p * ra.s, ra.s, c0 - p⟩ :: t := by
  unfold trimR
  rw [hmj]
  simp only
  rw [e1]
 have hft := first_trim (r := ⟨ra.f, ra.s, c0⟩) (t := t) a2 (show p ≤ c0 by omega)
 simp only at hft
 refine ⟨?_, ?_, ?_⟩
 ·have hR2 : (timesR l).drop i.toNat = (timesR m ++ timesR (l.drop (b + 1))).drop p.toNat := by
   conv => lhs; rw [hsplit, timesR_app, timesR_app]
   rw [show i.toNat = (timesR (l.take a)).length + p.toNat by omega, List.drop_append, List.drop_of_length_le (by omega), List.nil_append, show (timesR (l.take a)).length + p.toNat - (timesR (l.take a)).length = p.toNat by omega]
  have hml2 : (timesR m).length = (timesR d).length + rb.c.toNat := by rw [htm, List.length_append, steps_length]
  rw [hT, hft, ← e1, htm1, hR2, List.drop_take, List.drop_append_of_le_length (by omega), List.take_append_of_le_length (by rw [List.length_drop]; omega)]
  congr 1
  omega
 ·rw [hT]
  intro r hr
  rcases List.mem_cons.1 hr with rfl | hr
  ·obtain ⟨h1, h2, h3, h4, h5, h6, h7⟩ := hRa
   have h8 : 0 ≤ p * ra.s := Int.mul_nonneg a2 h4
   have h9 : (c0 - 1) * ra.s ≤ (ra.c - 1) * ra.s := Int.mul_le_mul_of_nonneg_right (by omega) h4
   have h10 : (c0 - p - 1) * ra.s = (c0 - 1) * ra.s - p * ra.s := by rw [show c0 - p - 1 = (c0 - 1) - p by omega, Int.sub_mul]
   have h11 : 0 ≤ (c0 - p - 1) * ra.s := Int.mul_nonneg (by omega) h4
   exact ⟨by simp only; omega, by simp only; omega, by simp only; omega, h4, h5, by simp only; omega, by simp only; omega⟩
  ·exact e4 r hr
 ·rw [hT]
  have h5 : (m.set (m.length - 1) ⟨rb.f, rb.s, q + 1⟩).length = m.length := List.length_set ..
  rw [e1] at h5
  simp only [List.length_cons] at h5 ⊢
  omega
end Go.Proofs.YtcfidimnbamnkaaGreat.P7

/-
 Layer 7: runs: At, Pieces and Cut, with the error by which each is left. Conditions: those written at each fact.
-/
namespace Go.Proofs.YtcfidimnbamnkaaGreat.P7
open Go.RowKit Go.Shelf

def codeA (l : List Rn) (i : Int) : Int := if okB l then (if 0 ≤ i ∧ i < totalR l then 0 else 4) else 170
def codeP (l : List Rn) (i j : Int) : Int := if okB l then (if 0 ≤ i ∧ i < j ∧ j ≤ totalR l then 0 else 2) else 170
def valA (l : List Rn) (i : Int) : Int := if codeA l i = 0 then timeAt l i else 0
set_option maxHeartbeats 1000000 in
theorem at1_any (l : List Rn) (hl : l.length ≤ 1000000) (i : Int) (v : Value) (W : World) (B Bi : Nat) (hb : Boxed W B 22 v) (hbi : Boxed W Bi 3 (.int .i64 i)) (h : ReadsR W v l) :
  Calls Tryz.prog 124 #[.pointer (some ⟨B, 0, none⟩), .pointer (some ⟨Bi, 0, none⟩)] W (Throws W (fun x _ => codeA l i = 0 ∧ x = .int .i64 (timeAt l i)) (fun code => codeA l i = code ∧ ¬ code = 0)) := by
 have CA := Lib.hid (count_any l (by omega) v W h)
 have hr := h
 obtain ⟨A, c, rfl, hc, hk⟩ := h
 have hcl := hb.cell
 have hci := hbi.cell
 have hbl := hb.lt
 have hbil := hbi.lt
 clear hb hbi
 cases gk : okB l
 ·have HK := Lib.hid gk
  have HC : Hid (codeA l i = 170) := Lib.hid (by simp [codeA, gk])
  clear gk
  go_enter Tryz.func124, Tryz.ntmps124
  go_wp2_with (go_at_call 117; refine CA.out.mono ?_; rintro e w1 ⟨he, hb⟩; rw [HK.out] at he; replace he : e = thrown 170 := he; subst he)
  exact ⟨rfl, hb, .inr ⟨170, rfl, HC.out, by decide⟩⟩
 obtain ⟨hne, hR, hT, hl2⟩ := okB_facts gk
 have CB : Hid (Calls Tryz.prog 117 #[.slice A l.length c] W (Ret W (.int .i64 (totalR l)))) := Lib.hid (CA.out.mono fun e w' he => ⟨by rw [he.1, gk]; rfl, he.2⟩)
 have HN := Lib.hid (show (if 0 ≤ i ∧ i < totalR l then (0 : Int) else 4) = codeA l i by simp [codeA, gk])
 clear gk CA
 obtain ⟨n, hn⟩ : ∃ n, n = totalR l := ⟨_, rfl⟩
 rw [← hn] at CB hT HN
 by_cases g0 : 0 ≤ i
 ·have d0 : decide (0 ≤ i) = true := by simpa using g0
  by_cases g1 : i < n
  ·have HC : Hid (codeA l i = 0) := Lib.hid (by rw [← HN.out, if_pos ⟨g0, g1⟩])
   have hc1 : ∀ r ∈ l, 1 ≤ r.c := fun r hr => (hR r hr).1
   have WA := Lib.hid (fun W' (hb' : Below W.heap.size W W') => where_any l hl hR i g0 (by omega) (by omega) _ W' (hr.below hb'))
   obtain ⟨⟨f, s, d⟩, a1, a2, a3⟩ := whereR_lt (l := l) hc1 g0 (by omega)
   have HT : Hid (timeAt l i = f + (whereR l i).2 * s) := Lib.hid (by unfold timeAt; rw [a1])
   generalize whereR l i = x at *
   obtain ⟨k, q⟩ := x
   simp only at a1 a2 a3 WA HT
   obtain ⟨o1, o2, o3, o4, o5, o6, o7⟩ : RunOk ⟨f, s, d⟩ := hR _ (List.mem_of_getElem? a1)
   simp only at o1 o2 o3 o4 o5 o6 o7
   have NT := Lib.hid (nth_at f s d q a2 (by omega) (by omega) o5 o3 o7)
   have MT := Lib.hid (must_true 4)
   obtain ⟨bb, off, rfl, hbw, e3, e4, e5⟩ := hk k _ a1
   simp only at e3 e4 e5
   have hkl : k < l.length := (List.getElem?_eq_some_iff.1 a1).1
   have i1 : (k : Int) < (l.length : Int) := by omega
   have i2 : (0 : Int) ≤ (k : Int) := by omega
   clear hk hR hc1 a1 hn HN hne
   go_enter Tryz.func124, Tryz.ntmps124
   go_wp2_with fail
   refine CB.out.mono ?_
   rintro e w1 ⟨rfl, hb1⟩
   have q1 := (hb1.cell (p := ⟨Bi, 0, none⟩) hbil).trans hci
   go_wp2_with fail
   refine (MT.out _).mono ?_
   rintro e w2 ⟨rfl, hb2⟩
   have hb12 := under hb1 hb2
   have q2 := (hb12.cell (p := ⟨Bi, 0, none⟩) hbil).trans hci
   have q3 := (hb12.cell (p := ⟨B, 0, none⟩) hbl).trans hcl
   go_wp2_with fail
   refine (WA.out _ hb12).mono ?_
   rintro e w3 ⟨rfl, hb3⟩
   have hb13 := under hb12 hb3
   have q4 := (hb13.cell (p := ⟨B, 0, none⟩) hbl).trans hcl
   have q5 := (hb13.cell (p := ⟨bb, off + k * 3, none⟩) hbw).trans e3
   have q6 := (hb13.cell (p := ⟨bb, off + k * 3 + 1, none⟩) hbw).trans e4
   have q7 := (hb13.cell (p := ⟨bb, off + k * 3 + 2, none⟩) hbw).trans e5
   go_wp2_with fail
   refine (NT.out _).mono ?_
   rintro e w4 ⟨rfl, hb4⟩
   go_wp2_with fail
   go_ret
   exact ⟨under hb13 hb4, .inl ⟨_, rfl, HC.out, by rw [HT.out]; rfl⟩⟩
  ·have HC : Hid (codeA l i = 4) := Lib.hid (by rw [← HN.out, if_neg (fun h => g1 h.2)])
   have HD := Lib.hid (decide_eq_false g1)
   have MF := Lib.hid (must_false 4)
   clear g1 hn HN
   go_enter Tryz.func124, Tryz.ntmps124
   go_wp2_with fail
   refine CB.out.mono ?_
   rintro e w1 ⟨rfl, hb1⟩
   have q1 := (hb1.cell (p := ⟨Bi, 0, none⟩) hbil).trans hci
   go_wp2_with fail
   rw [HD.out]
   refine (MF.out _).mono ?_
   rintro e w2 ⟨rfl, hb2⟩
   go_wp2_with fail
   exact ⟨rfl, under hb1 hb2, .inr ⟨4, rfl, HC.out, by decide⟩⟩
 ·have HC : Hid (codeA l i = 4) := Lib.hid (by rw [← HN.out, if_neg (fun h => g0 h.1)])
  have MF := Lib.hid (must_false 4)
  clear hn HN
  go_enter Tryz.func124, Tryz.ntmps124
  go_wp2_with fail
  refine CB.out.mono ?_
  rintro e w1 ⟨rfl, hb1⟩
  have q1 := (hb1.cell (p := ⟨Bi, 0, none⟩) hbil).trans hci
  go_wp2_with fail
  refine (MF.out _).mono ?_
  rintro e w2 ⟨rfl, hb2⟩
  go_wp2_with fail
  exact ⟨rfl, under hb1 hb2, .inr ⟨4, rfl, HC.out, by decide⟩⟩
theorem boxes2 (w : World) (t1 t2 : TypeId) (v1 v2 : Value) : Boxed ((w.alloc (.cells #[v1] t1)).alloc (.cells #[v2] t2)) w.heap.size t1 v1 ∧ Boxed ((w.alloc (.cells #[v1] t1)).alloc (.cells #[v2] t2)) (w.heap.size + 1) t2 v2 ∧ Below w.heap.size w ((w.alloc (.cells #[v1] t1)).alloc (.cells #[v2] t2)) :=
 ⟨(Boxed.new w _ _).alloc _, by have := Boxed.new (w.alloc (.cells #[v1] t1)) t2 v2; rwa [World.size_alloc] at this, ((Below.refl _ w).alloc (Nat.le_refl _) _).alloc (by simp) _⟩
theorem boxes3 (w : World) (t1 t2 t3 : TypeId) (v1 v2 v3 : Value) : Boxed (((w.alloc (.cells #[v1] t1)).alloc (.cells #[v2] t2)).alloc (.cells #[v3] t3)) w.heap.size t1 v1 ∧ Boxed (((w.alloc (.cells #[v1] t1)).alloc (.cells #[v2] t2)).alloc (.cells #[v3] t3)) (w.heap.size + 1) t2 v2 ∧
  Boxed (((w.alloc (.cells #[v1] t1)).alloc (.cells #[v2] t2)).alloc (.cells #[v3] t3)) (w.heap.size + 2) t3 v3 ∧ Below w.heap.size w (((w.alloc (.cells #[v1] t1)).alloc (.cells #[v2] t2)).alloc (.cells #[v3] t3)) := by
 obtain ⟨h1, h2, h3⟩ := boxes2 w t1 t2 v1 v2
 exact ⟨h1.alloc _, h2.alloc _, by have := Boxed.new ((w.alloc (.cells #[v1] t1)).alloc (.cells #[v2] t2)) t3 v3; rwa [World.size_alloc, World.size_alloc] at this, h3.alloc (by simp; omega) _⟩
set_option maxHeartbeats 1000000 in
theorem atA_any (l : List Rn) (hl : l.length ≤ 1000000) (i : Int) (v : Value) (w : World) (h : ReadsR w v l) : Calls Tryz.prog 73 #[v, .int .i64 i] w (Ret w (.tuple #[.int .i64 (valA l i), .int .i64 (codeA l i)])) := by
 have hr := h
 obtain ⟨A, c, rfl, _, _⟩ := h
 have hmf := makes_func
 obtain ⟨b1, b2, b3⟩ := boxes2 w 22 3 (.slice A l.length c) (.int .i64 i)
 obtain ⟨W, hW⟩ : ∃ W, (w.alloc (.cells #[.slice A l.length c] 22)).alloc (.cells #[.int .i64 i] 3) = W := ⟨_, rfl⟩
 rw [hW] at b1 b2 b3
 have C1 := at1_any l hl i (.slice A l.length c) (eCell W) w.heap.size (w.heap.size + 1) (b1.alloc _) (b2.alloc _) ((hr.below b3).below (eCell_below _))
 have TD := Lib.hid (told_T 124 #[.pointer (some ⟨w.heap.size, 0, none⟩), .pointer (some ⟨w.heap.size + 1, 0, none⟩)] (enters_of Tryz.func124 (by kernel_rfl) rfl) _ _ _ (fun _ _ _ hg => hg) C1)
 have HV := Lib.hid (show valA l i = if codeA l i = 0 then timeAt l i else 0 from rfl)
 have HB3 := Lib.hid b3
 generalize valA l i = y at *
 generalize codeA l i = x at *
 clear C1 hr b1 b2 b3
 go_enter Tryz.func73, Tryz.ntmps73
 go_wp2_with (go_at_call 123; refine TD.out.mono ?_; rintro e w1 ⟨hb, (⟨u, rfl, hok, rfl⟩ | ⟨code, rfl, hok, hc0⟩)⟩)
 ·go_wp2_with fail
  go_returns
  exact ⟨by rw [HV.out, if_pos hok, hok]; rfl, under HB3.out hb⟩
 ·go_wp2_with fail
  go_returns
  exact ⟨by rw [HV.out, hok, if_neg hc0]; rfl, under HB3.out hb⟩

abbrev RowOr (W : World) (code : Int) (L : List Rn) (e : Ending) (w' : World) : Prop := Throws W (fun x w' => code = 0 ∧ w'.ownsRow W.heap.size 44 3 x L.length (flatR L)) (fun c => code = c ∧ ¬ c = 0) e w'
theorem pieces_or (l : List Rn) (i j : Int) {W : World} {e : Ending} {w' : World} (h : PiecesEnd W l i j e w') : RowOr W (codeP l i j) (piecesR l i j) e w' := by
 obtain ⟨hb, h⟩ := h
 unfold codeP
 split at h
 ·next gk =>
  rw [if_pos gk]
  split at h
  ·next g =>
   obtain ⟨x, rfl, hx⟩ := h
   rw [if_pos g]
   exact ⟨hb, .inl ⟨x, rfl, rfl, hx⟩⟩
  ·next g =>
   rw [if_neg g]
   exact ⟨hb, .inr ⟨2, h, rfl, by decide⟩⟩
 ·next gk =>
  rw [if_neg gk]
  exact ⟨hb, .inr ⟨170, h, rfl, by decide⟩⟩
set_option maxHeartbeats 1000000 in
theorem pieces1_any (l : List Rn) (hl : l.length ≤ 1000000) (i j : Int) (v : Value) (W : World) (B Bi Bj : Nat) (hb : Boxed W B 22 v) (hbi : Boxed W Bi 3 (.int .i64 i)) (hbj : Boxed W Bj 3 (.int .i64 j)) (h : ReadsR W v l) :
  Calls Tryz.prog 226 #[.pointer (some ⟨B, 0, none⟩), .pointer (some ⟨Bi, 0, none⟩), .pointer (some ⟨Bj, 0, none⟩)] W (RowOr W (codeP l i j) (piecesR l i j)) := by
 have PA := Lib.hid ((pieces_any l hl i j v W h).mono fun e w' hh => pieces_or l i j hh)
 obtain ⟨A, c, rfl, _, _⟩ := h
 have hcl := hb.cell
 have hci := hbi.cell
 have hcj := hbj.cell
 clear hb hbi hbj
 generalize codeP l i j = code at *
 generalize piecesR l i j = L at *
 go_enter Tryz.func226, Tryz.ntmps226
 go_wp2_with (go_at_call 227; refine PA.out.mono ?_; rintro e w1 ⟨hb, (⟨x, rfl, hok, hx⟩ | ⟨c2, rfl, hok, hc0⟩)⟩)
 ·have HX := Lib.hid hx
  clear hx
  go_wp2_with fail
  go_ret
  exact ⟨hb, .inl ⟨_, rfl, hok, HX.out⟩⟩
 ·exact ⟨rfl, hb, .inr ⟨_, rfl, by first | exact hok | rfl, hc0⟩⟩
set_option maxHeartbeats 1000000 in
theorem piecesA_any (l : List Rn) (hl : l.length ≤ 1000000) (i j : Int) (v : Value) (w : World) (h : ReadsR w v l) : Calls Tryz.prog 201 #[v, .int .i64 i, .int .i64 j] w (Res w (codeP l i j) (piecesR l i j)) := by
 have hr := h
 obtain ⟨A, c, rfl, _, _⟩ := h
 have hmf := makes_func
 obtain ⟨b1, b2, b3, b4⟩ := boxes3 w 22 3 3 (.slice A l.length c) (.int .i64 i) (.int .i64 j)
 obtain ⟨W, hW⟩ : ∃ W, ((w.alloc (.cells #[.slice A l.length c] 22)).alloc (.cells #[.int .i64 i] 3)).alloc (.cells #[.int .i64 j] 3) = W := ⟨_, rfl⟩
 rw [hW] at b1 b2 b3 b4
 have C1 := pieces1_any l hl i j (.slice A l.length c) (eCell W) w.heap.size (w.heap.size + 1) (w.heap.size + 2) (b1.alloc _) (b2.alloc _) (b3.alloc _) ((hr.below b4).below (eCell_below _))
 have TD := Lib.hid (told_R 226 #[.pointer (some ⟨w.heap.size, 0, none⟩), .pointer (some ⟨w.heap.size + 1, 0, none⟩), .pointer (some ⟨w.heap.size + 2, 0, none⟩)] (enters_of Tryz.func226 (by kernel_rfl) rfl) _ _ _ (fun _ _ _ hg => ⟨hg.1, owns_low hg.2 eCell_low _⟩) C1)
 have HB3 := Lib.hid b4
 generalize codeP l i j = x at *
 generalize piecesR l i j = L at *
 clear C1 hr b1 b2 b3 b4
 go_enter Tryz.func201, Tryz.ntmps201
 go_wp2_with (go_at_call 225; refine TD.out.mono ?_; rintro e w1 ⟨hb, (⟨u, rfl, hok, hx⟩ | ⟨code, rfl, hok, hc0⟩)⟩)
 ·have HX := Lib.hid hx
  clear hx
  go_wp2_with fail
  go_returns
  unfold Res
  rw [if_pos hok]
  exact ⟨_, rfl, under HB3.out hb, owns_less HX.out (by have := HB3.out.size; simp; omega)⟩
 ·go_wp2_with fail
  go_returns
  unfold Res
  rw [hok, if_neg hc0]
  exact ⟨rfl, under HB3.out hb⟩
end Go.Proofs.YtcfidimnbamnkaaGreat.P7

/-
 Layer 7: runs: the place of a time. Conditions: those written at each fact.
-/
namespace Go.Proofs.YtcfidimnbamnkaaGreat.P7
open Go.RowKit Go.Shelf
attribute [local go_sem] Oper.semAt_some

def findF : Nat → List Int → Int → Option Nat
 | _, [], _ => none
 | k, x :: l, t => if x = t then some k else if t < x then none else findF (k + 1) l t
theorem find_hit : ∀ {l : List Int} {k : Nat} {pre : List (Int × Int)} {z : Int × Int} {t : Int}, (pre ++ [z]) <+: numR k l → (∀ y ∈ pre, y.2 < t) → z.2 = t → ∃ n, findF k l t = some n ∧ z.1 = (n : Int)
 | [], k, pre, z, t, h, _, _ => by
  have := h.length_le
  simp [numR] at this
 | x :: l, k, [], z, t, h, _, hz => by
  simp only [numR, List.nil_append, List.cons_prefix_cons] at h
  obtain ⟨rfl, _⟩ := h
  exact ⟨k, by simp only at hz; rw [findF, if_pos hz], rfl⟩
 | x :: l, k, y :: pre, z, t, h, hp, hz => by
  simp only [numR, List.cons_append, List.cons_prefix_cons] at h
  obtain ⟨rfl, h⟩ := h
  have hy := hp _ (List.mem_cons_self ..)
  simp only at hy
  rw [findF, if_neg (by omega), if_neg (by omega)]
  exact find_hit h (fun y' hy' => hp y' (List.mem_cons_of_mem _ hy')) hz
theorem find_past : ∀ {l : List Int} {k : Nat} {pre : List (Int × Int)} {z : Int × Int} {t : Int}, (pre ++ [z]) <+: numR k l → (∀ y ∈ pre, y.2 < t) → t < z.2 → findF k l t = none
 | [], k, pre, z, t, h, _, _ => rfl
 | x :: l, k, [], z, t, h, _, hz => by
  simp only [numR, List.nil_append, List.cons_prefix_cons] at h
  obtain ⟨rfl, _⟩ := h
  simp only at hz
  rw [findF, if_neg (by omega), if_pos hz]
 | x :: l, k, y :: pre, z, t, h, hp, hz => by
  simp only [numR, List.cons_append, List.cons_prefix_cons] at h
  obtain ⟨rfl, h⟩ := h
  have hy := hp _ (List.mem_cons_self ..)
  simp only at hy
  rw [findF, if_neg (by omega), if_neg (by omega)]
  exact find_past h (fun y' hy' => hp y' (List.mem_cons_of_mem _ hy')) hz
theorem find_all : ∀ {l : List Int} {k : Nat} {t : Int}, (∀ y ∈ numR k l, y.2 < t) → findF k l t = none
 | [], _, _, _ => rfl
 | x :: l, k, t, h => by
  have hy := h _ (List.mem_cons_self ..)
  simp only at hy
  rw [findF, if_neg (by omega), if_neg (by omega)]
  exact find_all (fun y' hy' => h y' (List.mem_cons_of_mem _ hy'))
theorem boxed_grown {W W' : World} {row : Option Nat} {B : Nat} {t : TypeId} {v : Value} (h : Boxed W B t v) (hgr : W.grownBy W' row) (hr : ∀ r, row = some r → ∃ o : Obj, W.heap[r]? = some o ∧ o.isCells = false) : Boxed W' B t v := cells_kept hgr hr h rfl
def XN : World → Nat → Prop := fun _ _ => False

def AllLt (t : Int) (pre : List (Int × Int)) : Prop := ∀ y ∈ pre, y.2 < t
def LeftF (w : World) (t : Int) (c : Code) (pre : List (Int × Int)) (W : World) : Prop :=
 Below w.heap.size w W ∧ ∃ p z, pre = p ++ [z] ∧ (∀ y ∈ p, y.2 < t) ∧ ((c = .ret ∧ z.2 = t ∧ Boxed W (w.heap.size + 1) 3 (.int .i64 z.1)) ∨ (c = .exit 0 ∧ t < z.2))
set_option maxRecDepth 100000 in
set_option maxHeartbeats 2000000 in
theorem find_any (l : List Rn) (hok : okB l = true) (t : Int) (v : Value) (w : World) (h : ReadsR w v l) :
  Calls Tryz.prog 130 #[v, .int .i64 t] w (Throws w (fun x _ => ∃ n, findF 0 (timesR l) t = some n ∧ x = .int .i64 n) (fun code => findF 0 (timesR l) t = none ∧ code = 4)) := by
 obtain ⟨hne, hR, hT, hl2⟩ := okB_facts hok
 have hTL := timesR_length (l := l) (fun r hr => by have := (hR r hr).1; omega)
 have hr := h
 obtain ⟨A, c, rfl, hc, hk⟩ := h
 have hlast : ∀ (p : List (Int × Int)) (z : Int × Int), (p ++ [z]) <+: numR 0 (timesR l) → (∀ y ∈ p, y.2 < t) → (z.2 = t → ∃ n, findF 0 (timesR l) t = some n ∧ z.1 = (n : Int)) ∧ (t < z.2 → findF 0 (timesR l) t = none) := fun p z h1 h2 => ⟨fun h3 => find_hit h1 h2 h3, fun h3 => find_past h1 h2 h3⟩
 have HLAST := Lib.hid hlast
 have HALL : Hid (AllLt t (numR 0 (timesR l)) → findF 0 (timesR l) t = none) := Lib.hid find_all
 clear hlast
 generalize findF 0 (timesR l) t = F at *
 refine calls_marks Tryz.func130 rfl ?_
 simp only [Tryz.ntmps130, List.size_toArray, List.length_cons, List.length_nil, Nat.reduceAdd, Nat.reduceSub, Array.replicate_succ, Array.replicate_zero, List.push_toArray, List.append_toArray, List.nil_append, List.cons_append]
 go_wp2_with (first | go_step3 | (go_at_call 133; refine (all_any _ _ _ _ _ rfl).mono ?_; rintro e w' ⟨rfl, rfl⟩))
 obtain ⟨b1, b2, b3, b4⟩ := boxes3 w 2 3 22 (.int .i64 t) (.int .i64 0) (.slice A l.length c)
 obtain ⟨W2, hW2⟩ : ∃ W2, W2 = (((w.alloc (.cells #[.int .i64 t] 2)).alloc (.cells #[.int .i64 0] 3)).alloc (.cells #[.slice A l.length c] 22)) := ⟨_, rfl⟩
 rw [← hW2] at b1 b2 b3 b4 ⊢
 have hs2 : W2.heap.size = w.heap.size + 3 := by rw [hW2]; simp
 have hXN : Hangs XN w.heap.size := fun _ _ _ _ h => h
 have hseq := all1_stops (α := Int × Int) id (numR 0 (timesR l)) XN w.heap.size hXN l (by omega) hR (List.map_id _) (by rw [numR_length]; omega) A c (w.heap.size + 2) W2 (by omega) ⟨hr.below b4, fun _ _ _ _ h => h.elim, fun _ h => h.elim⟩ b3
 clear hW2 hr hk hR
 generalize numR 0 (timesR l) = full at *
 refine wp_rangeC (X := XN) (b := w.heap.size) hXN (by omega) (gf := 181) (lb := #[.pointer (some ⟨w.heap.size + 1 + 1, 0, none⟩)]) rfl (enters_of Tryz.func181 (by kernel_rfl) rfl)
  hseq (fun _ => rfl)
  (fun pre W' => Boxed W' w.heap.size 2 (.int .i64 t) ∧ Boxed W' (w.heap.size + 1) 3 (.int .i64 0) ∧ Below w.heap.size w W' ∧ Hid (AllLt t pre)) (LeftF w t)
  ?oI ?oIx ⟨b1, b2, b4, Lib.hid (fun y hy => by simp at hy)⟩
  (fun d => { tmps := #[Value.slice A l.length c, Value.int .i64 t, undef, Value.pointer (some ⟨w.heap.size, 0, none⟩), Value.pointer (some ⟨w.heap.size + 1, 0, none⟩), .int .i64 d.1, .int .i64 d.2, Value.slice A l.length c, Value.func (Fn.func 181) #[] #[Value.pointer (some ⟨w.heap.size + 1 + 1, 0, none⟩)], .int .i64 d.1, .int .i64 d.2, undef, undef, undef, undef, undef, undef, undef, undef, undef, undef], defers := [] }) ?assign ?body ?done ?stop
 case oI =>
  intro pre W1 W1' row ⟨h1, h2, h3, h4⟩ hgr hr
  have hr2 : ∀ r, row = some r → ∃ o : Obj, W1.heap[r]? = some o ∧ o.isCells = false := fun r e => (hr r e).2
  exact ⟨boxed_grown h1 hgr hr2, boxed_grown h2 hgr hr2, below_grown (C := W2.heap.size) b4.size h3 hgr (fun r e => (hr r e).1), h4⟩
 case oIx =>
  intro c' pre W1 W1' row ⟨h1, p, z, h2, h3, h4⟩ hgr hr
  have hr2 : ∀ r, row = some r → ∃ o : Obj, W1.heap[r]? = some o ∧ o.isCells = false := fun r e => (hr r e).2
  refine ⟨below_grown (C := W2.heap.size) b4.size h1 hgr (fun r e => (hr r e).1), p, z, h2, h3, ?_⟩
  rcases h4 with ⟨e1, e2, e3⟩ | h4
  ·exact .inl ⟨e1, e2, boxed_grown e3 hgr hr2⟩
  ·exact .inr h4
 case assign =>
  intro l' d W K hK
  gi_wp2
  simpa using hK
 case body =>
  rintro l' pre ⟨p, x⟩ W1 ⟨h1, h2, h3, h4⟩ hlt
  have hc1 := h1.cell
  have hc2 := h2.cell
  have hf2 := h2.frozen
  have H2 := Lib.hid h2
  have H1 := Lib.hid h1
  have H3 := Lib.hid h3
  clear h1 h2 h3 hseq b1 b2 b3 b4 hlt
  by_cases g1 : x = t
  ·subst g1
   gi_wp2
   exact ⟨(KeepsOthers.setCell _ _ _).from _, H3.out.setCell (p := ⟨w.heap.size + 1, 0, none⟩) (by simp) _, pre, (p, x), rfl, h4.out, .inl ⟨rfl, rfl, H2.out.set _⟩⟩
  ·have e1 : (x == t) = false := beq_eq_false_iff_ne.2 g1
   by_cases g2 : t < x
   ·gi_wp2
    exact ⟨KeepsFrom.refl _ _, H3.out, pre, (p, x), rfl, h4.out, .inr ⟨rfl, g2⟩⟩
   ·have g3 : x ≤ t := by omega
    have h5 : Hid (AllLt t (pre ++ [(p, x)])) := Lib.hid (fun y hy => by
     rcases List.mem_append.1 hy with hy | hy
     ·exact h4.out y hy
     ·rcases List.mem_singleton.1 hy with rfl
      simp only
      omega)
    gi_wp2
    exact ⟨KeepsFrom.refl _ _, ⟨Nat.le_refl _, fun _ h => .inl h, fun _ _ h _ _ => h⟩, H1.out, H2.out, H3.out, h5⟩
 case done =>
  rintro D ys W1 hD rfl ⟨h1, h2, h3, h4⟩ hK
  have E : Hid (F = none) := Lib.hid (HALL.out h4.out)
  clear hseq h1 h2 h4 HLAST HALL
  go_wp2_with fail
  refine ⟨by simp, .inl ⟨_, _, rfl, run_takeDeferred hK, ?_⟩⟩
  exact ⟨below_grown (C := W2.heap.size) b4.size h3 (grownBy_putObj' W1 D _) (fun r e => by cases e; exact hD), .inr ⟨4, rfl, E.out, rfl⟩⟩
 case stop =>
  rintro D c' pre W1 hD hpre ⟨h1, p, z, h2, h3, h4⟩ hK
  subst h2
  obtain ⟨k1, k2⟩ := HLAST.out p z hpre h3
  rcases h4 with ⟨rfl, e2, e3⟩ | ⟨rfl, e2⟩
  ·obtain ⟨n, e4, e5⟩ := k1 e2
   have hc3 := e3.cell
   have E := Lib.hid e4
   have E5 := Lib.hid e5
   have hbx := boxed_grown e3 (grownBy_putObj' W1 D (.deferred none)) (fun r e => by cases e; exact ⟨_, hK, rfl⟩)
   have hc4 := hbx.cell
   clear hseq k1 k2 e4 e5 HLAST HALL
   go_wp2_with fail
   refine ⟨by simp, .inl ⟨_, _, rfl, run_takeDeferred hK, ?_⟩⟩
   refine ⟨.int .i64 z.1, by simp [results, Tryz.results130, go_sem, hc4], below_grown (C := W2.heap.size) b4.size h1 (grownBy_putObj' W1 D _) (fun r e => by cases e; exact hD), .inl ⟨_, rfl, n, E.out, by rw [E5.out]⟩⟩
  ·have E : Hid (F = none) := Lib.hid (k2 e2)
   clear hseq k1 k2 HLAST HALL
   go_wp2_with fail
   refine ⟨by simp, .inl ⟨_, _, rfl, run_takeDeferred hK, ?_⟩⟩
   exact ⟨below_grown (C := W2.heap.size) b4.size h1 (grownBy_putObj' W1 D _) (fun r e => by cases e; exact hD), .inr ⟨4, rfl, E.out, rfl⟩⟩
end Go.Proofs.YtcfidimnbamnkaaGreat.P7

/-
 Layer 7: runs: Find and Clip. Conditions: those written at each fact.
-/
namespace Go.Proofs.YtcfidimnbamnkaaGreat.P7
open Go.RowKit Go.Shelf
attribute [local go_sem] Oper.semAt_some

def foundN (l : List Rn) (t : Int) : Int := if okB l then (match findF 0 (timesR l) t with | some n => (n : Int) | none => 0) else 0
def foundB (l : List Rn) (t : Int) : Bool := okB l && (findF 0 (timesR l) t).isSome
def FindOr (l : List Rn) (t : Int) (W : World) : Ending → World → Prop := Throws W (fun x _ => foundB l t = true ∧ x = .int .i64 (foundN l t)) (fun c => foundB l t = false ∧ ¬ c = 0 ∧ foundN l t = 0)
set_option maxHeartbeats 1000000 in
theorem find1_any (l : List Rn) (hl : l.length ≤ 1000000) (t : Int) (v : Value) (W : World) (B C : Nat) (hb : Boxed W B 22 v) (hbt : Boxed W C 2 (.int .i64 t)) (h : ReadsR W v l) :
  Calls Tryz.prog 129 #[.pointer (some ⟨B, 0, none⟩), .pointer (some ⟨C, 0, none⟩)] W (FindOr l t W) := by
 have CH := Lib.hid (checkA_any l hl v W h)
 have hr := h
 obtain ⟨A, c, rfl, _, _⟩ := h
 have hbl := hb.lt
 have hbc := hb.cell
 have hcl := hbt.lt
 have hcc := hbt.cell
 clear hb hbt
 cases gk : okB l
 ·have e1 : foundB l t = false := by simp [foundB, gk]
  have e2 : foundN l t = 0 := by simp [foundN, gk]
  rw [gk] at CH
  replace CH : Hid (Calls Tryz.prog 114 #[.slice A l.length c] W (Ret W (.int .i64 170))) := CH
  have MF := Lib.hid (must_false 170)
  have HE := Lib.hid (And.intro e1 e2)
  clear gk e1 e2 hr
  go_enter Tryz.func129, Tryz.ntmps129
  go_wp2_with fail
  refine CH.out.mono ?_
  rintro e w1 ⟨rfl, hb1⟩
  go_wp2_with fail
  refine (MF.out _).mono ?_
  rintro e w2 ⟨rfl, hb2⟩
  go_wp2_with fail
  exact ⟨rfl, under hb1 hb2, .inr ⟨170, rfl, HE.out.1, by decide, HE.out.2⟩⟩
 ·have FI := Lib.hid (fun W' (hb' : Below W.heap.size W W') => find_any l gk t _ W' (hr.below hb'))
  rw [gk] at CH
  replace CH : Hid (Calls Tryz.prog 114 #[.slice A l.length c] W (Ret W (.int .i64 0))) := CH
  have e1 : ∀ n, findF 0 (timesR l) t = some n → foundB l t = true ∧ foundN l t = (n : Int) := fun n hn => ⟨by simp [foundB, gk, hn], by simp [foundN, gk, hn]⟩
  have e2 : findF 0 (timesR l) t = none → foundB l t = false ∧ foundN l t = 0 := fun hn => ⟨by simp [foundB, gk, hn], by simp [foundN, gk, hn]⟩
  have MT := Lib.hid (must_true 170)
  have E1 := Lib.hid e1
  have E2 := Lib.hid e2
  clear gk e1 e2 hr
  generalize findF 0 (timesR l) t = F at *
  go_enter Tryz.func129, Tryz.ntmps129
  go_wp2_with fail
  refine CH.out.mono ?_
  rintro e w1 ⟨rfl, hb1⟩
  go_wp2_with fail
  refine (MT.out _).mono ?_
  rintro e w2 ⟨rfl, hb2⟩
  have hb12 := under hb1 hb2
  have q1 := (hb12.cell (p := ⟨B, 0, none⟩) hbl).trans hbc
  have q2 := (hb12.cell (p := ⟨C, 0, none⟩) hcl).trans hcc
  go_wp2_with fail
  refine (FI.out _ hb12).mono ?_
  rintro e w3 ⟨hb3, (⟨x, rfl, n, hn, rfl⟩ | ⟨code, rfl, hn, rfl⟩)⟩
  ·obtain ⟨f1, f2⟩ := E1.out n hn
   have HF := Lib.hid (And.intro f1 f2)
   clear f1 f2 hn
   go_wp2_with fail
   go_ret
   exact ⟨under hb12 hb3, .inl ⟨_, rfl, HF.out.1, by rw [HF.out.2]; rfl⟩⟩
  ·obtain ⟨f1, f2⟩ := E2.out hn
   have HF := Lib.hid (And.intro f1 f2)
   clear f1 f2 hn
   go_wp2_with fail
   exact ⟨rfl, under hb12 hb3, .inr ⟨4, rfl, HF.out.1, by decide, HF.out.2⟩⟩
set_option maxHeartbeats 1000000 in
theorem findA_any (l : List Rn) (hl : l.length ≤ 1000000) (t : Int) (v : Value) (w : World) (h : ReadsR w v l) : Calls Tryz.prog 76 #[v, .int .i64 t] w (Ret w (.tuple #[.int .i64 (foundN l t), .bool (foundB l t)])) := by
 have hr := h
 obtain ⟨A, c, rfl, _, _⟩ := h
 have hmf := makes_func
 obtain ⟨b1, b2, b3⟩ := boxes2 w 22 2 (.slice A l.length c) (.int .i64 t)
 obtain ⟨W, hW⟩ : ∃ W, (w.alloc (.cells #[.slice A l.length c] 22)).alloc (.cells #[.int .i64 t] 2) = W := ⟨_, rfl⟩
 rw [hW] at b1 b2 b3
 have C1 := find1_any l hl t (.slice A l.length c) (eCell W) w.heap.size (w.heap.size + 1) (b1.alloc _) (b2.alloc _) ((hr.below b3).below (eCell_below _))
 have TD := Lib.hid (told_I 129 #[.pointer (some ⟨w.heap.size, 0, none⟩), .pointer (some ⟨w.heap.size + 1, 0, none⟩)] (enters_of Tryz.func129 (by kernel_rfl) rfl) _ _ _ (fun _ _ _ hg => hg) C1)
 have HB3 := Lib.hid b3
 generalize foundN l t = n at *
 generalize foundB l t = b at *
 clear C1 hr b1 b2 b3
 go_enter Tryz.func76, Tryz.ntmps76
 go_wp2_with (go_at_call 115; refine TD.out.mono ?_; rintro e w1 ⟨hb, (⟨u, rfl, hok, rfl⟩ | ⟨code, rfl, hok, hc0, hn0⟩)⟩)
 ·go_wp2_with fail
  go_returns
  exact ⟨by rw [hok]; rfl, under HB3.out hb⟩
 ·have e0 : (code == 0) = false := beq_eq_false_iff_ne.2 hc0
  have HK := Lib.hid (And.intro hok hn0)
  clear hok hn0
  go_wp2_with fail
  go_returns
  exact ⟨by rw [HK.out.1, HK.out.2, ← e0]; rfl, under HB3.out hb⟩

def belowN (l : List Int) (a : Int) : Nat := (l.filter fun t => decide (t < a)).length
def uptoN (l : List Int) (a : Int) : Nat := (l.filter fun t => decide (t ≤ a)).length
def clipL (l : List Rn) (a : Int) : Int := if okB l then (belowN (timesR l) a : Int) else 0
def clipH (l : List Rn) (a b : Int) : Int := if okB l then max (belowN (timesR l) a : Int) (uptoN (timesR l) b : Int) else 0
theorem belowN_snoc (l : List Int) (x a : Int) : belowN (l ++ [x]) a = belowN l a + (if x < a then 1 else 0) := by
 unfold belowN
 rw [List.filter_append, List.length_append]
 by_cases h : x < a <;> simp [h]
theorem uptoN_snoc (l : List Int) (x a : Int) : uptoN (l ++ [x]) a = uptoN l a + (if x ≤ a then 1 else 0) := by
 unfold uptoN
 rw [List.filter_append, List.length_append]
 by_cases h : x ≤ a <;> simp [h]
theorem belowN_le (l : List Int) (a : Int) : belowN l a ≤ l.length := List.length_filter_le _ _
theorem uptoN_le (l : List Int) (a : Int) : uptoN l a ≤ l.length := List.length_filter_le _ _
def X2 (g g' : Nat) : World → Nat → Prop := fun _ k => k = g ∨ k = g'
theorem X2_hangs (g g' b : Nat) : Hangs (X2 g g') b := fun _ _ _ _ h => h
theorem keepsC_set {g g' : Nat} {W : World} {p : Addr} (hp : p.block = g ∨ p.block = g') (u : Value) : KeepsC (X2 g g') W (W.setCell p u) :=
 ⟨by simp [World.setCell], fun _ h => .inl h, fun k o ho _ hx => (Below.heap_setCell W p u k (fun e => hx (e ▸ hp))).trans ho⟩
end Go.Proofs.YtcfidimnbamnkaaGreat.P7

/-
 Layer 7: runs: times have just their runs, and runs just their times. Conditions: those written at each fact.
-/
namespace Go.Proofs.YtcfidimnbamnkaaGreat.P7
open Go.RowKit Go.Shelf

theorem fold_steps (f s : Int) (sh : List Rn) : ∀ (m : Nat) (n : Int), 2 ≤ n → (stepsR (f + n * s) s m).foldl takeR (⟨f, s, n⟩, sh) = (⟨f, s, n + m⟩, sh)
 | 0, n, _ => by simp [stepsR]
 | m + 1, n, h => by
  have e : takeR (⟨f, s, n⟩, sh) (f + n * s) = (⟨f, s, n + 1⟩, sh) := by
   unfold takeR
   simp only
   rw [if_neg (by omega), if_neg (by omega), if_pos trivial]
  have e2 : f + n * s + s = f + (n + 1) * s := by rw [Int.add_mul]; omega
  rw [stepsR, List.foldl_cons, e, e2, fold_steps f s sh m (n + 1) (by omega)]
  simp only [Prod.mk.injEq, Rn.mk.injEq, and_true, true_and]
  omega
theorem fold_run {r : Rn} {room : Int} (h : runB r room = true) (sh : List Rn) : (stepsR (r.f + r.s) r.s (r.c.toNat - 1)).foldl takeR (⟨r.f, 0, 1⟩, sh) = (r, sh) := by
 obtain ⟨f, s, c⟩ := r
 unfold runB at h
 simp only [Bool.and_eq_true, decide_eq_true_eq] at h
 obtain ⟨h1, _, _, h2⟩ := h
 by_cases g : c = 1
 ·rw [if_pos g] at h2
  have h3 := of_decide_eq_true h2
  subst g h3
  rfl
 ·obtain ⟨m, hm⟩ : ∃ m, c.toNat - 1 = m + 1 := ⟨c.toNat - 2, by omega⟩
  simp only [hm, stepsR, List.foldl_cons]
  have e : takeR (⟨f, 0, 1⟩, sh) (f + s) = (⟨f, s, 2⟩, sh) := by
   unfold takeR
   simp only
   rw [if_neg (by omega), if_pos trivial]
   simp only [Prod.mk.injEq, Rn.mk.injEq, and_true, true_and]
   omega
  rw [e, show f + s + s = f + 2 * s by omega, fold_steps f s sh m 2 (by omega)]
  simp only [Prod.mk.injEq, Rn.mk.injEq, and_true, true_and]
  omega
theorem steps_first {r : Rn} {room : Int} (h : runB r room = true) : stepsR r.f r.s r.c.toNat = r.f :: stepsR (r.f + r.s) r.s (r.c.toNat - 1) := by
 have h1 : 1 ≤ r.c := by unfold runB at h; simp only [Bool.and_eq_true, decide_eq_true_eq] at h; exact h.1
 obtain ⟨m, hm⟩ : ∃ m, r.c.toNat = m + 1 := ⟨r.c.toNat - 1, by omega⟩
 rw [hm, Nat.add_sub_cancel]
 rfl
theorem fold_rest : ∀ (l : List Rn) (a : Rn) (n : Int) (sh : List Rn), restB (some a) n l = true → ((timesR l).foldl takeR (a, sh)).2 ++ [((timesR l).foldl takeR (a, sh)).1] = sh ++ a :: l
 | [], a, n, sh, _ => by simp [timesR]
 | r :: l, a, n, sh, h => by
  simp only [restB, Bool.and_eq_true] at h
  obtain ⟨h1, h2, h3⟩ := h
  unfold behindB at h2
  simp only [Bool.and_eq_true, decide_eq_true_eq] at h2
  obtain ⟨b1, b2, b3⟩ := h2
  have e : takeR (a, sh) r.f = (⟨r.f, 0, 1⟩, sh ++ [a]) := by
   unfold takeR
   simp only
   rw [if_neg (by omega), if_neg (by omega), if_neg b3]
  rw [timesR, steps_first h1, List.cons_append, List.foldl_cons, List.foldl_append, e, fold_run h1, fold_rest l r _ (sh ++ [a]) h3]
  simp
theorem laid_times {l : List Rn} (h : okB l = true) : laidR (timesR l) = l := by
 unfold okB at h
 simp only [Bool.and_eq_true, decide_eq_true_eq] at h
 obtain ⟨hne, h⟩ := h
 obtain ⟨r, m, rfl⟩ := List.exists_cons_of_ne_nil hne
 simp only [restB, Bool.and_eq_true, true_and] at h
 obtain ⟨h1, h3⟩ := h
 have e : takeR iniR r.f = (⟨r.f, 0, 1⟩, []) := by simp [takeR, iniR]
 have := fold_rest m r _ [] h3
 unfold laidR goR
 rw [timesR, steps_first h1, List.cons_append, List.foldl_cons, List.foldl_append, e, fold_run h1]
 simpa using this
theorem steps_up {f s : Int} (hs : 1 ≤ s) : ∀ (n : Nat) (x : Int), (stepsR x s n).Pairwise (· < ·) ∧ ∀ t ∈ stepsR x s n, x ≤ t ∧ t ≤ x + ((n : Int) - 1) * s
 | 0, x => by simp [stepsR]
 | n + 1, x => by
  obtain ⟨h1, h2⟩ := steps_up (f := f) hs n (x + s)
  have e : ((n + 1 : Nat) : Int) - 1 = (n : Int) := by omega
  have e2 : x + s + ((n : Int) - 1) * s = x + (n : Int) * s := by rw [Int.sub_mul]; omega
  have e3 : 0 ≤ (n : Int) * s := Int.mul_nonneg (by omega) (by omega)
  rw [e]
  refine ⟨List.pairwise_cons.2 ⟨fun t ht => by have := (h2 t ht).1; omega, h1⟩, fun t ht => ?_⟩
  rcases List.mem_cons.1 ht with rfl | ht
  ·omega
  ·have := h2 t ht; omega
theorem run_up {r : Rn} {room : Int} (h : runB r room = true) : (stepsR r.f r.s r.c.toNat).Pairwise (· < ·) ∧ ∀ t ∈ stepsR r.f r.s r.c.toNat, r.f ≤ t ∧ t ≤ r.f + (r.c - 1) * r.s := by
 unfold runB at h
 simp only [Bool.and_eq_true, decide_eq_true_eq] at h
 obtain ⟨h1, _, _, h2⟩ := h
 split at h2
 ·next e => rw [e]; simp [stepsR]
 ·simp only [Bool.and_eq_true, decide_eq_true_eq] at h2
  obtain ⟨a, b⟩ := steps_up (f := 0) h2.1 r.c.toNat r.f
  refine ⟨a, fun t ht => ?_⟩
  have := b t ht
  rwa [Int.toNat_of_nonneg (by omega)] at this
theorem rest_up : ∀ (l : List Rn) (p : Option Rn) (n : Int), restB p n l = true → (timesR l).Pairwise (· < ·) ∧ ∀ a, p = some a → ∀ t ∈ timesR l, a.f + (a.c - 1) * a.s < t
 | [], _, _, _ => by simp [timesR]
 | r :: l, p, n, h => by
  simp only [restB, Bool.and_eq_true] at h
  obtain ⟨h1, h2, h3⟩ := h
  obtain ⟨a1, a2⟩ := run_up h1
  obtain ⟨b1, b2⟩ := rest_up l (some r) _ h3
  refine ⟨List.pairwise_append.2 ⟨a1, b1, fun x hx y hy => ?_⟩, fun a ha t ht => ?_⟩
  ·have := (a2 x hx).2
   have := b2 r rfl y hy
   omega
  ·subst ha
   unfold behindB at h2
   simp only [Bool.and_eq_true, decide_eq_true_eq] at h2
   have hf : a.f + (a.c - 1) * a.s < r.f := h2.2.1
   rcases List.mem_append.1 ht with ht | ht
   ·have := (a2 t ht).1; omega
   ·have h4 := b2 r rfl t ht
    have h5 : r.f ∈ stepsR r.f r.s r.c.toNat := by rw [steps_first h1]; exact List.mem_cons_self ..
    have := (a2 _ h5).2
    omega
theorem times_are {l : List Rn} (h : okB l = true) : areB (timesR l) = true := by
 obtain ⟨hne, hR, hT, hl2⟩ := okB_facts h
 have hTL := timesR_length (l := l) (fun r hr => by have := (hR r hr).1; omega)
 have h2 : restB none 0 l = true := by unfold okB at h; simp only [Bool.and_eq_true] at h; exact h.2
 have hpos : 1 ≤ totalR l := by
  obtain ⟨r, m, rfl⟩ := List.exists_cons_of_ne_nil hne
  have h1 := (hR r (List.mem_cons_self ..)).1
  have := totalR_pos (l := m) (fun x hx => by have := (hR x (List.mem_cons_of_mem _ hx)).1; omega)
  simp only [totalR]; omega
 exact (areB_iff _).2 ⟨by omega, by omega, times_all hR, (rest_up l none 0 h2).1⟩

def lastO : Option Rn → List Rn → Option Rn
 | p, [] => p
 | _, x :: l => lastO (some x) l
theorem lastO_snoc : ∀ (l : List Rn) (p : Option Rn) (r : Rn), lastO p (l ++ [r]) = some r
 | [], _, _ => rfl
 | _ :: l, _, r => lastO_snoc l _ r
def followB (p : Option Rn) (r : Rn) : Bool := match p with | none => true | some a => behindB a r
theorem restB_snoc : ∀ (l : List Rn) (p : Option Rn) (n : Int) (r : Rn), restB p n (l ++ [r]) = (restB p n l && (runB r (256 - n - totalR l) && followB (lastO p l) r))
 | [], p, n, r => by
  cases p <;> simp [restB, totalR, lastO, followB]
 | x :: l, p, n, r => by
  simp only [List.cons_append, restB, restB_snoc l (some x) (n + x.c) r, totalR, lastO]
  rw [show 256 - (n + x.c) - totalR l = 256 - n - (x.c + totalR l) by omega]
  simp only [Bool.and_assoc]
structure LaidInv (st : Rn × List Rn) (T : List Int) (z : Int) : Prop where
 times : timesR (st.2 ++ [st.1]) = T
 shut : restB none 0 st.2 = true
 open_ : runB st.1 (256 - totalR st.2) = true
 fol : followB (lastO none st.2) st.1 = true
 last_ : st.1.f + (st.1.c - 1) * st.1.s = z
theorem runB_iff (r : Rn) (room : Int) : runB r room = true ↔ 1 ≤ r.c ∧ r.c ≤ room ∧ (0 ≤ r.f ∧ r.f ≤ 281474976710656) ∧ (if r.c = 1 then r.s = 0 else 1 ≤ r.s ∧ r.s ≤ 281474976710656 ∧ 0 ≤ r.f + (r.c - 1) * r.s ∧ r.f + (r.c - 1) * r.s ≤ 281474976710656) := by
 unfold runB
 simp only [Bool.and_eq_true, decide_eq_true_eq, timeR_iff]
 split <;> simp [timeR_iff]
theorem follow_f {p : Option Rn} {a b : Rn} (h : followB p a = true) (e : a.f = b.f) : followB p b = true := by
 cases p with
 | none => rfl
 | some x => simp only [followB, behindB] at h ⊢; rwa [← e]
theorem LaidInv.next {st : Rn × List Rn} {T : List Int} {z t : Int} (h : LaidInv st T z) (hz : z < t) (ht : t ≤ 281474976710656) (hT : T.length < 256) : LaidInv (takeR st t) (T ++ [t]) t := by
 obtain ⟨⟨f, s, c⟩, sh⟩ := st
 obtain ⟨h1, h2, h3, h4, h5⟩ := h
 simp only at h1 h2 h3 h4 h5
 obtain ⟨a1, a2, a3, a4⟩ := (runB_iff _ _).1 h3
 simp only at a1 a2 a3 a4
 have hpos : ∀ r ∈ sh, 0 ≤ r.c := fun r hr => by
  have := (okB_facts (l := sh) (by
   unfold okB
   rw [h2, Bool.and_true]
   exact decide_eq_true (List.ne_nil_of_mem hr))).2.1 r hr
  have := this.1; omega
 have hlen : totalR sh + c < 256 := by
  have e := timesR_length (l := sh ++ [⟨f, s, c⟩]) (fun r hr => by
   rcases List.mem_append.1 hr with hr | hr
   ·exact hpos r hr
   ·rcases List.mem_singleton.1 hr with rfl
    simp only; omega)
  rw [h1, totalR_app] at e
  simp only [totalR] at e
  omega
 rw [timesR_app] at h1
 simp only [timesR, List.append_nil] at h1
 unfold takeR
 simp only
 rw [if_neg (by omega)]
 split
 ·next e =>
  subst e
  rw [if_pos rfl] at a4
  subst a4
  refine ⟨?_, h2, (runB_iff _ _).2 ⟨by simp only; omega, by simp only; omega, a3, ?_⟩, follow_f h4 rfl, by simp only; omega⟩
  ·rw [timesR_app, ← h1]
   simp only [timesR, List.append_nil, List.append_assoc]
   congr 1
   simp only [show (1 : Int).toNat = 1 from rfl, show (2 : Int).toNat = 2 from rfl, stepsR, List.cons_append, List.nil_append]
   congr 2
   omega
  ·simp only
   rw [if_neg (by omega)]
   omega
 ·next e =>
  rw [if_neg e] at a4
  split
  ·next e2 =>
   have hm := mul_pred c s
   refine ⟨?_, h2, (runB_iff _ _).2 ⟨by simp only; omega, by simp only; omega, a3, ?_⟩, follow_f h4 rfl, ?_⟩
   ·rw [timesR_app, ← h1]
    simp only [timesR, List.append_nil, List.append_assoc]
    congr 1
    rw [show (c + 1).toNat = c.toNat + 1 by omega, steps_app, Int.toNat_of_nonneg (by omega), e2]
    rfl
   ·simp only
    rw [if_neg (by omega), show c + 1 - 1 = c by omega]
    omega
   ·simp only
    rw [show c + 1 - 1 = c by omega]
    omega
  ·next e2 =>
   have hb : behindB ⟨f, s, c⟩ ⟨t, 0, 1⟩ = true := by
    unfold behindB
    simp only [Bool.and_eq_true, decide_eq_true_eq]
    exact ⟨by omega, by omega, e2⟩
   refine ⟨?_, ?_, (runB_iff _ _).2 ⟨by simp only; omega, ?_, by simp only; omega, by simp⟩, ?_, by simp only; omega⟩
   ·rw [timesR_app, timesR_app, ← h1]
    simp [timesR, stepsR]
   ·rw [restB_snoc, h2, h4, show (256 : Int) - 0 - totalR sh = 256 - totalR sh by omega, h3]; rfl
   ·simp only [totalR_app, totalR]; omega
   ·simp only [lastO_snoc, followB]; exact hb
theorem fold_laid : ∀ (l : List Int) (st : Rn × List Rn) (T : List Int) (z : Int), LaidInv st T z → (∀ x ∈ l, z < x) → Up l → T.length + l.length ≤ 256 → ∃ z', LaidInv (l.foldl takeR st) (T ++ l) z'
 | [], st, T, z, h, _, _, _ => ⟨z, by simpa using h⟩
 | t :: l, st, T, z, h, hz, hU, hn => by
  obtain ⟨h1, h2, h3⟩ := hU.cons
  simp only [List.length_cons] at hn
  obtain ⟨z', g⟩ := fold_laid l (takeR st t) (T ++ [t]) t (h.next (hz t (List.mem_cons_self ..)) h1.2 (by omega)) h2 h3 (by rw [List.length_append, List.length_singleton]; omega)
  exact ⟨z', by rw [List.foldl_cons]; simpa using g⟩
theorem laid_are {l : List Int} (h : areB l = true) : okB (laidR l) = true ∧ timesR (laidR l) = l := by
 obtain ⟨h1, h2, hU⟩ := (areB_iff l).1 h
 obtain ⟨t, r, rfl⟩ : ∃ t r, l = t :: r := by
  cases l with
  | nil => simp at h1
  | cons t r => exact ⟨t, r, rfl⟩
 obtain ⟨g1, g2, g3⟩ := hU.cons
 have h0 : LaidInv (takeR iniR t) [t] t := by
  have e : takeR iniR t = (⟨t, 0, 1⟩, []) := by simp [takeR, iniR]
  rw [e]
  exact ⟨by simp [timesR, stepsR], rfl, (runB_iff _ _).2 ⟨by simp, by simp [totalR], g1, by simp⟩, rfl, by simp⟩
 obtain ⟨z, g⟩ := fold_laid r _ [t] t h0 g2 g3 (by simp only [List.length_cons, List.length_nil] at h2 ⊢; omega)
 have e : laidR (t :: r) = (r.foldl takeR (takeR iniR t)).2 ++ [(r.foldl takeR (takeR iniR t)).1] := rfl
 rw [e]
 refine ⟨?_, by rw [g.times]; rfl⟩
 unfold okB
 rw [restB_snoc, g.shut, g.fol, show (256 : Int) - 0 - totalR (r.foldl takeR (takeR iniR t)).2 = 256 - totalR (r.foldl takeR (takeR iniR t)).2 by omega, g.open_]
 simp
end Go.Proofs.YtcfidimnbamnkaaGreat.P7

/-
 Layer 7: runs: Clip. Conditions: those written at each fact.
-/
namespace Go.Proofs.YtcfidimnbamnkaaGreat.P7
open Go.RowKit Go.Shelf
attribute [local go_sem] Oper.semAt_some

set_option maxRecDepth 100000 in
set_option maxHeartbeats 2000000 in
theorem clipA_any (l : List Rn) (hl : l.length ≤ 1000000) (a b : Int) (v : Value) (w : World) (h : ReadsR w v l) : Calls Tryz.prog 82 #[v, .int .i64 a, .int .i64 b] w (Ret w (.tuple #[.int .i64 (clipL l a), .int .i64 (clipH l a b)])) := by
 have CH := Lib.hid (fun W (hb : Below w.heap.size w W) => checkA_any l hl v W (h.below hb))
 have hr := h
 obtain ⟨A, c, rfl, hc, hk⟩ := h
 cases gk : okB l
 ·have HE := Lib.hid (And.intro (show clipL l a = 0 by simp [clipL, gk]) (show clipH l a b = 0 by simp [clipH, gk]))
  replace CH : Hid (∀ W, Below w.heap.size w W → Calls Tryz.prog 114 #[.slice A l.length c] W (Ret W (.int .i64 170))) := Lib.hid (fun W hb => by have := CH.out W hb; rwa [gk] at this)
  clear gk hr hk
  generalize clipL l a = x at *
  generalize clipH l a b = y at *
  go_enter Tryz.func82, Tryz.ntmps82
  go_wp2_with fail
  have hb2 := (boxes2 w 2 2 (.int .i64 a) (.int .i64 b)).2.2
  refine (CH.out _ hb2).mono ?_
  rintro e w1 ⟨rfl, hb1⟩
  go_wp2_with fail
  go_returns
  exact ⟨by rw [HE.out.1, HE.out.2]; rfl, under hb2 hb1⟩
 obtain ⟨hne, hR, hT, hl2⟩ := okB_facts gk
 have hTL := timesR_length (l := l) (fun r hr => by have := (hR r hr).1; omega)
 have HE := Lib.hid (And.intro (show clipL l a = (belowN (timesR l) a : Int) by simp [clipL, gk]) (show clipH l a b = max (belowN (timesR l) a : Int) (uptoN (timesR l) b : Int) by simp [clipH, gk]))
 replace CH : Hid (∀ W, Below w.heap.size w W → Calls Tryz.prog 114 #[.slice A l.length c] W (Ret W (.int .i64 0))) := Lib.hid (fun W hb => by have := CH.out W hb; rwa [gk] at this)
 clear gk
 generalize clipL l a = x at *
 generalize clipH l a b = y at *
 refine calls_marks Tryz.func82 rfl ?_
 simp only [Tryz.ntmps82, List.size_toArray, List.length_cons, List.length_nil, Nat.reduceAdd, Nat.reduceSub, Array.replicate_succ, Array.replicate_zero, List.push_toArray, List.append_toArray, List.nil_append, List.cons_append]
 go_wp2_with fail
 obtain ⟨bx1, bx2, hb2⟩ := boxes2 w 2 2 (.int .i64 a) (.int .i64 b)
 refine (CH.out _ hb2).mono ?_
 rintro e w1 ⟨rfl, hb1⟩
 have hb21 := under hb2 hb1
 have a1 : Boxed w1 w.heap.size 2 (.int .i64 a) := (hb1.block _ bx1.lt).trans bx1
 have a2 : Boxed w1 (w.heap.size + 1) 2 (.int .i64 b) := (hb1.block _ bx2.lt).trans bx2
 have hs1 : w.heap.size + 2 ≤ w1.heap.size := by have := hb1.size; simpa using this
 clear hb1 bx1 bx2 hb2
 go_wp2_with (go_at_call 133; refine (all_any _ _ _ _ _ rfl).mono ?_; rintro e w' ⟨rfl, rfl⟩)
 obtain ⟨b1, b2, b3, b4⟩ := boxes3 w1 3 3 22 (.int .i64 0) (.int .i64 0) (.slice A l.length c)
 obtain ⟨W2, hW2⟩ : ∃ W2, W2 = (((w1.alloc (.cells #[.int .i64 0] 3)).alloc (.cells #[.int .i64 0] 3)).alloc (.cells #[.slice A l.length c] 22)) := ⟨_, rfl⟩
 rw [← hW2] at b1 b2 b3 b4 ⊢
 have hs2 : W2.heap.size = w1.heap.size + 3 := by rw [hW2]; simp
 have hXN : Hangs (X2 w1.heap.size (w1.heap.size + 1)) w1.heap.size := X2_hangs _ _ _
 have hbw : Below w.heap.size w W2 := under hb21 b4
 have a3 : Boxed W2 w.heap.size 2 (.int .i64 a) := (b4.block _ a1.lt).trans a1
 have a4 : Boxed W2 (w.heap.size + 1) 2 (.int .i64 b) := (b4.block _ a2.lt).trans a2
 have hseq := all1_stops (α := Int × Int) id (numR 0 (timesR l)) (X2 w1.heap.size (w1.heap.size + 1)) w1.heap.size hXN l (by omega) hR (List.map_id _) (by rw [numR_length]; omega) A c (w1.heap.size + 2) W2 (by omega) ⟨hr.below hbw, fun b' off hne' e hx => by
   obtain ⟨r, l', rfl⟩ := List.exists_cons_of_ne_nil hne'
   obtain ⟨b'', off', e1, e2, _⟩ := hk 0 r rfl
   rw [e] at e1
   cases e1
   rcases hx with hx | hx <;> omega, fun k hx => by rcases hx with hx | hx <;> omega⟩ b3
 have hNL := numR_length 0 (timesR l)
 have hNM := numR_map 0 (timesR l)
 have HNM := Lib.hid hNM
 clear hW2 hr hk hR a1 a2 b3 b4 hNM
 refine wp_rangeC (X := X2 w1.heap.size (w1.heap.size + 1)) (b := w1.heap.size) hXN (by omega) (gf := 181) (lb := #[.pointer (some ⟨w1.heap.size + 1 + 1, 0, none⟩)]) rfl (enters_of Tryz.func181 (by kernel_rfl) rfl)
  hseq (fun _ => rfl)
  (fun pre W' => (Boxed W' w.heap.size 2 (.int .i64 a) ∧ Boxed W' (w.heap.size + 1) 2 (.int .i64 b)) ∧ Boxed W' w1.heap.size 3 (.int .i64 (belowN (pre.map (·.2)) a)) ∧ Boxed W' (w1.heap.size + 1) 3 (.int .i64 (uptoN (pre.map (·.2)) b)) ∧ Below w.heap.size w W') (fun _ _ _ => False)
  ?oI (fun _ _ _ _ _ hs _ _ => hs) ⟨⟨a3, a4⟩, b1, b2, hbw⟩
  (fun d => { tmps := #[Value.slice A l.length c, Value.int .i64 a, Value.int .i64 b, undef, Value.pointer (some ⟨w.heap.size, 0, none⟩), Value.pointer (some ⟨w.heap.size + 1, 0, none⟩), Value.int .i64 0, Value.int .i64 0, Value.pointer (some ⟨w1.heap.size, 0, none⟩), Value.pointer (some ⟨w1.heap.size + 1, 0, none⟩), undef, .int .i64 d.2, Value.slice A l.length c, Value.int .i64 0, Value.bool false, Value.slice A l.length c, Value.func (Fn.func 181) #[] #[Value.pointer (some ⟨w1.heap.size + 1 + 1, 0, none⟩)], .int .i64 d.1, .int .i64 d.2, undef, undef, undef, undef, undef, undef, undef, undef, undef, undef, undef, undef, undef, undef], defers := [] }) ?assign ?body ?done ?stop
 case oI =>
  intro pre W1 W1' row ⟨⟨h1, h2⟩, h3, h4, h5⟩ hgr hr
  have hr2 : ∀ r, row = some r → ∃ o : Obj, W1.heap[r]? = some o ∧ o.isCells = false := fun r e => (hr r e).2
  exact ⟨⟨boxed_grown h1 hgr hr2, boxed_grown h2 hgr hr2⟩, boxed_grown h3 hgr hr2, boxed_grown h4 hgr hr2, below_grown (C := W2.heap.size) hbw.size h5 hgr (fun r e => (hr r e).1)⟩
 case assign =>
  intro l' d W K hK
  gi_wp2
  simpa using hK
 case body =>
  rintro l' pre ⟨p, z⟩ W1 ⟨⟨h1, h2⟩, h3, h4, h5⟩ hlt
  have hpl : pre.length ≤ 256 := by omega
  have hB1 := belowN_snoc (pre.map (·.2)) z a
  have hU1 := uptoN_snoc (pre.map (·.2)) z b
  have hBl : belowN (pre.map (·.2)) a ≤ 256 := Nat.le_trans (belowN_le _ _) (by rw [List.length_map]; exact hpl)
  have hUl : uptoN (pre.map (·.2)) b ≤ 256 := Nat.le_trans (uptoN_le _ _) (by rw [List.length_map]; exact hpl)
  have hma : (pre ++ [(p, z)]).map (·.2) = pre.map (·.2) ++ [z] := by simp
  have HM := Lib.hid hma
  generalize belowN (pre.map (·.2)) a = n at *
  generalize uptoN (pre.map (·.2)) b = m at *
  have hc1 := h1.cell
  have hc2 := h2.cell
  have hc3 := h3.cell
  have hc4 := h4.cell
  have hf3 := h3.frozen
  have hf4 := h4.frozen
  have H1 := Lib.hid h1
  have H2 := Lib.hid h2
  have H3 := Lib.hid h3
  have H4 := Lib.hid h4
  have H5 := Lib.hid h5
  have HB := Lib.hid hB1
  have HU := Lib.hid hU1
  clear h1 h2 h3 h4 h5 hseq b1 b2 a3 a4 hlt hB1 hU1 hma hpl
  have n1 : w.heap.size ≠ w1.heap.size := by omega
  have n2 : w.heap.size ≠ w1.heap.size + 1 := by omega
  have n3 : w.heap.size + 1 ≠ w1.heap.size := by omega
  have n4 : w.heap.size + 1 ≠ w1.heap.size + 1 := by omega
  have N := Lib.hid (And.intro n1 (And.intro n2 (And.intro n3 n4)))
  have hge : w.heap.size ≤ w1.heap.size := by omega
  clear n1 n2 n3 n4
  by_cases g1 : z < a
  ·obtain ⟨wa, hwa⟩ : ∃ wa, W1.setCell ⟨w1.heap.size, 0, none⟩ (.int .i64 ((n : Int) + 1)) = wa := ⟨_, rfl⟩
   have k1 : Boxed wa w.heap.size 2 (.int .i64 a) := hwa ▸ (Below.heap_setCell W1 _ _ _ N.out.1).trans H1.out
   have k2 : Boxed wa (w.heap.size + 1) 2 (.int .i64 b) := hwa ▸ (Below.heap_setCell W1 _ _ _ N.out.2.2.1).trans H2.out
   have k3 : Boxed wa w1.heap.size 3 (.int .i64 ((n : Int) + 1)) := hwa ▸ H3.out.set _
   have k4 : Boxed wa (w1.heap.size + 1) 3 (.int .i64 m) := hwa ▸ (Below.heap_setCell W1 _ _ _ (by simp)).trans H4.out
   have k5 : Below w.heap.size w wa := hwa ▸ H5.out.setCell (p := ⟨w1.heap.size, 0, none⟩) hge _
   have k6 : KeepsC (X2 w1.heap.size (w1.heap.size + 1)) W1 wa := hwa ▸ keepsC_set (.inl rfl) _
   have k7 : KeepsOthers W1 wa := hwa ▸ KeepsOthers.setCell _ _ _
   have e2 := k2.cell
   have e4 := k4.cell
   have f4 := k4.frozen
   have HBe : Hid ((belowN ((pre ++ [(p, z)]).map (·.2)) a : Int) = (n : Int) + 1) := Lib.hid (by rw [HM.out, HB.out, if_pos g1]; rfl)
   have K1 := Lib.hid k1
   have K2 := Lib.hid k2
   have K3 := Lib.hid k3
   have K4 := Lib.hid k4
   have K5 := Lib.hid k5
   have K6 := Lib.hid k6
   have K7 := Lib.hid k7
   clear k1 k2 k3 k4 k5 k6 k7
   by_cases g2 : z ≤ b
   ·have HUe : Hid ((uptoN ((pre ++ [(p, z)]).map (·.2)) b : Int) = (m : Int) + 1) := Lib.hid (by rw [HM.out, HU.out, if_pos g2]; rfl)
    gi_wp2
    refine ⟨(K7.out.trans (KeepsOthers.setCell _ _ _)).from _, K6.out.trans (keepsC_set (.inr rfl) _), ⟨(Below.heap_setCell wa _ _ _ N.out.2.1).trans K1.out, (Below.heap_setCell wa _ _ _ N.out.2.2.2).trans K2.out⟩, ?_, ?_, K5.out.setCell (p := ⟨w1.heap.size + 1, 0, none⟩) (by simp; omega) _⟩
    ·rw [HBe.out]; exact (Below.heap_setCell wa _ _ _ (by simp)).trans K3.out
    ·rw [HUe.out]; exact K4.out.set _
   ·have HUe : Hid ((uptoN ((pre ++ [(p, z)]).map (·.2)) b : Int) = (m : Int)) := Lib.hid (by rw [HM.out, HU.out, if_neg g2]; rfl)
    gi_wp2
    exact ⟨K7.out.from _, K6.out, ⟨K1.out, K2.out⟩, by rw [HBe.out]; exact K3.out, by rw [HUe.out]; exact K4.out, K5.out⟩
  ·have HBe : Hid ((belowN ((pre ++ [(p, z)]).map (·.2)) a : Int) = (n : Int)) := Lib.hid (by rw [HM.out, HB.out, if_neg g1]; rfl)
   by_cases g2 : z ≤ b
   ·have HUe : Hid ((uptoN ((pre ++ [(p, z)]).map (·.2)) b : Int) = (m : Int) + 1) := Lib.hid (by rw [HM.out, HU.out, if_pos g2]; rfl)
    gi_wp2
    refine ⟨(KeepsOthers.setCell _ _ _).from _, keepsC_set (.inr rfl) _, ⟨(Below.heap_setCell W1 _ _ _ N.out.2.1).trans H1.out, (Below.heap_setCell W1 _ _ _ N.out.2.2.2).trans H2.out⟩, ?_, ?_, H5.out.setCell (p := ⟨w1.heap.size + 1, 0, none⟩) (by simp; omega) _⟩
    ·rw [HBe.out]; exact (Below.heap_setCell W1 _ _ _ (by simp)).trans H3.out
    ·rw [HUe.out]; exact H4.out.set _
   ·have HUe : Hid ((uptoN ((pre ++ [(p, z)]).map (·.2)) b : Int) = (m : Int)) := Lib.hid (by rw [HM.out, HU.out, if_neg g2]; rfl)
    gi_wp2
    exact ⟨KeepsFrom.refl _ _, ⟨Nat.le_refl _, fun _ h => .inl h, fun _ _ h _ _ => h⟩, ⟨H1.out, H2.out⟩, by rw [HBe.out]; exact H3.out, by rw [HUe.out]; exact H4.out, H5.out⟩
 case done =>
  rintro D ys W1 hD rfl ⟨_, h3, h4, h5⟩ hK
  rw [HNM.out] at h3 h4
  obtain ⟨e1, e2⟩ := HE.out
  generalize belowN (timesR l) a = n at *
  generalize uptoN (timesR l) b = m at *
  have hc3 := h3.cell
  have hc4 := h4.cell
  have HX := Lib.hid (And.intro e1 e2)
  clear hseq b1 b2 a3 a4 e1 e2 HE
  go_wp2_with fail
  go_quiet (fail)
  go_wp2_with fail
  have hK' : (W1.drewN nq).heap[D]? = some (.deferred (some [])) := hK
  refine ⟨by simp, .inl ⟨_, _, rfl, run_takeDeferred hK', ?_⟩⟩
  refine ⟨.tuple #[.int .i64 n, .int .i64 (max (n : Int) m)], by simp [results, Tryz.results82, go_sem], by rw [HX.out.1, HX.out.2], ?_⟩
  exact below_grown (C := W2.heap.size) hbw.size (below_drewN h5 nq) (grownBy_putObj' (W1.drewN nq) D _) (fun r e => by cases e; exact hD)
 case stop =>
  rintro D c' pre W1 _ _ h _
  exact h.elim
end Go.Proofs.YtcfidimnbamnkaaGreat.P7
