/-
 Layer 7: runs: the runs of the times of rows of runs are laid. Conditions: those written at each fact.
-/
import Derived.Test.YtcfidimnbamnkaaGreatNB
import Derived.Test.YtcfidimnbamnkaaGreatNA
import Derived.WalkMore
namespace Go.Proofs.YtcfidimnbamnkaaGreat.P7
open Go.RowKit Go.Shelf

end Go.Proofs.YtcfidimnbamnkaaGreat.P7

/-
 Layer 7: runs: the times of pieces. Conditions: those written at each fact.
-/
namespace Go.Proofs.YtcfidimnbamnkaaGreat.P7
open Go.RowKit Go.Shelf

theorem steps_app (f s : Int) (m n : Nat) : stepsR f s (m + n) = stepsR f s m ++ stepsR (f + m * s) s n := by
 induction m generalizing f with
 | zero => simp [stepsR]
 | succ m ih =>
  rw [show m + 1 + n = (m + n) + 1 by omega]
  simp only [stepsR, List.cons_append]
  rw [ih]
  have e : f + s + (m : Int) * s = f + ((m + 1 : Nat) : Int) * s := by rw [Int.natCast_add, Int.add_mul]; omega
  rw [e]
theorem steps_get (f s : Int) {k n : Nat} (h : k < n) : (stepsR f s n)[k]? = some (f + k * s) := by
 obtain ⟨m, rfl⟩ : ∃ m, n = k + (m + 1) := ⟨n - k - 1, by omega⟩
 rw [steps_app, List.getElem?_append_right (by rw [steps_length]; exact Nat.le_refl _), steps_length, Nat.sub_self]
 rfl
theorem steps_mem {f s t : Int} {n : Nat} (h : t ∈ stepsR f s n) : ∃ k : Nat, k < n ∧ t = f + k * s := by
 obtain ⟨k, hk⟩ := List.mem_iff_getElem?.1 h
 have hlt : k < n := by have := (List.getElem?_eq_some_iff.1 hk).1; rwa [steps_length] at this
 rw [steps_get f s hlt] at hk
 exact ⟨k, hlt, (Option.some.inj hk).symm⟩
theorem timesR_app : ∀ (l m : List Rn), timesR (l ++ m) = timesR l ++ timesR m
 | [], m => rfl
 | r :: l, m => by simp only [List.cons_append, timesR, timesR_app l m, List.append_assoc]
theorem totalR_app : ∀ (l m : List Rn), totalR (l ++ m) = totalR l + totalR m
 | [], m => by simp [totalR]
 | r :: l, m => by simp only [List.cons_append, totalR, totalR_app l m]; omega
theorem run_times {r : Rn} (h : RunOk r) : ∀ t ∈ stepsR r.f r.s r.c.toNat, 0 ≤ t ∧ t ≤ 281474976710656 := by
 intro t ht
 obtain ⟨k, hk, rfl⟩ := steps_mem ht
 obtain ⟨h1, h2, h3, h4, h5, h6, h7⟩ := h
 have a1 : 0 ≤ (k : Int) * r.s := Int.mul_nonneg (by omega) h4
 have a2 : (k : Int) * r.s ≤ (r.c - 1) * r.s := Int.mul_le_mul_of_nonneg_right (by omega) h4
 omega
theorem times_all : ∀ {l : List Rn}, (∀ r ∈ l, RunOk r) → ∀ t ∈ timesR l, 0 ≤ t ∧ t ≤ 281474976710656
 | [], _, t, ht => by simp [timesR] at ht
 | r :: l, h, t, ht => by
  simp only [timesR, List.mem_append] at ht
  rcases ht with ht | ht
  ·exact run_times (h r (List.mem_cons_self ..)) t ht
  ·exact times_all (l := l) (fun x hx => h x (List.mem_cons_of_mem _ hx)) t ht
theorem where_len : ∀ {l : List Rn} {p : Int}, (∀ r ∈ l, 1 ≤ r.c) → 0 ≤ p → p < totalR l → ((timesR (l.take (whereR l p).1)).length : Int) + (whereR l p).2 = p
 | [], p, _, h0, h1 => by simp only [totalR] at h1; omega
 | r :: l, p, h, h0, h1 => by
  simp only [totalR] at h1
  unfold whereR
  split
  ·simp [timesR]
  ·next e =>
   have := where_len (l := l) (p := p - r.c) (fun x hx => h x (List.mem_cons_of_mem _ hx)) (by omega) (by omega)
   have hc := h r (List.mem_cons_self ..)
   simp only [List.take_succ_cons, timesR, List.length_append, steps_length]
   omega
def timeAt (l : List Rn) (i : Int) : Int := match l[(whereR l i).1]? with | some r => r.f + (whereR l i).2 * r.s | none => 0
theorem times_get {l : List Rn} {p : Int} (h : ∀ r ∈ l, 1 ≤ r.c) (h0 : 0 ≤ p) (h1 : p < totalR l) : (timesR l)[p.toNat]? = some (timeAt l p) := by
 obtain ⟨r, a1, a2, a3⟩ := whereR_lt h h0 h1
 have hw := where_len h h0 h1
 have ht : timeAt l p = r.f + (whereR l p).2 * r.s := by unfold timeAt; rw [a1]
 rw [ht]
 generalize whereR l p = x at *
 obtain ⟨k, q⟩ := x
 simp only at a1 a2 a3 hw ⊢
 have hl : l = l.take k ++ r :: l.drop (k + 1) := by rw [← drop_of a1, List.take_append_drop]
 have e : timesR l = timesR (l.take k) ++ (stepsR r.f r.s r.c.toNat ++ timesR (l.drop (k + 1))) := by
  conv => lhs; rw [hl]
  rw [timesR_app]; rfl
 rw [e, List.getElem?_append_right (by omega), List.getElem?_append_left (by rw [steps_length]; omega), steps_get _ _ (by omega)]
 congr 2
 congr 1
 omega
end Go.Proofs.YtcfidimnbamnkaaGreat.P7

/-
 Layer 7: runs: At, Pieces and Cut, with the error by which each is left. Conditions: those written at each fact.
-/
namespace Go.Proofs.YtcfidimnbamnkaaGreat.P7
open Go.RowKit Go.Shelf

def codeA (l : List Rn) (i : Int) : Int := if okB l then (if 0 ≤ i ∧ i < totalR l then 0 else 4) else 170
def valA (l : List Rn) (i : Int) : Int := if codeA l i = 0 then timeAt l i else 0
set_option maxHeartbeats 1000000 in
theorem at1_any (l : List Rn) (hl : l.length ≤ 1000000) (i : Int) (v : Value) (W : World) (B Bi : Nat) (hb : Boxed W B 22 v) (hbi : Boxed W Bi 3 (.int .i64 i)) (h : ReadsR W v l) :
  Calls Tryz.prog 124 #[.pointer (some ⟨B, 0, none⟩), .pointer (some ⟨Bi, 0, none⟩)] W (Throws W (fun x _ => codeA l i = 0 ∧ x = .int .i64 (timeAt l i)) (fun code => codeA l i = code ∧ ¬ code = 0)) := by
 have CA := Lib.hid (count_any l (by omega) v W h)
 have hr := h
 obtain ⟨A, c, rfl, hc, hk⟩ := h
 have hcl := hb.cell
 have hci := hbi.cell
 have hbl := hb.lt
 have hbil := hbi.lt
 clear hb hbi
 cases gk : okB l
 ·have HK := Lib.hid gk
  have HC : Hid (codeA l i = 170) := Lib.hid (by simp [codeA, gk])
  clear gk
  go_enter Tryz.func124, Tryz.ntmps124
  go_wp2_with (go_at_call 117; refine CA.out.mono ?_; rintro e w1 ⟨he, hb⟩; rw [HK.out] at he; replace he : e = thrown 170 := he; subst he)
  exact ⟨rfl, hb, .inr ⟨170, rfl, HC.out, by decide⟩⟩
 obtain ⟨hne, hR, hT, hl2⟩ := okB_facts gk
 have CB : Hid (Calls Tryz.prog 117 #[.slice A l.length c] W (Ret W (.int .i64 (totalR l)))) := Lib.hid (CA.out.mono fun e w' he => ⟨by rw [he.1, gk]; rfl, he.2⟩)
 have HN := Lib.hid (show (if 0 ≤ i ∧ i < totalR l then (0 : Int) else 4) = codeA l i by simp [codeA, gk])
 clear gk CA
 obtain ⟨n, hn⟩ : ∃ n, n = totalR l := ⟨_, rfl⟩
 rw [← hn] at CB hT HN
 by_cases g0 : 0 ≤ i
 ·have d0 : decide (0 ≤ i) = true := by simpa using g0
  by_cases g1 : i < n
  ·have HC : Hid (codeA l i = 0) := Lib.hid (by rw [← HN.out, if_pos ⟨g0, g1⟩])
   have hc1 : ∀ r ∈ l, 1 ≤ r.c := fun r hr => (hR r hr).1
   have WA := Lib.hid (fun W' (hb' : Below W.heap.size W W') => where_any l hl hR i g0 (by omega) (by omega) _ W' (hr.below hb'))
   obtain ⟨⟨f, s, d⟩, a1, a2, a3⟩ := whereR_lt (l := l) hc1 g0 (by omega)
   have HT : Hid (timeAt l i = f + (whereR l i).2 * s) := Lib.hid (by unfold timeAt; rw [a1])
   generalize whereR l i = x at *
   obtain ⟨k, q⟩ := x
   simp only at a1 a2 a3 WA HT
   obtain ⟨o1, o2, o3, o4, o5, o6, o7⟩ : RunOk ⟨f, s, d⟩ := hR _ (List.mem_of_getElem? a1)
   simp only at o1 o2 o3 o4 o5 o6 o7
   have NT := Lib.hid (nth_at f s d q a2 (by omega) (by omega) o5 o3 o7)
   have MT := Lib.hid (must_true 4)
   obtain ⟨bb, off, rfl, hbw, e3, e4, e5⟩ := hk k _ a1
   simp only at e3 e4 e5
   have hkl : k < l.length := (List.getElem?_eq_some_iff.1 a1).1
   have i1 : (k : Int) < (l.length : Int) := by omega
   have i2 : (0 : Int) ≤ (k : Int) := by omega
   clear hk hR hc1 a1 hn HN hne
   go_enter Tryz.func124, Tryz.ntmps124
   go_wp2_with fail
   refine CB.out.mono ?_
   rintro e w1 ⟨rfl, hb1⟩
   have q1 := (hb1.cell (p := ⟨Bi, 0, none⟩) hbil).trans hci
   go_wp2_with fail
   refine (MT.out _).mono ?_
   rintro e w2 ⟨rfl, hb2⟩
   have hb12 := under hb1 hb2
   have q2 := (hb12.cell (p := ⟨Bi, 0, none⟩) hbil).trans hci
   have q3 := (hb12.cell (p := ⟨B, 0, none⟩) hbl).trans hcl
   go_wp2_with fail
   refine (WA.out _ hb12).mono ?_
   rintro e w3 ⟨rfl, hb3⟩
   have hb13 := under hb12 hb3
   have q4 := (hb13.cell (p := ⟨B, 0, none⟩) hbl).trans hcl
   have q5 := (hb13.cell (p := ⟨bb, off + k * 3, none⟩) hbw).trans e3
   have q6 := (hb13.cell (p := ⟨bb, off + k * 3 + 1, none⟩) hbw).trans e4
   have q7 := (hb13.cell (p := ⟨bb, off + k * 3 + 2, none⟩) hbw).trans e5
   go_wp2_with fail
   refine (NT.out _).mono ?_
   rintro e w4 ⟨rfl, hb4⟩
   go_wp2_with fail
   go_ret
   exact ⟨under hb13 hb4, .inl ⟨_, rfl, HC.out, by rw [HT.out]; rfl⟩⟩
  ·have HC : Hid (codeA l i = 4) := Lib.hid (by rw [← HN.out, if_neg (fun h => g1 h.2)])
   have HD := Lib.hid (decide_eq_false g1)
   have MF := Lib.hid (must_false 4)
   clear g1 hn HN
   go_enter Tryz.func124, Tryz.ntmps124
   go_wp2_with fail
   refine CB.out.mono ?_
   rintro e w1 ⟨rfl, hb1⟩
   have q1 := (hb1.cell (p := ⟨Bi, 0, none⟩) hbil).trans hci
   go_wp2_with fail
   rw [HD.out]
   refine (MF.out _).mono ?_
   rintro e w2 ⟨rfl, hb2⟩
   go_wp2_with fail
   exact ⟨rfl, under hb1 hb2, .inr ⟨4, rfl, HC.out, by decide⟩⟩
 ·have HC : Hid (codeA l i = 4) := Lib.hid (by rw [← HN.out, if_neg (fun h => g0 h.1)])
  have MF := Lib.hid (must_false 4)
  clear hn HN
  go_enter Tryz.func124, Tryz.ntmps124
  go_wp2_with fail
  refine CB.out.mono ?_
  rintro e w1 ⟨rfl, hb1⟩
  have q1 := (hb1.cell (p := ⟨Bi, 0, none⟩) hbil).trans hci
  go_wp2_with fail
  refine (MF.out _).mono ?_
  rintro e w2 ⟨rfl, hb2⟩
  go_wp2_with fail
  exact ⟨rfl, under hb1 hb2, .inr ⟨4, rfl, HC.out, by decide⟩⟩
theorem boxes2 (w : World) (t1 t2 : TypeId) (v1 v2 : Value) : Boxed ((w.alloc (.cells #[v1] t1)).alloc (.cells #[v2] t2)) w.heap.size t1 v1 ∧ Boxed ((w.alloc (.cells #[v1] t1)).alloc (.cells #[v2] t2)) (w.heap.size + 1) t2 v2 ∧ Below w.heap.size w ((w.alloc (.cells #[v1] t1)).alloc (.cells #[v2] t2)) :=
 ⟨(Boxed.new w _ _).alloc _, by have := Boxed.new (w.alloc (.cells #[v1] t1)) t2 v2; rwa [World.size_alloc] at this, ((Below.refl _ w).alloc (Nat.le_refl _) _).alloc (by simp) _⟩
set_option maxHeartbeats 1000000 in
theorem atA_any (l : List Rn) (hl : l.length ≤ 1000000) (i : Int) (v : Value) (w : World) (h : ReadsR w v l) : Calls Tryz.prog 73 #[v, .int .i64 i] w (Ret w (.tuple #[.int .i64 (valA l i), .int .i64 (codeA l i)])) := by
 have hr := h
 obtain ⟨A, c, rfl, _, _⟩ := h
 have hmf := makes_func
 obtain ⟨b1, b2, b3⟩ := boxes2 w 22 3 (.slice A l.length c) (.int .i64 i)
 obtain ⟨W, hW⟩ : ∃ W, (w.alloc (.cells #[.slice A l.length c] 22)).alloc (.cells #[.int .i64 i] 3) = W := ⟨_, rfl⟩
 rw [hW] at b1 b2 b3
 have C1 := at1_any l hl i (.slice A l.length c) (eCell W) w.heap.size (w.heap.size + 1) (b1.alloc _) (b2.alloc _) ((hr.below b3).below (eCell_below _))
 have TD := Lib.hid (told_T 124 #[.pointer (some ⟨w.heap.size, 0, none⟩), .pointer (some ⟨w.heap.size + 1, 0, none⟩)] (enters_of Tryz.func124 (by kernel_rfl) rfl) _ _ _ (fun _ _ _ hg => hg) C1)
 have HV := Lib.hid (show valA l i = if codeA l i = 0 then timeAt l i else 0 from rfl)
 have HB3 := Lib.hid b3
 generalize valA l i = y at *
 generalize codeA l i = x at *
 clear C1 hr b1 b2 b3
 go_enter Tryz.func73, Tryz.ntmps73
 go_wp2_with (go_at_call 123; refine TD.out.mono ?_; rintro e w1 ⟨hb, (⟨u, rfl, hok, rfl⟩ | ⟨code, rfl, hok, hc0⟩)⟩)
 ·go_wp2_with fail
  go_returns
  exact ⟨by rw [HV.out, if_pos hok, hok]; rfl, under HB3.out hb⟩
 ·go_wp2_with fail
  go_returns
  exact ⟨by rw [HV.out, hok, if_neg hc0]; rfl, under HB3.out hb⟩

end Go.Proofs.YtcfidimnbamnkaaGreat.P7

/-
 Layer 7: runs: the place of a time. Conditions: those written at each fact.
-/
namespace Go.Proofs.YtcfidimnbamnkaaGreat.P7
open Go.RowKit Go.Shelf
attribute [local go_sem] Oper.semAt_some

end Go.Proofs.YtcfidimnbamnkaaGreat.P7

/-
 Layer 7: runs: Find and Clip. Conditions: those written at each fact.
-/
namespace Go.Proofs.YtcfidimnbamnkaaGreat.P7
open Go.RowKit Go.Shelf
attribute [local go_sem] Oper.semAt_some

def X2 (g g' : Nat) : World → Nat → Prop := fun _ k => k = g ∨ k = g'
end Go.Proofs.YtcfidimnbamnkaaGreat.P7

/-
 Layer 7: runs: times have just their runs, and runs just their times. Conditions: those written at each fact.
-/
namespace Go.Proofs.YtcfidimnbamnkaaGreat.P7
open Go.RowKit Go.Shelf

theorem fold_steps (f s : Int) (sh : List Rn) : ∀ (m : Nat) (n : Int), 2 ≤ n → (stepsR (f + n * s) s m).foldl takeR (⟨f, s, n⟩, sh) = (⟨f, s, n + m⟩, sh)
 | 0, n, _ => by simp [stepsR]
 | m + 1, n, h => by
  have e : takeR (⟨f, s, n⟩, sh) (f + n * s) = (⟨f, s, n + 1⟩, sh) := by
   unfold takeR
   simp only
   rw [if_neg (by omega), if_neg (by omega), if_pos trivial]
  have e2 : f + n * s + s = f + (n + 1) * s := by rw [Int.add_mul]; omega
  rw [stepsR, List.foldl_cons, e, e2, fold_steps f s sh m (n + 1) (by omega)]
  simp only [Prod.mk.injEq, Rn.mk.injEq, and_true, true_and]
  omega
theorem fold_run {r : Rn} {room : Int} (h : runB r room = true) (sh : List Rn) : (stepsR (r.f + r.s) r.s (r.c.toNat - 1)).foldl takeR (⟨r.f, 0, 1⟩, sh) = (r, sh) := by
 obtain ⟨f, s, c⟩ := r
 unfold runB at h
 simp only [Bool.and_eq_true, decide_eq_true_eq] at h
 obtain ⟨h1, _, _, h2⟩ := h
 by_cases g : c = 1
 ·rw [if_pos g] at h2
  have h3 := of_decide_eq_true h2
  subst g h3
  rfl
 ·obtain ⟨m, hm⟩ : ∃ m, c.toNat - 1 = m + 1 := ⟨c.toNat - 2, by omega⟩
  simp only [hm, stepsR, List.foldl_cons]
  have e : takeR (⟨f, 0, 1⟩, sh) (f + s) = (⟨f, s, 2⟩, sh) := by
   unfold takeR
   simp only
   rw [if_neg (by omega), if_pos trivial]
   simp only [Prod.mk.injEq, Rn.mk.injEq, and_true, true_and]
   omega
  rw [e, show f + s + s = f + 2 * s by omega, fold_steps f s sh m 2 (by omega)]
  simp only [Prod.mk.injEq, Rn.mk.injEq, and_true, true_and]
  omega
theorem steps_first {r : Rn} {room : Int} (h : runB r room = true) : stepsR r.f r.s r.c.toNat = r.f :: stepsR (r.f + r.s) r.s (r.c.toNat - 1) := by
 have h1 : 1 ≤ r.c := by unfold runB at h; simp only [Bool.and_eq_true, decide_eq_true_eq] at h; exact h.1
 obtain ⟨m, hm⟩ : ∃ m, r.c.toNat = m + 1 := ⟨r.c.toNat - 1, by omega⟩
 rw [hm, Nat.add_sub_cancel]
 rfl
theorem fold_rest : ∀ (l : List Rn) (a : Rn) (n : Int) (sh : List Rn), restB (some a) n l = true → ((timesR l).foldl takeR (a, sh)).2 ++ [((timesR l).foldl takeR (a, sh)).1] = sh ++ a :: l
 | [], a, n, sh, _ => by simp [timesR]
 | r :: l, a, n, sh, h => by
  simp only [restB, Bool.and_eq_true] at h
  obtain ⟨h1, h2, h3⟩ := h
  unfold behindB at h2
  simp only [Bool.and_eq_true, decide_eq_true_eq] at h2
  obtain ⟨b1, b2, b3⟩ := h2
  have e : takeR (a, sh) r.f = (⟨r.f, 0, 1⟩, sh ++ [a]) := by
   unfold takeR
   simp only
   rw [if_neg (by omega), if_neg (by omega), if_neg b3]
  rw [timesR, steps_first h1, List.cons_append, List.foldl_cons, List.foldl_append, e, fold_run h1, fold_rest l r _ (sh ++ [a]) h3]
  simp
theorem laid_times {l : List Rn} (h : okB l = true) : laidR (timesR l) = l := by
 unfold okB at h
 simp only [Bool.and_eq_true, decide_eq_true_eq] at h
 obtain ⟨hne, h⟩ := h
 obtain ⟨r, m, rfl⟩ := List.exists_cons_of_ne_nil hne
 simp only [restB, Bool.and_eq_true, true_and] at h
 obtain ⟨h1, h3⟩ := h
 have e : takeR iniR r.f = (⟨r.f, 0, 1⟩, []) := by simp [takeR, iniR]
 have := fold_rest m r _ [] h3
 unfold laidR goR
 rw [timesR, steps_first h1, List.cons_append, List.foldl_cons, List.foldl_append, e, fold_run h1]
 simpa using this
theorem steps_up {f s : Int} (hs : 1 ≤ s) : ∀ (n : Nat) (x : Int), (stepsR x s n).Pairwise (· < ·) ∧ ∀ t ∈ stepsR x s n, x ≤ t ∧ t ≤ x + ((n : Int) - 1) * s
 | 0, x => by simp [stepsR]
 | n + 1, x => by
  obtain ⟨h1, h2⟩ := steps_up (f := f) hs n (x + s)
  have e : ((n + 1 : Nat) : Int) - 1 = (n : Int) := by omega
  have e2 : x + s + ((n : Int) - 1) * s = x + (n : Int) * s := by rw [Int.sub_mul]; omega
  have e3 : 0 ≤ (n : Int) * s := Int.mul_nonneg (by omega) (by omega)
  rw [e]
  refine ⟨List.pairwise_cons.2 ⟨fun t ht => by have := (h2 t ht).1; omega, h1⟩, fun t ht => ?_⟩
  rcases List.mem_cons.1 ht with rfl | ht
  ·omega
  ·have := h2 t ht; omega
theorem run_up {r : Rn} {room : Int} (h : runB r room = true) : (stepsR r.f r.s r.c.toNat).Pairwise (· < ·) ∧ ∀ t ∈ stepsR r.f r.s r.c.toNat, r.f ≤ t ∧ t ≤ r.f + (r.c - 1) * r.s := by
 unfold runB at h
 simp only [Bool.and_eq_true, decide_eq_true_eq] at h
 obtain ⟨h1, _, _, h2⟩ := h
 split at h2
 ·next e => rw [e]; simp [stepsR]
 ·simp only [Bool.and_eq_true, decide_eq_true_eq] at h2
  obtain ⟨a, b⟩ := steps_up (f := 0) h2.1 r.c.toNat r.f
  refine ⟨a, fun t ht => ?_⟩
  have := b t ht
  rwa [Int.toNat_of_nonneg (by omega)] at this
theorem rest_up : ∀ (l : List Rn) (p : Option Rn) (n : Int), restB p n l = true → (timesR l).Pairwise (· < ·) ∧ ∀ a, p = some a → ∀ t ∈ timesR l, a.f + (a.c - 1) * a.s < t
 | [], _, _, _ => by simp [timesR]
 | r :: l, p, n, h => by
  simp only [restB, Bool.and_eq_true] at h
  obtain ⟨h1, h2, h3⟩ := h
  obtain ⟨a1, a2⟩ := run_up h1
  obtain ⟨b1, b2⟩ := rest_up l (some r) _ h3
  refine ⟨List.pairwise_append.2 ⟨a1, b1, fun x hx y hy => ?_⟩, fun a ha t ht => ?_⟩
  ·have := (a2 x hx).2
   have := b2 r rfl y hy
   omega
  ·subst ha
   unfold behindB at h2
   simp only [Bool.and_eq_true, decide_eq_true_eq] at h2
   have hf : a.f + (a.c - 1) * a.s < r.f := h2.2.1
   rcases List.mem_append.1 ht with ht | ht
   ·have := (a2 t ht).1; omega
   ·have h4 := b2 r rfl t ht
    have h5 : r.f ∈ stepsR r.f r.s r.c.toNat := by rw [steps_first h1]; exact List.mem_cons_self ..
    have := (a2 _ h5).2
    omega
theorem times_are {l : List Rn} (h : okB l = true) : areB (timesR l) = true := by
 obtain ⟨hne, hR, hT, hl2⟩ := okB_facts h
 have hTL := timesR_length (l := l) (fun r hr => by have := (hR r hr).1; omega)
 have h2 : restB none 0 l = true := by unfold okB at h; simp only [Bool.and_eq_true] at h; exact h.2
 have hpos : 1 ≤ totalR l := by
  obtain ⟨r, m, rfl⟩ := List.exists_cons_of_ne_nil hne
  have h1 := (hR r (List.mem_cons_self ..)).1
  have := totalR_pos (l := m) (fun x hx => by have := (hR x (List.mem_cons_of_mem _ hx)).1; omega)
  simp only [totalR]; omega
 exact (areB_iff _).2 ⟨by omega, by omega, times_all hR, (rest_up l none 0 h2).1⟩

def lastO : Option Rn → List Rn → Option Rn
 | p, [] => p
 | _, x :: l => lastO (some x) l
theorem lastO_snoc : ∀ (l : List Rn) (p : Option Rn) (r : Rn), lastO p (l ++ [r]) = some r
 | [], _, _ => rfl
 | _ :: l, _, r => lastO_snoc l _ r
def followB (p : Option Rn) (r : Rn) : Bool := match p with | none => true | some a => behindB a r
theorem restB_snoc : ∀ (l : List Rn) (p : Option Rn) (n : Int) (r : Rn), restB p n (l ++ [r]) = (restB p n l && (runB r (256 - n - totalR l) && followB (lastO p l) r))
 | [], p, n, r => by
  cases p <;> simp [restB, totalR, lastO, followB]
 | x :: l, p, n, r => by
  simp only [List.cons_append, restB, restB_snoc l (some x) (n + x.c) r, totalR, lastO]
  rw [show 256 - (n + x.c) - totalR l = 256 - n - (x.c + totalR l) by omega]
  simp only [Bool.and_assoc]
structure LaidInv (st : Rn × List Rn) (T : List Int) (z : Int) : Prop where
 times : timesR (st.2 ++ [st.1]) = T
 shut : restB none 0 st.2 = true
 open_ : runB st.1 (256 - totalR st.2) = true
 fol : followB (lastO none st.2) st.1 = true
 last_ : st.1.f + (st.1.c - 1) * st.1.s = z
theorem runB_iff (r : Rn) (room : Int) : runB r room = true ↔ 1 ≤ r.c ∧ r.c ≤ room ∧ (0 ≤ r.f ∧ r.f ≤ 281474976710656) ∧ (if r.c = 1 then r.s = 0 else 1 ≤ r.s ∧ r.s ≤ 281474976710656 ∧ 0 ≤ r.f + (r.c - 1) * r.s ∧ r.f + (r.c - 1) * r.s ≤ 281474976710656) := by
 unfold runB
 simp only [Bool.and_eq_true, decide_eq_true_eq, timeR_iff]
 split <;> simp [timeR_iff]
theorem follow_f {p : Option Rn} {a b : Rn} (h : followB p a = true) (e : a.f = b.f) : followB p b = true := by
 cases p with
 | none => rfl
 | some x => simp only [followB, behindB] at h ⊢; rwa [← e]
theorem LaidInv.next {st : Rn × List Rn} {T : List Int} {z t : Int} (h : LaidInv st T z) (hz : z < t) (ht : t ≤ 281474976710656) (hT : T.length < 256) : LaidInv (takeR st t) (T ++ [t]) t := by
 obtain ⟨⟨f, s, c⟩, sh⟩ := st
 obtain ⟨h1, h2, h3, h4, h5⟩ := h
 simp only at h1 h2 h3 h4 h5
 obtain ⟨a1, a2, a3, a4⟩ := (runB_iff _ _).1 h3
 simp only at a1 a2 a3 a4
 have hpos : ∀ r ∈ sh, 0 ≤ r.c := fun r hr => by
  have := (okB_facts (l := sh) (by
   unfold okB
   rw [h2, Bool.and_true]
   exact decide_eq_true (List.ne_nil_of_mem hr))).2.1 r hr
  have := this.1; omega
 have hlen : totalR sh + c < 256 := by
  have e := timesR_length (l := sh ++ [⟨f, s, c⟩]) (fun r hr => by
   rcases List.mem_append.1 hr with hr | hr
   ·exact hpos r hr
   ·rcases List.mem_singleton.1 hr with rfl
    simp only; omega)
  rw [h1, totalR_app] at e
  simp only [totalR] at e
  omega
 rw [timesR_app] at h1
 simp only [timesR, List.append_nil] at h1
 unfold takeR
 simp only
 rw [if_neg (by omega)]
 split
 ·next e =>
  subst e
  rw [if_pos rfl] at a4
  subst a4
  refine ⟨?_, h2, (runB_iff _ _).2 ⟨by simp only; omega, by simp only; omega, a3, ?_⟩, follow_f h4 rfl, by simp only; omega⟩
  ·rw [timesR_app, ← h1]
   simp only [timesR, List.append_nil, List.append_assoc]
   congr 1
   simp only [show (1 : Int).toNat = 1 from rfl, show (2 : Int).toNat = 2 from rfl, stepsR, List.cons_append, List.nil_append]
   congr 2
   omega
  ·simp only
   rw [if_neg (by omega)]
   omega
 ·next e =>
  rw [if_neg e] at a4
  split
  ·next e2 =>
   have hm := mul_pred c s
   refine ⟨?_, h2, (runB_iff _ _).2 ⟨by simp only; omega, by simp only; omega, a3, ?_⟩, follow_f h4 rfl, ?_⟩
   ·rw [timesR_app, ← h1]
    simp only [timesR, List.append_nil, List.append_assoc]
    congr 1
    rw [show (c + 1).toNat = c.toNat + 1 by omega, steps_app, Int.toNat_of_nonneg (by omega), e2]
    rfl
   ·simp only
    rw [if_neg (by omega), show c + 1 - 1 = c by omega]
    omega
   ·simp only
    rw [show c + 1 - 1 = c by omega]
    omega
  ·next e2 =>
   have hb : behindB ⟨f, s, c⟩ ⟨t, 0, 1⟩ = true := by
    unfold behindB
    simp only [Bool.and_eq_true, decide_eq_true_eq]
    exact ⟨by omega, by omega, e2⟩
   refine ⟨?_, ?_, (runB_iff _ _).2 ⟨by simp only; omega, ?_, by simp only; omega, by simp⟩, ?_, by simp only; omega⟩
   ·rw [timesR_app, timesR_app, ← h1]
    simp [timesR, stepsR]
   ·rw [restB_snoc, h2, h4, show (256 : Int) - 0 - totalR sh = 256 - totalR sh by omega, h3]; rfl
   ·simp only [totalR_app, totalR]; omega
   ·simp only [lastO_snoc, followB]; exact hb
end Go.Proofs.YtcfidimnbamnkaaGreat.P7

/-
 Layer 7: runs: Clip. Conditions: those written at each fact.
-/
namespace Go.Proofs.YtcfidimnbamnkaaGreat.P7
open Go.RowKit Go.Shelf
attribute [local go_sem] Oper.semAt_some

end Go.Proofs.YtcfidimnbamnkaaGreat.P7
