/-
 Layer 12, plain facts: what is laid is read again, wherever it stands; cut off anywhere it is told as such. No program. Conditions: those written at each fact.
-/
import Derived.Test.YtcfidimnbamnkaaGreatVA
import Derived.Test.YtcfidimnbamnkaaGreatRD
import Derived.Test.YtcfidimnbamnkaaGreatSmL
namespace Go.Proofs.YtcfidimnbamnkaaGreat.P12
open Go.RowKit Go.Shelf Go.Proofs.YtcfidimnbamnkaaGreat.P2 Go.Proofs.YtcfidimnbamnkaaGreat.P7 Go.Proofs.YtcfidimnbamnkaaGreat.P11

abbrev Rdr (α : Type) := List Int → Int → Except Int (α × Int)
structure Reads12 {α : Type} (f : Rdr α) (e : List Int) (x : α) : Prop where
 back : ∀ A B : List Int, f (A ++ (e ++ B)) (A.length : Int) = .ok (x, (A.length : Int) + (e.length : Int))
 cut : ∀ (A : List Int) (i : Nat), i < e.length → f (A ++ e.take i) (A.length : Int) = .error 6
def bindR {α β : Type} (f : Rdr α) (g : α → Rdr β) : Rdr β := fun l a => match f l a with
 | .error c => .error c
 | .ok (x, a') => g x l a'
theorem bindR_ok {α β : Type} {f : Rdr α} {g : α → Rdr β} {l : List Int} {a a' : Int} {x : α} (h : f l a = .ok (x, a')) : bindR f g l a = g x l a' := by unfold bindR; rw [h]
theorem bindR_err {α β : Type} {f : Rdr α} {g : α → Rdr β} {l : List Int} {a c : Int} (h : f l a = .error c) : bindR f g l a = .error c := by unfold bindR; rw [h]
theorem Reads12.bind {α β : Type} {f : Rdr α} {g : α → Rdr β} {e1 e2 : List Int} {x : α} {y : β} (h1 : Reads12 f e1 x) (h2 : Reads12 (g x) e2 y) : Reads12 (bindR f g) (e1 ++ e2) y := by
 constructor
 ·intro A B
  have k1 := h1.back A (e2 ++ B)
  have k2 := h2.back (A ++ e1) B
  rw [List.append_assoc, List.length_append, Int.natCast_add] at k2
  rw [List.append_assoc e1, bindR_ok k1, k2, List.length_append, Int.natCast_add, Int.add_assoc]
 ·intro A i hi
  by_cases g1 : i < e1.length
  ·rw [List.take_append_of_le_length (Nat.le_of_lt g1)]
   exact bindR_err (h1.cut A i g1)
  ·have e : (e1 ++ e2).take i = e1 ++ e2.take (i - e1.length) := by
    rw [List.take_append, List.take_of_length_le (by omega)]
   have k1 := h1.back A (e2.take (i - e1.length))
   have k2 := h2.cut (A ++ e1) (i - e1.length) (by rw [List.length_append] at hi; omega)
   rw [List.append_assoc, List.length_append, Int.natCast_add] at k2
   rw [e, bindR_ok k1, k2]
theorem Reads12.pure {α : Type} (x : α) : Reads12 (fun _ a => .ok (x, a)) [] x := ⟨fun A B => by simp, fun A i hi => absurd hi (by simp)⟩
theorem Reads12.eq {α : Type} {f g : Rdr α} {e : List Int} {x : α} (h : Reads12 f e x) (he : ∀ (l : List Int) (a : Nat), g l (a : Int) = f l (a : Int)) : Reads12 g e x := ⟨fun A B => (he _ _).trans (h.back A B), fun A i hi => (he _ _).trans (h.cut A i hi)⟩
theorem gotE_shift (A l : List Int) : gotE (A ++ l) (A.length : Int) = gotE l 0 := by
 unfold gotE
 rw [if_neg (by simp; omega), if_neg (by omega), Int.toNat_natCast, List.drop_left]
 simp
theorem gU_reads {z lo hi : Int} (h0 : 0 ≤ z) (h1 : z ≤ 9223372036854775807) (h2 : lo ≤ z) (h3 : z ≤ hi) : Reads12 (fun l a => gU l a lo hi) (uBytes z) z := by
 have hn : z.toNat < 18446744073709551616 := by omega
 have hz : (z.toNat : Int) = z := by omega
 constructor
 ·intro A B
  obtain ⟨g1, g2, g3⟩ := got_put (l := A) (r := B) hn
  rw [List.append_assoc] at g1 g2 g3
  unfold gU uBytes
  rw [g3, if_pos rfl, g1, hz, if_pos ⟨h2, h3⟩, g2]
 ·intro A i hi
  unfold uBytes at hi ⊢
  unfold gU
  rw [gotE_shift, got_cut hn hi, if_neg (by decide)]
theorem gS_reads {z : Int} (h : sOk z) : Reads12 gS (sBytes z) z := by
 have hn : Lib.zigzag z < 18446744073709551616 := by have := h.1; have := h.2; unfold Lib.zigzag; split <;> omega
 constructor
 ·intro A B
  obtain ⟨g1, g2, g3⟩ := got_put (l := A) (r := B) hn
  rw [List.append_assoc] at g1 g2 g3
  unfold gS sBytes
  rw [g3, if_pos rfl, g1, unz_zig, g2]
 ·intro A i hi
  unfold sBytes at hi ⊢
  unfold gS
  rw [gotE_shift, got_cut hn hi, if_neg (by decide)]
def runB12 (a : Int) (r : Rn) : List Int := uBytes (r.f - a) ++ (uBytes r.c ++ (if r.c = 1 then [] else uBytes r.s))
theorem runS_eq (l : List Int) (p a : Int) : runS l p a = bindR (fun l p => gU l p 0 281474976710656) (fun x => bindR (fun l p => gU l p 1 256) (fun c l p => if 1 < c then bindR (fun l p => gU l p 0 281474976710656) (fun s _ p => .ok ((⟨a + x, s, c⟩ : Rn), p)) l p else .ok (⟨a + x, 0, c⟩, p))) l p := by
 unfold runS
 rcases e1 : gU l p 0 281474976710656 with c | ⟨x, p1⟩
 ·rw [bindR_err (f := fun l p => gU l p 0 281474976710656) e1]
 ·rw [bindR_ok (f := fun l p => gU l p 0 281474976710656) e1]
  simp only
  rcases e2 : gU l p1 1 256 with c | ⟨c, p2⟩
  ·rw [bindR_err (f := fun l p => gU l p 1 256) e2]
  ·rw [bindR_ok (f := fun l p => gU l p 1 256) e2]
   simp only
   by_cases g : 1 < c
   ·rw [if_pos g, if_pos g]
    rcases e3 : gU l p2 0 281474976710656 with c | ⟨s, p3⟩
    ·rw [bindR_err (f := fun l p => gU l p 0 281474976710656) e3]
    ·rw [bindR_ok (f := fun l p => gU l p 0 281474976710656) e3]
   ·rw [if_neg g, if_neg g]
theorem runsS_eq (l : List Int) (p : Int) : runsS l p = bindR (fun l p => gU l p 1 256) (fun m => bindR (fun l p => goR l m.toNat p 0 []) (fun L _ p => if okB L then .ok (L, p) else .error 7)) l p := by
 unfold runsS
 rcases e1 : gU l p 1 256 with c | ⟨m, p1⟩
 ·rw [bindR_err (f := fun l p => gU l p 1 256) e1]
 ·rw [bindR_ok (f := fun l p => gU l p 1 256) e1]
  simp only
  rcases e2 : goR l m.toNat p1 0 [] with c | ⟨L, p2⟩
  ·rw [bindR_err (f := fun l p => goR l m.toNat p 0 []) e2]
  ·rw [bindR_ok (f := fun l p => goR l m.toNat p 0 []) e2]
theorem run_reads {r : Rn} {a : Int} (hr : RunOk r) (hs : r.c = 1 → r.s = 0) (h0 : 0 ≤ a) (h1 : a ≤ r.f) : Reads12 (fun l p => runS l p a) (runB12 a r) r := by
 obtain ⟨r1, r2, r3, r4, r5, r6, r7⟩ := hr
 unfold runB12
 have e : a + (r.f - a) = r.f := by omega
 have h3 : Reads12 (fun l p => if 1 < r.c then bindR (fun l p => gU l p 0 281474976710656) (fun s _ p => .ok ((⟨a + (r.f - a), s, r.c⟩ : Rn), p)) l p else .ok (⟨a + (r.f - a), 0, r.c⟩, p)) (if r.c = 1 then [] else uBytes r.s) r := by
  by_cases g : r.c = 1
  ·rw [if_pos g]
   have := hs g
   obtain ⟨f, s, c⟩ := r
   simp only at this g e
   subst this
   exact (Reads12.pure _).eq fun l p => by rw [if_neg (by simp only; omega)]; simp only [e]
  ·rw [if_neg g]
   have h4 := (gU_reads (z := r.s) (lo := 0) (hi := 281474976710656) r4 (by omega) r4 r5).bind (g := fun s _ p => .ok ((⟨a + (r.f - a), s, r.c⟩ : Rn), p)) (Reads12.pure (⟨a + (r.f - a), r.s, r.c⟩ : Rn))
   rw [List.append_nil] at h4
   have e2 : (⟨a + (r.f - a), r.s, r.c⟩ : Rn) = r := by rw [e]
   rw [e2] at h4
   exact h4.eq fun l p => by rw [if_pos (by omega)]
 exact Reads12.eq ((gU_reads (z := r.f - a) (lo := 0) (hi := 281474976710656) (by omega) (by omega) (by omega) (by omega)).bind (g := fun x => bindR (fun l p => gU l p 1 256) (fun c l p => if 1 < c then bindR (fun l p => gU l p 0 281474976710656) (fun s _ p => .ok ((⟨a + x, s, c⟩ : Rn), p)) l p else .ok (⟨a + x, 0, c⟩, p))) ((gU_reads (z := r.c) (lo := 1) (hi := 256) (by omega) (by omega) r1 r2).bind h3)) fun l p => runS_eq l p a
theorem encR_cons {a : Int} {r : Rn} {l : List Rn} (h : Goes a (r :: l)) : encR a (r :: l) = runB12 a r ++ encR (lastN r) l := by
 rw [encR, runB12]
 by_cases g : r.c = 1
 ·rw [if_pos g, if_pos g, h.2.2.2.1 g, encR]
  simp
 ·rw [if_neg g, if_neg g]
  simp
theorem rest_ones : ∀ (l : List Rn) (p : Option Rn) (n : Int), restB p n l = true → ∀ r ∈ l, r.c = 1 → r.s = 0
 | [], _, _, _, r, hr, _ => by cases hr
 | x :: l, p, n, h, r, hr, hc => by
  simp only [restB, Bool.and_eq_true] at h
  rcases List.mem_cons.1 hr with rfl | hr
  ·have h1 := h.1
   unfold runB at h1
   rw [if_pos hc] at h1
   simp only [Bool.and_eq_true, decide_eq_true_eq] at h1
   exact h1.2.2.2
  ·exact rest_ones l _ _ h.2.2 r hr hc
theorem goR_reads : ∀ (R : List Rn) (a : Int) (acc : List Rn), Goes a R → (∀ r ∈ R, r.c = 1 → r.s = 0) → Reads12 (fun l p => goR l R.length p a acc) (encR a R) (acc ++ R)
 | [], a, acc, _, _ => by
  rw [encR, List.append_nil]
  exact (Reads12.pure acc).eq fun l p => by simp only [List.length_nil, goR]
 | r :: R, a, acc, h, hs => by
  rw [encR_cons h]
  obtain ⟨hr, ha, haf, _, hg⟩ := h
  have h1 := run_reads hr (hs r (List.mem_cons_self ..)) ha haf
  have h2 := goR_reads R (lastN r) (acc ++ [r]) hg (fun x hx => hs x (List.mem_cons_of_mem _ hx))
  rw [List.append_assoc, List.singleton_append] at h2
  refine Reads12.eq (h1.bind (g := fun r l p => if lastN r ≤ 281474976710656 then goR l R.length p (lastN r) (acc ++ [r]) else .error 7) ?_) ?_
  ·have hl : lastN r ≤ 281474976710656 := (lastN_le hr).2.1
   exact h2.eq fun l p => by rw [if_pos hl]
  ·intro l p
   simp only [List.length_cons, goR, bindR]
   cases runS l (p : Int) a <;> rfl
theorem runs_reads {R : List Rn} (h : okB R = true) : Reads12 runsS (uBytes R.length ++ encR 0 R) R := by
 obtain ⟨hne, hR, hT, hl⟩ := okB_facts h
 have hpos : 1 ≤ R.length := List.length_pos_iff.2 hne
 have hs : ∀ r ∈ R, r.c = 1 → r.s = 0 := by
  have h' := h
  unfold okB at h'
  rw [Bool.and_eq_true] at h'
  exact rest_ones R none 0 h'.2
 have h1 := gU_reads (z := (R.length : Int)) (lo := 1) (hi := 256) (by omega) (by omega) (by omega) (by omega)
 have h2 := goR_reads R 0 [] (goes_ok h) hs
 rw [List.nil_append] at h2
 have h3 := h2.bind (g := fun L _ p => if okB L then .ok (L, p) else .error 7) (y := R) (e2 := []) ((Reads12.pure R).eq fun l p => by rw [h, if_pos rfl])
 rw [List.append_nil] at h3
 refine Reads12.eq (h1.bind (g := fun m => bindR (fun l p => goR l m.toNat p 0 []) (fun L _ p => if okB L then .ok (L, p) else .error 7)) (by rw [Int.toNat_natCast]; exact h3)) ?_
 intro l p
 exact runsS_eq l p
end Go.Proofs.YtcfidimnbamnkaaGreat.P12

/-
 Layer 12, plain facts: a segment's bytes are read again, wherever they stand; cut off anywhere they are told as such. No program. Conditions: those written at each fact.
-/
namespace Go.Proofs.YtcfidimnbamnkaaGreat.P12
open Go.RowKit Go.Shelf Go.Proofs.YtcfidimnbamnkaaGreat.P2 Go.Proofs.YtcfidimnbamnkaaGreat.P7 Go.Proofs.YtcfidimnbamnkaaGreat.P11

theorem backB_near {v : Int} : backB v = true ↔ Near61 v := by unfold backB Near61; simp only [Bool.and_eq_true, decide_eq_true_eq]
theorem goV_reads : ∀ (V : List Int) (p : Int) (acc : List Int), Near61 p → (∀ v ∈ V, Near61 v) → Reads12 (fun l q => goV l V.length q p acc) ((diffs p V).flatMap sBytes) (acc ++ V)
 | [], p, acc, _, _ => by
  rw [List.append_nil]
  exact (Reads12.pure acc).eq fun l q => by simp only [List.length_nil, goV]
 | v :: V, p, acc, hp, hV => by
  have hv := hV v (List.mem_cons_self ..)
  have hd : sOk (v - p) := by unfold Near61 at hp hv; exact ⟨by omega, by omega⟩
  have e : wrap64 (p + (v - p)) = v := by
   unfold Near61 at hv
   rw [show p + (v - p) = v by omega]
   exact i64_keeps (by omega) (by omega)
  have h1 := gS_reads hd
  have h2 := goV_reads V v (acc ++ [v]) hv (fun x hx => hV x (List.mem_cons_of_mem _ hx))
  rw [List.append_assoc, List.singleton_append] at h2
  rw [diffs, List.flatMap_cons]
  refine Reads12.eq (h1.bind (g := fun d l q => if backB (wrap64 (p + d)) then goV l V.length q (wrap64 (p + d)) (acc ++ [wrap64 (p + d)]) else .error 7) ?_) ?_
  ·exact h2.eq fun l q => by rw [e, if_pos (backB_near.2 hv)]
  ·intro l q
   simp only [List.length_cons, goV, bindR]
   cases gS l (q : Int) <;> rfl
theorem tl1_eq (l : List Int) (a r n d : Int) : tl1 l a r n d = bindR gS (fun x _ p => .ok ((x, r, n, d), p)) l a := by
 unfold tl1 bindR
 cases gS l a <;> rfl
theorem tl1_reads {x : Int} (r n d : Int) (h : sOk x) : Reads12 (fun l a => tl1 l a r n d) (sBytes x) (x, r, n, d) := by
 have h1 := (gS_reads h).bind (g := fun x _ p => .ok ((x, r, n, d), p)) (Reads12.pure (x, r, n, d))
 rw [List.append_nil] at h1
 exact h1.eq fun l a => tl1_eq l a r n d
theorem tl2_eq (l : List Int) (a r : Int) : tl2 l a r = bindR gS (fun n => bindR (fun l a => gU l a 0 281474976710656) (fun d l a => tl1 l a r n d)) l a := by
 unfold tl2
 rcases e1 : gS l a with c | ⟨n, p1⟩
 ·rw [bindR_err e1]
 ·rw [bindR_ok e1]
  simp only
  rcases e2 : gU l p1 0 281474976710656 with c | ⟨d, p2⟩
  ·rw [bindR_err (f := fun l a => gU l a 0 281474976710656) e2]
  ·rw [bindR_ok (f := fun l a => gU l a 0 281474976710656) e2]
theorem tl2_reads {x n d : Int} (r : Int) (hn : sOk n) (hd : 0 ≤ d ∧ d ≤ 281474976710656) (h : sOk x) : Reads12 (fun l a => tl2 l a r) (sBytes n ++ (uBytes d ++ sBytes x)) (x, r, n, d) :=
 ((gS_reads hn).bind (g := fun n => bindR (fun l a => gU l a 0 281474976710656) (fun d l a => tl1 l a r n d)) ((gU_reads (z := d) (lo := 0) (hi := 281474976710656) hd.1 (by omega) hd.1 hd.2).bind (tl1_reads r n d h))).eq fun l a => tl2_eq l a r
theorem line_reads {s : Sg} (h : lineOk s = true) : Reads12 (fun l a => lineS l a s.k) (restBytes s) (s.a, s.r, s.n, s.d) := by
 obtain ⟨_, hb, hkk⟩ := (lineOk_iff s).1 h
 obtain ⟨b1, _, b2, b3, b4⟩ := (lineB_iff _ _ _ _).1 hb
 obtain ⟨oa, _, on, _⟩ := line_oks hb
 obtain ⟨_, _, d1, d2⟩ := (slopeB_iff _ _).1 b1
 unfold restBytes
 rcases kindL_cases s.n s.r with ⟨g, hn⟩ | ⟨g, hn, hr⟩ | ⟨g, hn, hr⟩
 ·rw [g] at hkk
  have hd : s.d = 1 ∧ s.r = 0 := by
   have hl := ((lineB_iff _ _ _ _).1 hb).2.1.2
   rw [hn] at hl
   unfold lowD gcdI at hl
   rw [Int.gcd_zero_left, show ((s.d.natAbs : Nat) : Int) = s.d by omega, Int.ediv_self (by omega)] at hl
   omega
  rw [hkk, if_pos rfl]
  have := tl1_reads (x := s.a) 0 0 1 oa
  rw [hd.1, hd.2, hn]
  exact this.eq fun l a => by unfold lineS; rw [if_neg (by decide), if_neg (by decide)]
 ·rw [g] at hkk
  rw [hkk, if_neg (by decide), if_pos rfl]
  have := tl2_reads (x := s.a) (n := s.n) (d := s.d) 0 on ⟨by omega, by omega⟩ oa
  rw [hr]
  exact this.eq fun l a => by unfold lineS; rw [if_neg (by decide), if_pos rfl]
 ·rw [g] at hkk
  rw [hkk, if_neg (by decide), if_neg (by decide), if_pos rfl]
  have := (gU_reads (z := s.r) (lo := 0) (hi := 281474976710656) b3 (by omega) b3 (by omega)).bind (g := fun r l a => tl2 l a r) (tl2_reads (x := s.a) (n := s.n) (d := s.d) s.r on ⟨by omega, by omega⟩ oa)
  refine this.eq fun l a => ?_
  unfold lineS
  rw [if_pos rfl]
  rcases e1 : gU l (a : Int) 0 281474976710656 with c | ⟨r, p1⟩
  ·rw [bindR_err (f := fun l a => gU l a 0 281474976710656) e1]
  ·rw [bindR_ok (f := fun l a => gU l a 0 281474976710656) e1]
theorem kind_reads {k : Int} (h1 : 1 ≤ k) (h4 : k ≤ 4) : Reads12 (fun l a => kindS l a.toNat) (uBytes k) k := by
 have e : uBytes k = [k] := by unfold uBytes; rw [digs_end (by omega), show ((k.toNat : Nat) : Int) = k by omega]
 rw [e]
 constructor
 ·intro A B
  unfold kindS
  rw [Int.toNat_natCast, List.getElem?_append_right (Nat.le_refl _), Nat.sub_self]
  simp [h1, h4]
 ·intro A i hi
  have : i = 0 := by simpa using hi
  subst this
  unfold kindS
  rw [Int.toNat_natCast]
  simp
theorem segS_eq (l : List Int) (j : Nat) : segS l j = bindR (fun l a => kindS l a.toNat) (fun k => bindR (fun l a => gU l a 0 1099511627776) (fun e => bindR runsS (fun R l a => if k = 4 then bindR (fun l a => goV l (totalR R).toNat a 0 []) (fun V _ a => finS ⟨4, R, 0, 0, 0, 0, V, e⟩ a) l a else bindR (fun l a => lineS l a k) (fun x _ a => finS ⟨k, R, x.1, x.2.1, x.2.2.1, x.2.2.2, [], e⟩ a) l a))) l (j : Int) := by
 unfold segS
 rcases e1 : kindS l j with c | ⟨k, a1⟩
 ·rw [bindR_err (f := fun l a => kindS l a.toNat) (by simpa using e1)]
 ·rw [bindR_ok (f := fun l a => kindS l a.toNat) (a' := a1) (x := k) (by simpa using e1)]
  simp only
  rcases e2 : gU l a1 0 1099511627776 with c | ⟨e, a2⟩
  ·rw [bindR_err (f := fun l a => gU l a 0 1099511627776) e2]
  ·rw [bindR_ok (f := fun l a => gU l a 0 1099511627776) e2]
   simp only
   rcases e3 : runsS l a2 with c | ⟨R, a3⟩
   ·rw [bindR_err e3]
   ·rw [bindR_ok e3]
    simp only
    by_cases g : k = 4
    ·rw [if_pos g, if_pos g]
     rcases e4 : goV l (totalR R).toNat a3 0 [] with c | ⟨V, a4⟩
     ·rw [bindR_err (f := fun l a => goV l (totalR R).toNat a 0 []) e4]
     ·rw [bindR_ok (f := fun l a => goV l (totalR R).toNat a 0 []) e4]
    ·rw [if_neg g, if_neg g]
     rcases e4 : lineS l a3 k with c | ⟨x, a4⟩
     ·rw [bindR_err (f := fun l a => lineS l a k) e4]
     ·rw [bindR_ok (f := fun l a => lineS l a k) e4]
theorem seg_reads {s : Sg} (h : segB s = true) : Reads12 (fun l a => segS l a.toNat) (segBytes s) s := by
 obtain ⟨h1, h2, h3, h4, h5⟩ := (segB_iff s).1 h
 have hk : 1 ≤ s.k ∧ s.k ≤ 4 := by rcases segB_kind h with ⟨g, _⟩ | ⟨g, _⟩ <;> omega
 have eb : segBytes s = uBytes s.k ++ (uBytes s.e ++ ((uBytes s.R.length ++ encR 0 s.R) ++ restBytes s)) := by unfold segBytes; simp only [List.append_assoc]
 have fin : Reads12 (fun _ a => finS s a) [] s := (Reads12.pure s).eq fun l a => by unfold finS; rw [h, if_pos rfl]
 have last : Reads12 (fun l a => if s.k = 4 then bindR (fun l a => goV l (totalR s.R).toNat a 0 []) (fun V _ a => finS ⟨4, s.R, 0, 0, 0, 0, V, s.e⟩ a) l a else bindR (fun l a => lineS l a s.k) (fun x _ a => finS ⟨s.k, s.R, x.1, x.2.1, x.2.2.1, x.2.2.2, [], s.e⟩ a) l a) (restBytes s) s := by
  rcases segB_kind h with ⟨g, hr, hv⟩ | ⟨g, g4, hl, _⟩
  ·obtain ⟨⟨z1, z2, z3, z4⟩, hlen⟩ := (rawOk_iff s).1 hr
   have hb : restBytes s = (diffs 0 s.V).flatMap sBytes := by unfold restBytes; rw [g, if_neg (by decide), if_neg (by decide), if_neg (by decide)]
   have h6 := goV_reads s.V 0 [] (by unfold Near61; omega) (fun v hv' => backB_near.1 (h5 v (by rw [hv]; exact hv')))
   rw [List.nil_append] at h6
   have h7 := h6.bind (g := fun V _ a => finS ⟨4, s.R, 0, 0, 0, 0, V, s.e⟩ a) (y := s) (e2 := []) (fin.eq fun l a => by
    obtain ⟨k, R, a, r, n, d, V, e⟩ := s
    simp only at g z1 z2 z3 z4
    subst g z1 z2 z3 z4
    rfl)
   rw [List.append_nil, ← hb] at h7
   exact h7.eq fun l a => by rw [if_pos g, ← hlen, Int.toNat_natCast]
  ·have hV : s.V = [] := ((lineOk_iff s).1 hl).1
   have h7 := (line_reads hl).bind (g := fun x _ a => finS ⟨s.k, s.R, x.1, x.2.1, x.2.2.1, x.2.2.2, [], s.e⟩ a) (y := s) (e2 := []) (fin.eq fun l a => by rw [← hV])
   rw [List.append_nil] at h7
   exact h7.eq fun l a => by rw [if_neg g4]
 rw [eb]
 refine Reads12.eq ((kind_reads hk.1 hk.2).bind (g := fun k => bindR (fun l a => gU l a 0 1099511627776) (fun e => bindR runsS (fun R l a => if k = 4 then bindR (fun l a => goV l (totalR R).toNat a 0 []) (fun V _ a => finS ⟨4, R, 0, 0, 0, 0, V, e⟩ a) l a else bindR (fun l a => lineS l a k) (fun x _ a => finS ⟨k, R, x.1, x.2.1, x.2.2.1, x.2.2.2, [], e⟩ a) l a))) ((gU_reads (z := s.e) (lo := 0) (hi := 1099511627776) h2 (by omega) h2 h3).bind ((runs_reads h1).bind last))) fun l a => ?_
 rw [Int.toNat_natCast]
 exact segS_eq l a
theorem getS_back {s : Sg} (h : segB s = true) (A B : List Int) : getS (A ++ (segBytes s ++ B)) (A.length : Int) = .ok (s, (A.length : Int) + ((segBytes s).length : Int)) := by
 unfold getS
 rw [if_neg (by simp only [List.length_append]; omega)]
 exact (seg_reads h).back A B
end Go.Proofs.YtcfidimnbamnkaaGreat.P12

/-
 Layer 12, plain facts: what is read has just its bytes. No program. Conditions: those written at each fact.
-/
namespace Go.Proofs.YtcfidimnbamnkaaGreat.P12
open Go.RowKit Go.Shelf Go.Proofs.YtcfidimnbamnkaaGreat.P2 Go.Proofs.YtcfidimnbamnkaaGreat.P7 Go.Proofs.YtcfidimnbamnkaaGreat.P11

def Has12 (l : List Int) (a : Int) (e : List Int) (a' : Int) : Prop := ∃ A B : List Int, l = A ++ (e ++ B) ∧ (A.length : Int) = a ∧ a' = a + (e.length : Int)
theorem Has12.trans {l e1 e2 : List Int} {a a1 a2 : Int} (h1 : Has12 l a e1 a1) (h2 : Has12 l a1 e2 a2) : Has12 l a (e1 ++ e2) a2 := by
 obtain ⟨A, B, e, ha, h1⟩ := h1
 obtain ⟨A2, B2, f, ha2, h2⟩ := h2
 have hl : (A ++ e1).length = A2.length := by rw [List.length_append]; omega
 rw [e, ← List.append_assoc] at f
 obtain ⟨_, q⟩ := List.append_inj f hl
 exact ⟨A, B2, by rw [e, q, List.append_assoc], ha, by rw [List.length_append]; omega⟩
theorem Has12.nil {l : List Int} {a : Int} (h0 : 0 ≤ a) (h1 : a ≤ l.length) : Has12 l a [] a := ⟨l.take a.toNat, l.drop a.toNat, by simp, by rw [List.length_take]; omega, by simp⟩
theorem Has12.ends {l e : List Int} {a a' : Int} (h : Has12 l a e a') : 0 ≤ a ∧ a ≤ a' ∧ a' ≤ l.length := by
 obtain ⟨A, B, e, ha, h1⟩ := h
 rw [e]
 simp only [List.length_append]
 omega
theorem Has12.stop {l e : List Int} {a a' : Int} (h : Has12 l a e a') : Has12 l a' [] a' := Has12.nil (by have := h.ends; omega) h.ends.2.2
theorem got_has {l : List Int} (hb : ∀ z ∈ l, 0 ≤ z ∧ z < 256) {a : Int} (h : gotE l a = 0) : ∃ u : Nat, gotN l a = u ∧ u < 18446744073709551616 ∧ Has12 l a (digs u) (gotP l a) := by
 have g : ¬ (a < 0 ∨ (l.length : Int) < a) := fun g => by unfold gotE at h; rw [if_pos g] at h; exact absurd h (by decide)
 obtain ⟨j, rfl⟩ : ∃ j : Nat, a = (j : Int) := ⟨a.toNat, by omega⟩
 obtain ⟨u, p, h1, h2, h3, h4, h5, h6⟩ := got_alone hb (by omega) h
 refine ⟨u, h1, h3, l.take j, l.drop p, ?_, by rw [List.length_take]; omega, ?_⟩
 ·rw [h6]
  have e : l.drop p = (l.drop j).drop (p - j) := by rw [List.drop_drop, show j + (p - j) = p by omega]
  rw [e, List.take_append_drop, List.take_append_drop]
 ·rw [h2, h6, List.length_take, List.length_drop]
  omega
theorem gU_has {l : List Int} (hb : ∀ z ∈ l, 0 ≤ z ∧ z < 256) {a lo hi z a' : Int} (h : gU l a lo hi = .ok (z, a')) : Has12 l a (uBytes z) a' ∧ lo ≤ z ∧ z ≤ hi := by
 refine ⟨?_, gU_in h⟩
 unfold gU at h
 split at h
 ·rename_i g
  obtain ⟨u, h1, h2, h3⟩ := got_has hb g
  split at h
  ·cases h
   unfold uBytes
   rw [h1, Int.toNat_natCast]
   exact h3
  ·cases h
 ·cases h
theorem gS_has {l : List Int} (hb : ∀ z ∈ l, 0 ≤ z ∧ z < 256) {a z a' : Int} (h : gS l a = .ok (z, a')) : Has12 l a (sBytes z) a' ∧ sOk z := by
 unfold gS at h
 split at h
 ·rename_i g
  obtain ⟨u, h1, h2, h3⟩ := got_has hb g
  cases h
  unfold sBytes
  rw [h1, zig_unz]
  exact ⟨h3, unz_range (by omega) (by omega)⟩
 ·cases h
theorem runS_has {l : List Int} (hb : ∀ z ∈ l, 0 ≤ z ∧ z < 256) {a h a' : Int} {r : Rn} (e : runS l a h = .ok (r, a')) : Has12 l a (runB12 h r) a' := by
 unfold runS at e
 rcases e1 : gU l a 0 281474976710656 with c | ⟨x, p1⟩
 ·rw [e1] at e; cases e
 ·rw [e1] at e
  simp only at e
  have b1 := gU_has hb e1
  rcases e2 : gU l p1 1 256 with c | ⟨c, p2⟩
  ·rw [e2] at e; cases e
  ·rw [e2] at e
   simp only at e
   have b2 := gU_has hb e2
   have ex : h + x - h = x := by omega
   by_cases g : 1 < c
   ·rw [if_pos g] at e
    rcases e3 : gU l p2 0 281474976710656 with c | ⟨s, p3⟩
    ·rw [e3] at e; cases e
    ·rw [e3] at e
     cases e
     have b3 := gU_has hb e3
     unfold runB12
     simp only
     rw [ex, if_neg (by omega)]
     exact b1.1.trans (b2.1.trans b3.1)
   ·rw [if_neg g] at e
    cases e
    unfold runB12
    simp only
    rw [ex, if_pos (by omega)]
    exact b1.1.trans (b2.1.trans b2.1.stop)
def encC : Int → List Rn → List Int
 | _, [] => []
 | a, r :: l => runB12 a r ++ encC (lastN r) l
theorem enc_eq : ∀ (l : List Rn) (a : Int), Goes a l → encC a l = encR a l
 | [], _, _ => by rw [encC, encR]
 | r :: l, a, h => by rw [encR_cons h, encC, enc_eq l _ h.2.2.2.2]
theorem goR_has {l : List Int} (hb : ∀ z ∈ l, 0 ≤ z ∧ z < 256) : ∀ (n : Nat) (a h a' : Int) (acc L : List Rn), 0 ≤ a → a ≤ l.length → goR l n a h acc = .ok (L, a') → ∃ R, L = acc ++ R ∧ R.length = n ∧ Has12 l a (encC h R) a'
 | 0, a, h, a', acc, L, h0, h1, e => by
  rw [goR] at e
  cases e
  exact ⟨[], by simp, rfl, Has12.nil h0 h1⟩
 | n + 1, a, h, a', acc, L, h0, h1, e => by
  rw [goR] at e
  rcases e1 : runS l a h with c | ⟨r, p1⟩
  ·rw [e1] at e; cases e
  ·rw [e1] at e
   simp only at e
   have b1 := runS_has hb e1
   split at e
   ·obtain ⟨R, rfl, hR, hH⟩ := goR_has hb n p1 (lastN r) a' (acc ++ [r]) L (by have := b1.ends; omega) b1.ends.2.2 e
    exact ⟨r :: R, by simp, by simp [hR], by rw [encC]; exact b1.trans hH⟩
   ·cases e
theorem runsS_has {l : List Int} (hb : ∀ z ∈ l, 0 ≤ z ∧ z < 256) {a a' : Int} {R : List Rn} (e : runsS l a = .ok (R, a')) : okB R = true ∧ Has12 l a (uBytes R.length ++ encR 0 R) a' := by
 have hok := runsS_ok e
 refine ⟨hok, ?_⟩
 unfold runsS at e
 rcases e1 : gU l a 1 256 with c | ⟨m, p1⟩
 ·rw [e1] at e; cases e
 ·rw [e1] at e
  simp only at e
  have b1 := gU_has hb e1
  rcases e2 : goR l m.toNat p1 0 [] with c | ⟨L, p2⟩
  ·rw [e2] at e; cases e
  ·rw [e2] at e
   simp only at e
   split at e
   ·cases e
    obtain ⟨R2, e3, h4, h5⟩ := goR_has hb _ _ _ _ _ _ (by have := b1.1.ends; omega) b1.1.ends.2.2 e2
    rw [List.nil_append] at e3
    subst e3
    rw [← enc_eq _ _ (goes_ok hok), h4, show ((m.toNat : Nat) : Int) = m by omega]
    exact b1.1.trans h5
   ·cases e
theorem wrap_back {p d : Int} (hp : Near61 p) (hd : sOk d) (hv : Near61 (wrap64 (p + d))) : wrap64 (p + d) - p = d := by
 unfold Near61 at *
 unfold sOk at hd
 unfold wrap64 at *
 omega
theorem goV_has {l : List Int} (hb : ∀ z ∈ l, 0 ≤ z ∧ z < 256) : ∀ (n : Nat) (a p a' : Int) (acc V : List Int), 0 ≤ a → a ≤ l.length → Near61 p → goV l n a p acc = .ok (V, a') → ∃ D, V = acc ++ D ∧ D.length = n ∧ Has12 l a ((diffs p D).flatMap sBytes) a'
 | 0, a, p, a', acc, V, h0, h1, _, e => by
  rw [goV] at e
  cases e
  exact ⟨[], by simp, rfl, Has12.nil h0 h1⟩
 | n + 1, a, p, a', acc, V, h0, h1, hp, e => by
  rw [goV] at e
  rcases e1 : gS l a with c | ⟨d, p1⟩
  ·rw [e1] at e; cases e
  ·rw [e1] at e
   simp only at e
   obtain ⟨b1, bd⟩ := gS_has hb e1
   split at e
   ·rename_i g
    have hv := backB_near.1 g
    obtain ⟨D, rfl, hD, hH⟩ := goV_has hb n p1 (wrap64 (p + d)) a' (acc ++ [wrap64 (p + d)]) V (by have := b1.ends; omega) b1.ends.2.2 hv e
    refine ⟨wrap64 (p + d) :: D, by simp, by simp [hD], ?_⟩
    rw [diffs, List.flatMap_cons, wrap_back hp bd hv]
    exact b1.trans hH
   ·cases e
theorem tl1_has {l : List Int} (hb : ∀ z ∈ l, 0 ≤ z ∧ z < 256) {a r n d a' : Int} {x : Int × Int × Int × Int} (e : tl1 l a r n d = .ok (x, a')) : x.2 = (r, n, d) ∧ Has12 l a (sBytes x.1) a' := by
 unfold tl1 at e
 rcases e1 : gS l a with c | ⟨y, p1⟩
 ·rw [e1] at e; cases e
 ·rw [e1] at e
  cases e
  exact ⟨rfl, (gS_has hb e1).1⟩
theorem tl2_has {l : List Int} (hb : ∀ z ∈ l, 0 ≤ z ∧ z < 256) {a r a' : Int} {x : Int × Int × Int × Int} (e : tl2 l a r = .ok (x, a')) : x.2.1 = r ∧ Has12 l a (sBytes x.2.2.1 ++ (uBytes x.2.2.2 ++ sBytes x.1)) a' := by
 unfold tl2 at e
 rcases e1 : gS l a with c | ⟨n, p1⟩
 ·rw [e1] at e; cases e
 ·rw [e1] at e
  simp only at e
  rcases e2 : gU l p1 0 281474976710656 with c | ⟨d, p2⟩
  ·rw [e2] at e; cases e
  ·rw [e2] at e
   simp only at e
   obtain ⟨h1, h2⟩ := tl1_has hb e
   obtain ⟨y, s⟩ := x
   simp only at h1 h2 ⊢
   subst h1
   exact ⟨rfl, (gS_has hb e1).1.trans ((gU_has hb e2).1.trans h2)⟩
theorem lineS_has {l : List Int} (hb : ∀ z ∈ l, 0 ≤ z ∧ z < 256) {a k a' : Int} {x : Int × Int × Int × Int} (hk : k = 1 ∨ k = 2 ∨ k = 3) (R : List Rn) (V : List Int) (er : Int) (e : lineS l a k = .ok (x, a')) : Has12 l a (restBytes ⟨k, R, x.1, x.2.1, x.2.2.1, x.2.2.2, V, er⟩) a' := by
 unfold lineS at e
 unfold restBytes
 rcases hk with rfl | rfl | rfl
 ·rw [if_neg (by decide), if_neg (by decide)] at e
  exact (tl1_has hb e).2
 ·rw [if_neg (by decide), if_pos rfl] at e
  simp only
  rw [if_neg (by decide), if_pos (by trivial)]
  exact (tl2_has hb e).2
 ·rw [if_pos rfl] at e
  rcases e1 : gU l a 0 281474976710656 with c | ⟨r, p1⟩
  ·rw [e1] at e; cases e
  ·rw [e1] at e
   simp only at e
   obtain ⟨h1, h2⟩ := tl2_has hb e
   simp only
   rw [if_neg (by decide), if_neg (by decide), if_pos (by trivial), h1]
   exact (gU_has hb e1).1.trans h2
theorem finS_in {s t : Sg} {a a' : Int} (e : finS s a = .ok (t, a')) : t = s ∧ a' = a ∧ segB s = true := by
 unfold finS at e
 split at e
 ·rename_i g
  cases e
  exact ⟨rfl, rfl, g⟩
 ·cases e
theorem kindS_has {l : List Int} {j : Nat} {k a' : Int} (e : kindS l j = .ok (k, a')) : Has12 l j (uBytes k) a' ∧ 1 ≤ k ∧ k ≤ 4 := by
 obtain ⟨h1, h2, rfl⟩ := kindS_in e
 refine ⟨?_, h1, h2⟩
 have eu : uBytes k = [k] := by unfold uBytes; rw [digs_end (by omega), show ((k.toNat : Nat) : Int) = k by omega]
 unfold kindS at e
 rcases e1 : l[j]? with _ | z
 ·rw [e1] at e; cases e
 ·rw [e1] at e
  simp only at e
  split at e
  ·cases e
   obtain ⟨hj, hz⟩ := List.getElem?_eq_some_iff.1 e1
   rw [eu]
   refine ⟨l.take j, l.drop (j + 1), ?_, by rw [List.length_take]; omega, by simp⟩
   rw [← hz, List.singleton_append, ← List.drop_eq_getElem_cons hj, List.take_append_drop]
  ·cases e
theorem segS_has {l : List Int} (hb : ∀ z ∈ l, 0 ≤ z ∧ z < 256) {j : Nat} {s : Sg} {a' : Int} (e : segS l j = .ok (s, a')) : segB s = true ∧ Has12 l j (segBytes s) a' := by
 unfold segS at e
 rcases e1 : kindS l j with c | ⟨k, a1⟩
 ·rw [e1] at e; cases e
 rw [e1] at e
 simp only at e
 obtain ⟨b1, k1, k4⟩ := kindS_has e1
 rcases e2 : gU l a1 0 1099511627776 with c | ⟨er, a2⟩
 ·rw [e2] at e; cases e
 rw [e2] at e
 simp only at e
 have b2 := (gU_has hb e2).1
 rcases e3 : runsS l a2 with c | ⟨R, a3⟩
 ·rw [e3] at e; cases e
 rw [e3] at e
 simp only at e
 obtain ⟨hok, b3⟩ := runsS_has hb e3
 have key : ∀ (t : Sg), t.k = k → t.e = er → t.R = R → ∀ a4, Has12 l a3 (restBytes t) a4 → Has12 l j (segBytes t) a4 := by
  intro t h1 h2 h3 a4 h4
  have eb : segBytes t = uBytes t.k ++ (uBytes t.e ++ ((uBytes t.R.length ++ encR 0 t.R) ++ restBytes t)) := by unfold segBytes; simp only [List.append_assoc]
  rw [eb, h1, h2, h3]
  exact b1.trans (b2.trans (b3.trans h4))
 by_cases g : k = 4
 ·rw [if_pos g] at e
  rcases e4 : goV l (totalR R).toNat a3 0 [] with c | ⟨V, a4⟩
  ·rw [e4] at e; cases e
  rw [e4] at e
  simp only at e
  obtain ⟨rfl, rfl, hs⟩ := finS_in e
  refine ⟨hs, key _ g.symm rfl rfl _ ?_⟩
  obtain ⟨D, e5, _, h6⟩ := goV_has hb _ _ _ _ _ _ (by have := b3.ends; omega) b3.ends.2.2 (by unfold Near61; omega) e4
  rw [List.nil_append] at e5
  subst e5
  unfold restBytes
  simp only
  rw [if_neg (by decide), if_neg (by decide), if_neg (by decide)]
  exact h6
 ·rw [if_neg g] at e
  rcases e4 : lineS l a3 k with c | ⟨x, a4⟩
  ·rw [e4] at e; cases e
  rw [e4] at e
  simp only at e
  obtain ⟨rfl, rfl, hs⟩ := finS_in e
  exact ⟨hs, key _ rfl rfl rfl _ (lineS_has hb (by omega) R [] er e4)⟩
theorem getS_has {l : List Int} (hb : ∀ z ∈ l, 0 ≤ z ∧ z < 256) {s : Sg} {a' : Int} (e : getS l 0 = .ok (s, a')) : segB s = true ∧ ((segBytes s).length : Int) = a' ∧ 1 ≤ (segBytes s).length ∧ ∃ B, l = segBytes s ++ B := by
 unfold getS at e
 rw [if_neg (by omega), Int.toNat_zero] at e
 obtain ⟨hs, A, B, e1, e2, e3⟩ := segS_has hb e
 have hA : A = [] := List.eq_nil_of_length_eq_zero (by omega)
 subst hA
 rw [List.nil_append] at e1
 exact ⟨hs, by omega, by have := (seg_small hs).1; omega, B, e1⟩
theorem seg_prefix {s t : Sg} (hs : segB s = true) (ht : segB t = true) {B : List Int} (h : segBytes t = segBytes s ++ B) : s = t := by
 have h1 := getS_back hs [] B
 have h2 := getS_back ht [] []
 simp only [List.nil_append, List.append_nil] at h1 h2
 rw [← h, h2] at h1
 have := (Except.ok.inj h1)
 exact (Prod.mk.inj this).1.symm
end Go.Proofs.YtcfidimnbamnkaaGreat.P12
