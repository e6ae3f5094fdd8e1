/-
  Layer 7: what is cut at a place and joined is as it was; the facts of RunsJoined. Conditions: none.
-/
import Derived.Test.YtlfjmdfplmdmgaaLwE
namespace Go.Proofs.Ytlfjmdfplmdmgaa
open Go.RowKit Go.Shelf
set_option maxRecDepth 100000

theorem last_mem {l : List Rn} (h1 : ∀ r ∈ l, 1 ≤ r.c) {r : Rn} (h : l[l.length - 1]? = some r) : r.f + (r.c - 1) * r.s ∈ timesR l := by
  obtain ⟨e, -⟩ := set_last (y := r) h
  have hr : 1 ≤ r.c := h1 r (List.mem_of_getElem? h)
  have hm : r.f + (r.c - 1) * r.s ∈ timesR [r] := by
    have := steps_get r.f r.s (k := r.c.toNat - 1) (n := r.c.toNat) (by omega)
    have e2 : ((r.c.toNat - 1 : Nat) : Int) = r.c - 1 := by omega
    rw [e2] at this
    simp only [timesR, List.append_nil]
    exact List.mem_of_getElem? this
  rw [e, timesR_app]
  exact List.mem_append_right _ hm
theorem first_mem {l : List Rn} (h1 : ∀ r ∈ l, 1 ≤ r.c) {r : Rn} (h : l[0]? = some r) : r.f ∈ timesR l := by
  cases l with
  | nil => simp at h
  | cons x l =>
    obtain rfl : x = r := by simpa using h
    have hr : 1 ≤ x.c := h1 x (List.mem_cons_self ..)
    have := steps_get x.f x.s (k := 0) (n := x.c.toNat) (by omega)
    simp only [timesR]
    refine List.mem_append_left _ (List.mem_of_getElem? (i := 0) ?_)
    rw [this]; simp

theorem areB_app {T U : List Int} (h : areB (T ++ U) = true) (h1 : T ≠ []) (h2 : U ≠ []) : areB T = true ∧ areB U = true := by
  obtain ⟨g1, g2, g3, g4⟩ := (areB_iff _).1 h
  obtain ⟨p1, p2, _⟩ := List.pairwise_append.1 g4
  rw [List.length_append] at g2
  have := List.length_pos_iff.2 h1
  have := List.length_pos_iff.2 h2
  exact ⟨(areB_iff _).2 ⟨by omega, by omega, fun t ht => g3 t (List.mem_append_left _ ht), p1⟩, (areB_iff _).2 ⟨by omega, by omega, fun t ht => g3 t (List.mem_append_right _ ht), p2⟩⟩

theorem joined_code {T U : List Int} (h : areB (T ++ U) = true) (h1 : T ≠ []) (h2 : U ≠ []) : codeJ (laidR T) (laidR U) = 0 ∧ laidR (timesR (laidR T) ++ timesR (laidR U)) = laidR (T ++ U) := by
  obtain ⟨a1, a2⟩ := areB_app h h1 h2
  obtain ⟨b1, b2⟩ := laid_are a1
  obtain ⟨c1, c2⟩ := laid_are a2
  obtain ⟨g1, g2, g3, g4⟩ := (areB_iff _).1 h
  have hb := (okB_facts b1).2.1
  have hc := (okB_facts c1).2.1
  have hb1 : ∀ r ∈ laidR T, 1 ≤ r.c := fun r hr => (hb r hr).1
  have hc1 : ∀ r ∈ laidR U, 1 ≤ r.c := fun r hr => (hc r hr).1
  have nb := timesR_length (l := laidR T) (fun r hr => by have := hb1 r hr; omega)
  have nc := timesR_length (l := laidR U) (fun r hr => by have := hc1 r hr; omega)
  rw [b2] at nb
  rw [c2] at nc
  refine ⟨?_, by rw [b2, c2]⟩
  have hB : behindL (laidR T) (laidR U) = true := by
    have nT := List.length_pos_iff.2 (okB_facts b1).1
    have nU := List.length_pos_iff.2 (okB_facts c1).1
    obtain ⟨x, hx⟩ : ∃ s, (laidR T)[(laidR T).length - 1]? = some s := ⟨_, List.getElem?_eq_getElem (by omega)⟩
    obtain ⟨y, hy⟩ : ∃ s, (laidR U)[0]? = some s := ⟨_, List.getElem?_eq_getElem (by omega)⟩
    have m1 := last_mem hb1 hx
    have m2 := first_mem hc1 hy
    rw [b2] at m1
    rw [c2] at m2
    have := (List.pairwise_append.1 g4).2.2 _ m1 _ m2
    unfold behindL
    rw [hx, hy]
    simpa using this
  rw [List.length_append] at g2
  have hL : totalR (laidR T) + totalR (laidR U) ≤ 256 := by omega
  simp [codeJ, b1, c1, hB, hL]

/-- The facts of a row of runs l with n times, cut at p: its parts a and b, its pieces q, their times U. -/
structure JoinedF (l : List Rn) (p n : Nat) (a b q : List Rn) (U : List Int) : Prop where
  c1 : codeP l 0 (p : Int) = 0
  e1 : laidR (timesR (piecesR l 0 (p : Int))) = a
  c2 : codeP l (p : Int) (n : Int) = 0
  e2 : laidR (timesR (piecesR l (p : Int) (n : Int))) = b
  cj : codeJ a b = 0
  ej : laidR (timesR a ++ timesR b) = l
  oa : okB a = true
  ob : okB b = true
  ta : totalR a = (p : Int)
  tb : totalR b = (n : Int) - (p : Int)
  eq : piecesR l (p : Int) (n : Int) = q
  tq : timesR q = U
  ub : timesR b = U
  rq : ∀ r ∈ q, RunOk r
  lq : q.length ≤ 256
  lu : U.length ≤ 256
theorem joinedF {l : List Rn} (ok : okB l = true) {p n : Nat} (hn : totalR l = (n : Int)) (h1 : 1 ≤ p) (h2 : p < n) : ∃ a b q U, JoinedF l p n a b q U := by
  obtain ⟨-, hR, hT, hl⟩ := okB_facts ok
  have h1c : ∀ r ∈ l, 1 ≤ r.c := fun r hr => (hR r hr).1
  have hlen := timesR_length (l := l) (fun r hr => by have := h1c r hr; omega)
  have hA := times_are ok
  obtain ⟨p1, p2, p3⟩ := pieces_facts hR (i := 0) (j := (p : Int)) (by omega) (by omega) (by omega)
  obtain ⟨q1, q2, q3⟩ := pieces_facts hR (i := (p : Int)) (j := (n : Int)) (by omega) (by omega) (by omega)
  have e1 : timesR (piecesR l 0 (p : Int)) = (timesR l).take p := by rw [p1]; simp
  have e2 : timesR (piecesR l (p : Int) (n : Int)) = (timesR l).drop p := by
    rw [q1, Int.toNat_natCast]
    exact List.take_of_length_le (by rw [List.length_drop]; omega)
  have hTU : (timesR l).take p ++ (timesR l).drop p = timesR l := List.take_append_drop ..
  have n1 : (timesR l).take p ≠ [] := by intro e; have := congrArg List.length e; rw [List.length_take, List.length_nil] at this; omega
  have n2 : (timesR l).drop p ≠ [] := by intro e; have := congrArg List.length e; rw [List.length_drop, List.length_nil] at this; omega
  have hA2 : areB ((timesR l).take p ++ (timesR l).drop p) = true := by rw [hTU]; exact hA
  obtain ⟨a1, a2⟩ := areB_app hA2 n1 n2
  obtain ⟨b1, b2⟩ := laid_are a1
  obtain ⟨d1, d2⟩ := laid_are a2
  obtain ⟨j1, j2⟩ := joined_code hA2 n1 n2
  have k1 := timesR_length (l := laidR ((timesR l).take p)) (fun r hr => by have := ((okB_facts b1).2.1 r hr).1; omega)
  have k2 := timesR_length (l := laidR ((timesR l).drop p)) (fun r hr => by have := ((okB_facts d1).2.1 r hr).1; omega)
  rw [b2, List.length_take] at k1
  rw [d2, List.length_drop] at k2
  refine ⟨_, _, _, _, ⟨?_, rfl, ?_, rfl, ?_, ?_, ?_, ?_, ?_, ?_, rfl, e2, ?_, q2, ?_, ?_⟩⟩
  · simp only [codeP, ok, if_true]; rw [if_pos ⟨by omega, by omega, by omega⟩]
  · simp only [codeP, ok, if_true]; rw [if_pos ⟨by omega, by omega, by omega⟩]
  · rw [e1, e2]; exact j1
  · rw [e1, e2, j2, hTU]; exact laid_times ok
  · rw [e1]; exact b1
  · rw [e2]; exact d1
  · rw [e1]; omega
  · rw [e2]; omega
  · rw [e2]; exact d2
  · omega
  · rw [List.length_drop]; omega

theorem join_cut {l : List Rn} {i j : Int} {a : List Rn} (hl : l.length ≤ 1000000) (c : codeP l i j = 0) (e : laidR (timesR (piecesR l i j)) = a) : Hid (∀ v W, ReadsR W v l → Calls Try.prog 28 #[v, .int .i64 i, .int .i64 j] W (GotR W a)) :=
  Lib.hid (fun v W hr => (cutA_any l hl i j v W hr).mono fun e' w' hh => by rw [e] at hh; exact res_ok hh c)
theorem join_pieces {l : List Rn} {i j : Int} {q : List Rn} (hl : l.length ≤ 1000000) (c : codeP l i j = 0) (e : piecesR l i j = q) : Hid (∀ v W, ReadsR W v l → Calls Try.prog 29 #[v, .int .i64 i, .int .i64 j] W (GotR W q)) :=
  Lib.hid (fun v W hr => (piecesA_any l hl i j v W hr).mono fun e' w' hh => by rw [e] at hh; exact res_ok hh c)
theorem join_join {l a b : List Rn} (ha : a.length ≤ 1000000) (hb : b.length ≤ 1000000) (c : codeJ a b = 0) (e : laidR (timesR a ++ timesR b) = l) : Hid (∀ v u W, ReadsR W v a → ReadsR W u b → Calls Try.prog 30 #[v, u] W (GotR W l)) :=
  Lib.hid (fun v u W hr hr2 => (joinA_any a b ha hb v u W hr hr2).mono fun e' w' hh => by rw [e] at hh; exact res_ok hh c)
theorem join_cnt {a : List Rn} {n : Int} (ha : a.length ≤ 1000000) (o : okB a = true) (e : totalR a = n) : Hid (∀ v W, ReadsR W v a → Calls Try.prog 16 #[v] W (Ret W (.int .i64 n))) :=
  Lib.hid (fun v W hr => by have := cntA_any a ha v W hr; rwa [o, if_pos rfl, e] at this)
theorem join_cnt0 {a : List Rn} (ha : a.length ≤ 1000000) (o : okB a = false) : Hid (∀ v W, ReadsR W v a → Calls Try.prog 16 #[v] W (Ret W (.int .i64 0))) :=
  Lib.hid (fun v W hr => by have := cntA_any a ha v W hr; rwa [o, if_neg (by decide)] at this)
theorem join_chk {a : List Rn} (ha : a.length ≤ 1000000) (o : okB a = true) : Hid (∀ v W, ReadsR W v a → Calls Try.prog 15 #[v] W (Ret W (.int .i64 0))) :=
  Lib.hid (fun v W hr => by have := checkA_any a ha v W hr; rwa [o, if_pos rfl] at this)
theorem join_chk0 {a : List Rn} (ha : a.length ≤ 1000000) (o : okB a = false) : Hid (∀ v W, ReadsR W v a → Calls Try.prog 15 #[v] W (Ret W (.int .i64 170))) :=
  Lib.hid (fun v W hr => by have := checkA_any a ha v W hr; rwa [o, if_neg (by decide)] at this)
theorem join_eq {l : List Rn} (hl : l.length ≤ 1000000) : Hid (∀ v u W, ReadsR W v l → ReadsR W u l → Calls Try.prog 19 #[v, u] W (Ret W (.bool true))) :=
  Lib.hid (fun v u W h1 h2 => equalR l (by omega) v u W h1 h2)
theorem join_times {b : List Rn} {U : List Int} (hl : b.length ≤ 1000000) (o : okB b = true) (e : timesR b = U) : Hid (∀ v W, ReadsR W v b → Calls Try.prog 14 #[v] W (GotI W U)) :=
  Lib.hid (fun v W hr => (timesA_any b hl v W hr).mono fun e' w' hh => by unfold TimesRes at hh; rwa [o, if_pos rfl, e] at hh)
theorem join_eqi {T : List Int} (hl : T.length ≤ 1000000) : Hid (∀ v u W, Reads .i64 W v T → Reads .i64 W u T → Calls Try.prog 18 #[v, u] W (Ret W (.bool true))) :=
  Lib.hid (fun v u W h1 h2 => by have := equalI T T (by omega) v u W h1 h2; rwa [eqB_true rfl] at this)

/-- The place that the law takes. -/
theorem place_at (a : Int) (n : Nat) (hn : 2 ≤ n) (hn2 : n ≤ 256) : ∃ p : Nat, 1 ≤ p ∧ p < n ∧ 1 + a % ((n : Int) - 1) = (p : Int) := by
  have h0 := Int.emod_nonneg a (show (n : Int) - 1 ≠ 0 by omega)
  have h1 := Int.emod_lt_of_pos a (show (0 : Int) < (n : Int) - 1 by omega)
  exact ⟨(1 + a % ((n : Int) - 1)).toNat, by omega, by omega, by omega⟩
end Go.Proofs.Ytlfjmdfplmdmgaa
