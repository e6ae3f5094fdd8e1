/-
  Layer 7: what the program answers of times that are right, each fact apart. Conditions: none.
-/
import Derived.Test.YtlfjmdfplmdmgaaLwE
namespace Go.Proofs.Ytlfjmdfplmdmgaa
open Go.RowKit Go.Shelf
set_option maxRecDepth 100000

/-- The runs of right times, and the facts of them. -/
structure GoodR (T : List Int) (L : List Rn) : Prop where
  ok : okB L = true
  ti : timesR L = T
  up : T.Pairwise (· < ·)
  len : L.length ≤ 256
  tot : totalR L = (T.length : Int)
  one : ∀ r ∈ L, 1 ≤ r.c

theorem goodR {T : List Int} (hA : areB T = true) : GoodR T (laidR T) := by
  obtain ⟨ok1, ok2⟩ := laid_are hA
  obtain ⟨g1, g2, hU⟩ := (areB_iff T).1 hA
  have hRn := (okB_facts ok1).2.1
  have hl2 := (okB_facts ok1).2.2.2
  have h1 : ∀ r ∈ laidR T, 1 ≤ r.c := fun r hr => by have := (hRn r hr).1; omega
  have hTL := timesR_length (l := laidR T) (fun r hr => by have := h1 r hr; omega)
  rw [ok2] at hTL
  exact ⟨ok1, ok2, hU.2, hl2, hTL.symm, h1⟩

theorem good_of {T : List Int} (hA : areB T = true) (hl : T.length ≤ 1000000) : Hid (∀ v W, Reads .i64 W v T → Calls Try.prog 20 #[v] W (GotR W (laidR T))) :=
  Lib.hid (fun v W hr => (ofA_any T hl v W hr).mono fun e w' hh => res_ok hh (by rw [hA]; rfl))

theorem good_ti {T : List Int} {L : List Rn} (G : GoodR T L) : Hid (∀ v W, ReadsR W v L → Calls Try.prog 14 #[v] W (GotI W T)) :=
  Lib.hid (fun v W hr => (timesA_any _ (by have := G.len; omega) v W hr).mono fun e w' hh => by unfold TimesRes at hh; rwa [G.ok, G.ti] at hh)

theorem good_ck {T : List Int} {L : List Rn} (G : GoodR T L) : Hid (∀ v W, ReadsR W v L → Calls Try.prog 15 #[v] W (Ret W (.int .i64 0))) :=
  Lib.hid (fun v W hr => by have := checkA_any _ (by have := G.len; omega) v W hr; rwa [G.ok] at this)

theorem good_cn {T : List Int} {L : List Rn} {N : Nat} (G : GoodR T L) (hN : T.length = N) : Hid (∀ v W, ReadsR W v L → Calls Try.prog 16 #[v] W (Ret W (.int .i64 (N : Int)))) :=
  Lib.hid (fun v W hr => by have := cntA_any _ (by have := G.len; omega) v W hr; rwa [G.ok, if_pos rfl, G.tot, hN] at this)

theorem good_eq {T : List Int} (hl : T.length ≤ 10000000) : Hid (∀ v u W, Reads .i64 W v T → Reads .i64 W u T → Calls Try.prog 18 #[v, u] W (Ret W (.bool true))) :=
  Lib.hid (fun v u W h1 h2 => by have := equalI T T hl v u W h1 h2; rwa [eqB_true rfl] at this)

theorem good_fn {T : List Int} {L : List Rn} {k : Nat} {t : Int} (G : GoodR T L) (hk : T[k]? = some t) : foundN L t = (k : Int) ∧ foundB L t = true := by
  have hf := find_at (k := 0) G.up hk
  rw [Nat.zero_add] at hf
  exact ⟨by simp [foundN, G.ok, G.ti, hf], by simp [foundB, G.ok, G.ti, hf]⟩

theorem good_fi {T : List Int} {L : List Rn} (G : GoodR T L) : Hid (∀ v W (k : Nat) t, ReadsR W v L → T[k]? = some t → Calls Try.prog 24 #[v, .int .i64 t] W (Ret W (.tuple #[.int .i64 (k : Int), .bool true]))) :=
  Lib.hid (fun v W k t hr hk => by
    have := findA_any _ (by have := G.len; omega) t v W hr
    rwa [(good_fn G hk).1, (good_fn G hk).2] at this)

theorem good_va {T : List Int} {L : List Rn} {k : Nat} {t : Int} (G : GoodR T L) (hk : T[k]? = some t) : codeA L (k : Int) = 0 ∧ valA L (k : Int) = t := by
  have hkl : k < T.length := (List.getElem?_eq_some_iff.1 hk).1
  have h0 : (0 : Int) ≤ (k : Int) := by omega
  have h1 : (k : Int) < totalR L := by rw [G.tot]; omega
  have hc0 : codeA L (k : Int) = 0 := by simp only [codeA, G.ok, if_true]; rw [if_pos ⟨h0, h1⟩]
  have ht := times_get (l := L) (p := (k : Int)) G.one h0 h1
  rw [G.ti, Int.toNat_natCast, hk] at ht
  exact ⟨hc0, by rw [valA, if_pos hc0]; exact (Option.some.inj ht).symm⟩

theorem good_at {T : List Int} {L : List Rn} (G : GoodR T L) : Hid (∀ v W (k : Nat) t, ReadsR W v L → T[k]? = some t → Calls Try.prog 23 #[v, .int .i64 (k : Int)] W (Ret W (.tuple #[.int .i64 t, .int .i64 0]))) :=
  Lib.hid (fun v W k t hr hk => by
    have := atA_any _ (by have := G.len; omega) (k : Int) v W hr
    rwa [(good_va G hk).1, (good_va G hk).2] at this)
end Go.Proofs.Ytlfjmdfplmdmgaa
