/-
  Layer 7: runs: the runs of the times of rows of runs are laid. Conditions: those written at each fact.
-/
import Derived.Test.YtlfjmdfplmdmgaaRnK
namespace Go.Proofs.Ytlfjmdfplmdmgaa
open Go.RowKit Go.Shelf

/-- The slice v reads as these values, one cell each. -/
def ReadsV (w : World) (v : Value) (l : List Value) : Prop :=
  ∃ A c, v = .slice A l.length c ∧ l.length ≤ c ∧ ∀ i u, l[i]? = some u → ∃ b off, A = some ⟨b, off, none⟩ ∧ b < w.heap.size ∧ w.cell? ⟨b, off + i, none⟩ = some u
/-- The times of rows of runs. -/
def timesP : List (Value × List Rn) → List Int
  | [] => []
  | p :: P => timesR p.2 ++ timesP P
theorem timesP_take {P : List (Value × List Rn)} {k : Nat} {p : Value × List Rn} (h : P[k]? = some p) : timesP (P.take (k + 1)) = timesP (P.take k) ++ timesR p.2 := by
  induction P generalizing k with
  | nil => simp at h
  | cons a P ih =>
    cases k with
    | zero => simp at h; subst h; simp [timesP]
    | succ k => simp at h; have := ih h; simp only [List.take_succ_cons, timesP] at *; rw [this, List.append_assoc]
theorem timesP_sub : ∀ {P : List (Value × List Rn)} (k : Nat), (∀ t ∈ timesP (P.take k), t ∈ timesP P) ∧ (timesP (P.take k)).length ≤ (timesP P).length
  | [], k => by simp
  | p :: P, 0 => by simp [timesP]
  | p :: P, k + 1 => by
    obtain ⟨h1, h2⟩ := timesP_sub (P := P) k
    refine ⟨fun t ht => ?_, by simp only [List.take_succ_cons, timesP, List.length_append]; omega⟩
    simp only [List.take_succ_cons, timesP, List.mem_append] at ht ⊢
    rcases ht with ht | ht
    · exact .inl ht
    · exact .inr (h1 t ht)
theorem goR_app (l m : List Int) : goR (l ++ m) = m.foldl takeR (goR l) := by simp [goR]

set_option maxRecDepth 100000 in
set_option maxHeartbeats 2000000 in
theorem lay2_any (P : List (Value × List Rn)) (w : World) (hP : ∀ p ∈ P, ReadsR w p.1 p.2 ∧ p.2.length ≤ 1000000 ∧ ∀ r ∈ p.2, RunOk r) (hl : P.length ≤ 1000) (hn : (timesP P).length ≤ 900) (htm : ∀ t ∈ timesP P, 0 ≤ t ∧ t ≤ 281474976710656) (v : Value) (h : ReadsV w v (P.map (·.1))) :
    Calls Try.prog 56 #[v, .func (.func 58) #[] #[]] w (LaidR w (laidR (timesP P))) := by
  obtain ⟨A, c, rfl, hc, hk⟩ := h
  rw [List.length_map] at *
  have HK := Lib.hid hk
  have HP := Lib.hid hP
  have HN := Lib.hid hn
  have HT := Lib.hid htm
  obtain ⟨i0, hi, hz0, hz1, hz2⟩ := info_parts infoRun
  have hG0 : GrowS w.heap.size (w.alloc (.cells #[.int .i64 0, .int .i64 0, .int .i64 0, .slice none 0 0] 88)) w.heap.size iniR := ⟨_, World.alloc_heap_new w _, World.ownsRow_nil _ _ _ _⟩
  have HG0 := Lib.hid hG0
  clear hk hP hn htm hG0
  go_enter Try.func56, Try.ntmps56
  go_wp2_with fail
  go_loopw [10] (fun i wr => ∃ k : Nat, i = .int .i64 k ∧ k ≤ P.length ∧ Hid (GrowS w.heap.size wr w.heap.size (goR (timesP (P.take k)))) ∧ Below w.heap.size w wr) (fun i _ => P.length - (intOf i).toNat)
  case atStart => exact ⟨0, rfl, by omega, Lib.hid (by simpa [goR, timesP] using HG0.out), below_alloc w _⟩
  case round =>
    obtain ⟨k, rfl, hkl, hG, hB⟩ := hrel
    clear HG0
    by_cases gk : k < P.length
    · obtain ⟨⟨u, m⟩, hx⟩ : ∃ s, P[k]? = some s := ⟨_, List.getElem?_eq_getElem gk⟩
      obtain ⟨bb, off, rfl, hbw, hc1⟩ := HK.out k u (by rw [List.getElem?_map, hx]; rfl)
      have c1 := (hB.cell (p := ⟨bb, off + k, none⟩) hbw).trans hc1
      have i1 : (k : Int) < (P.length : Int) := by omega
      have i2 : (0 : Int) ≤ (k : Int) := by omega
      obtain ⟨hr, hml, hrk⟩ := HP.out _ (List.mem_of_getElem? hx)
      have hsub := timesP_sub (P := P) k
      have hsub2 := timesP_sub (P := P) (k + 1)
      have hET := timesP_take hx
      simp only at hr hml hrk hET
      obtain ⟨hok, hsl⟩ := go_ok (l := timesP (P.take k)) (fun x hx => HT.out x (hsub.1 x hx))
      have htm : ∀ t ∈ timesR m, 0 ≤ t ∧ t ≤ 281474976710656 := fun t ht => HT.out t (hsub2.1 t (by rw [hET]; exact List.mem_append_right _ ht))
      have hlen : (timesP (P.take k)).length + (timesR m).length ≤ 900 := by
        have h1 := hsub2.2
        rw [hET, List.length_append] at h1
        exact Nat.le_trans h1 HN.out
      have OA := Lib.hid (each_any w w.heap.size _ _ hok hsl m hml hrk hlen htm u hr wr hG.out hB (Nat.le_refl _))
      have ET : Hid (goR (timesP (P.take (k + 1))) = (timesR m).foldl takeR (goR (timesP (P.take k)))) := Lib.hid (by rw [hET, goR_app])
      clear hc1 hx hok hsl htm hG hr hml hrk hsub hsub2 hET hlen
      go_wp2_with fail
      refine OA.out.mono ?_
      rintro e w1 ⟨rfl, hT, hG1⟩
      have hB1 := hB.trans hT.below
      have HG1 : Hid (GrowS w.heap.size w1 w.heap.size (goR (timesP (P.take (k + 1))))) := Lib.hid (by rw [ET.out]; exact hG1)
      clear hT hG1 c1
      go_wp2_with fail
      go_roundw
      case rel => exact ⟨k + 1, by simp, gk, HG1, hB1⟩
      case measure => exact index_less7 gk
    · have hkk : k = P.length := by omega
      subst hkk
      have hgo := hG.out
      rw [List.take_length] at hgo
      have hsl : (goR (timesP P)).2.length ≤ 900 := Nat.le_trans (go_ok HT.out).2 HN.out
      have EL : Hid (laidR (timesP P) = (goR (timesP P)).2 ++ [(goR (timesP P)).1]) := Lib.hid rfl
      generalize goR (timesP P) = st at hgo hsl EL
      obtain ⟨⟨f, s, d⟩, sh⟩ := st
      simp only at hsl EL
      obtain ⟨u, hGA, hO⟩ := hgo
      obtain ⟨c0, c1, c2, c3, cf⟩ := hGA.cells
      simp only at c0 c1 c2 hO
      have i1 : ¬ (P.length : Int) < (P.length : Int) := by omega
      have HO := Lib.hid hO
      have HL := Lib.hid (fun j hj => (hO.lt j hj).1)
      have HF := Lib.hid (flatR_app sh [⟨f, s, d⟩])
      clear hO hGA hG HN HT HP
      go_wp2_with (at_builtin; refine wpList_append_own _ rfl _ _ 22 rfl w.heap.size 36 i0 (.agg #[.int .i64 0, .int .i64 0, .int .i64 0]) 3 24 Try.underlying22 hi hz0 hz1 hz2 rfl (by decide) u _ _ rfl (HO.out.alloc _) ⟨wr.heap.size, 0, none⟩ 1 1 [.int .i64 f, .int .i64 s, .int .i64 d] rfl rfl (new_cells3 rfl) (by intro u hu; simp at hu; rcases hu with rfl | rfl | rfl <;> rfl) (by unfold maxLen; omega) (by omega) (by have := hB.size; simp; omega) ?_; intro v8 w8 hown8 hgrow8 _; obtain ⟨g8, cap8, rfl⟩ := ownsRow_succ hown8)
      go_ret
      refine ⟨_, rfl, ?_, ?_⟩
      · exact (hB.trans ((below_alloc wr _).mono hB.size)).grown hgrow8 (by have := hB.size; simp; omega) HL.out
      · rw [EL.out, show flatR (sh ++ [⟨f, s, d⟩]) = _ from HF.out, List.length_append]
        exact hown8
end Go.Proofs.Ytlfjmdfplmdmgaa
