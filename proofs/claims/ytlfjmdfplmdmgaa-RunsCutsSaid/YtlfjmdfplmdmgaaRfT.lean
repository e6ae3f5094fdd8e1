/-
  Layer 7: the document's own answer: the times of runs. Conditions: those written at each fact.
-/
import Derived.Test.YtlfjmdfplmdmgaaRfM
namespace Go.Proofs.Ytlfjmdfplmdmgaa
open Go.RowKit

deriving instance DecidableEq for Rn
/-- May a run be gone through, behind n times? -/
def smallB (r : Rn) (n : Int) : Bool := decide (1 ≤ r.c ∧ r.c ≤ 256 ∧ n + r.c ≤ 256 ∧ 0 ≤ r.s ∧ r.s ≤ 281474976710656 ∧ 0 ≤ r.f ∧ r.f ≤ 281474976710656)
def smallAll : Int → List Rn → Bool
  | _, [] => true
  | n, r :: l => smallB r n && smallAll (n + r.c) l
/-- The times of runs that may be gone through. -/
def timesD (l : List Rn) : List Int := if smallAll 0 l then timesR l else []
theorem small_rest : ∀ (l : List Rn) (p : Option Rn) (n : Int), 0 ≤ n → restB p n l = true → smallAll n l = true
  | [], _, _, _, _ => rfl
  | r :: l, p, n, h0, h => by
    simp only [restB, Bool.and_eq_true] at h
    obtain ⟨h1, _, h3⟩ := h
    obtain ⟨a1, a2, a3, a4⟩ := (runB_iff _ _).1 h1
    have h4 : smallB r n = true := by
      refine decide_eq_true ⟨a1, by omega, by omega, ?_, ?_, a3.1, a3.2⟩
      · split at a4 <;> omega
      · split at a4 <;> omega
    rw [smallAll, h4, small_rest l (some r) (n + r.c) (by omega) h3]
    rfl
theorem timesD_ok {l : List Rn} (h : okB l = true) : timesD l = timesR l := by
  unfold okB at h
  simp only [Bool.and_eq_true] at h
  rw [timesD, if_pos (small_rest l none 0 (Int.le_refl _) h.2)]
theorem right_is (l : List Rn) : okB l = (areB (timesD l) && decide (laidR (timesD l) = l)) := by
  cases g : okB l with
  | true =>
    rw [timesD_ok g, times_are g, laid_times g]
    simp
  | false =>
    cases a : areB (timesD l) with
    | false => rfl
    | true =>
      symm
      rw [Bool.true_and]
      refine decide_eq_false fun e => ?_
      have := (laid_are a).1
      rw [e, g] at this
      cases this
theorem small_cases (f s c : Int) (n : Nat) (hn : n ≤ 256) : smallB ⟨f, s, c⟩ n = false ∧ (c < 1 ∨ (¬ c < 1 ∧ 256 < c) ∨ (¬ c < 1 ∧ ¬ 256 < c ∧ wrap64 ((n : Int) + c) = (n : Int) + c ∧ 256 < (n : Int) + c) ∨ (¬ c < 1 ∧ ¬ 256 < c ∧ wrap64 ((n : Int) + c) = (n : Int) + c ∧ ¬ 256 < (n : Int) + c ∧ s < 0) ∨ (¬ c < 1 ∧ ¬ 256 < c ∧ wrap64 ((n : Int) + c) = (n : Int) + c ∧ ¬ 256 < (n : Int) + c ∧ ¬ s < 0 ∧ 281474976710656 < s)
    ∨ (¬ c < 1 ∧ ¬ 256 < c ∧ wrap64 ((n : Int) + c) = (n : Int) + c ∧ ¬ 256 < (n : Int) + c ∧ ¬ s < 0 ∧ ¬ 281474976710656 < s ∧ f < 0) ∨ (¬ c < 1 ∧ ¬ 256 < c ∧ wrap64 ((n : Int) + c) = (n : Int) + c ∧ ¬ 256 < (n : Int) + c ∧ ¬ s < 0 ∧ ¬ 281474976710656 < s ∧ ¬ f < 0 ∧ 281474976710656 < f))
    ∨ smallB ⟨f, s, c⟩ n = true ∧ ¬ c < 1 ∧ ¬ 256 < c ∧ wrap64 ((n : Int) + c) = (n : Int) + c ∧ ¬ 256 < (n : Int) + c ∧ ¬ s < 0 ∧ ¬ 281474976710656 < s ∧ ¬ f < 0 ∧ ¬ 281474976710656 < f := by
  by_cases a1 : c < 1
  · exact .inl ⟨decide_eq_false (by simp only; omega), .inl a1⟩
  by_cases a2 : 256 < c
  · exact .inl ⟨decide_eq_false (by simp only; omega), .inr (.inl ⟨a1, a2⟩)⟩
  have w : wrap64 ((n : Int) + c) = (n : Int) + c := i64_keeps (by omega) (by omega)
  by_cases a3 : 256 < (n : Int) + c
  · exact .inl ⟨decide_eq_false (by simp only; omega), .inr (.inr (.inl ⟨a1, a2, w, a3⟩))⟩
  by_cases a4 : s < 0
  · exact .inl ⟨decide_eq_false (by simp only; omega), .inr (.inr (.inr (.inl ⟨a1, a2, w, a3, a4⟩)))⟩
  by_cases a5 : 281474976710656 < s
  · exact .inl ⟨decide_eq_false (by simp only; omega), .inr (.inr (.inr (.inr (.inl ⟨a1, a2, w, a3, a4, a5⟩))))⟩
  by_cases a6 : f < 0
  · exact .inl ⟨decide_eq_false (by simp only; omega), .inr (.inr (.inr (.inr (.inr (.inl ⟨a1, a2, w, a3, a4, a5, a6⟩)))))⟩
  by_cases a7 : 281474976710656 < f
  · exact .inl ⟨decide_eq_false (by simp only; omega), .inr (.inr (.inr (.inr (.inr (.inr ⟨a1, a2, w, a3, a4, a5, a6, a7⟩)))))⟩
  · exact .inr ⟨decide_eq_true (by simp only; omega), a1, a2, w, a3, a4, a5, a6, a7⟩
theorem small_step {s c : Int} (h1 : ¬ 256 < c) (h2 : ¬ s < 0) (h3 : ¬ 281474976710656 < s) {j : Nat} (hj : (j : Int) < c) : 0 ≤ (j : Int) * s ∧ (j : Int) * s ≤ 72057594037927936 := by
  have a1 : 0 ≤ (j : Int) * s := Int.mul_nonneg (by omega) (by omega)
  have a2 : (j : Int) * s ≤ 256 * s := Int.mul_le_mul_of_nonneg_right (by omega) (by omega)
  omega
theorem steps_more2 (f s : Int) (m : Nat) : stepsR f s (m + 1) = stepsR f s m ++ [f + (m : Int) * s] := by rw [steps_more, Int.mul_comm s]
theorem smallAll_drop {l : List Rn} {k : Nat} {r : Rn} (h : l[k]? = some r) (n : Int) : smallAll n (l.drop k) = (smallB r n && smallAll (n + r.c) (l.drop (k + 1))) := by rw [drop_of h]; rfl
theorem own_slice {w : World} {B : Nat} {e : TypeId} {s n : Nat} {v : Value} {xs : List Value} (h : w.ownsRow B e s v n xs) : ∃ A c, v = .slice A n c := by
  obtain ⟨_, h⟩ := h
  rcases h with ⟨rfl, rfl⟩ | ⟨g, cap, cur, rfl, _⟩
  · exact ⟨none, 0, rfl⟩
  · exact ⟨_, cap, rfl⟩
/-- A row of numbers, made anew. -/
def LaidI (w : World) (l : List Int) (e : Ending) (w' : World) : Prop := ∃ v, e = .returned v ∧ Below w.heap.size w w' ∧ RowI w.heap.size l v w'

set_option maxRecDepth 100000 in
set_option maxHeartbeats 4000000 in
theorem refTimes_any (l : List Rn) (hl : l.length ≤ 1000000) (v : Value) (w : World) (h : ReadsR w v l) : Calls Try.prog 17 #[v] w (LaidI w (timesD l)) := by
  obtain ⟨i0, hi, hz0, hz1, hz2⟩ := info_parts infoI64
  obtain ⟨A, c, rfl, hc, hk⟩ := h
  have HK := Lib.hid hk
  clear hk
  go_enter Try.func17, Try.ntmps17
  go_wp2_with fail
  go_loopw [3, 4] (fun u i wr => ∃ (k n : Nat), i = .int .i64 k ∧ k ≤ l.length ∧ n ≤ 256 ∧ Hid ((timesR (l.take k)).length = n ∧ smallAll 0 l = smallAll n (l.drop k)) ∧ Hid (wr.ownsRow w.heap.size 2 1 u n ((timesR (l.take k)).map (Value.int .i64))) ∧ Below w.heap.size w wr) (fun _ i _ => l.length - (intOf i).toNat)
  case atStart => exact ⟨0, 0, rfl, by omega, by omega, Lib.hid ⟨rfl, rfl⟩, Lib.hid (World.ownsRow_nil _ _ _ _), Below.refl _ _⟩
  case round =>
    obtain ⟨k, n, rfl, hkl, hn, HI, HO, hB⟩ := hrel
    by_cases gk : k < l.length
    · obtain ⟨⟨f, s, d⟩, hx⟩ : ∃ s, l[k]? = some s := ⟨_, List.getElem?_eq_getElem gk⟩
      obtain ⟨bb, off, rfl, hbw, hc1, hc2, hc3⟩ := HK.out k _ hx
      have c1 := (hB.cell (p := ⟨bb, off + k * 3, none⟩) hbw).trans hc1
      have c2 := (hB.cell (p := ⟨bb, off + k * 3 + 1, none⟩) hbw).trans hc2
      have c3 := (hB.cell (p := ⟨bb, off + k * 3 + 2, none⟩) hbw).trans hc3
      have j1 : (k : Int) < (l.length : Int) := by omega
      have j0 : (0 : Int) ≤ (k : Int) := by omega
      have SD := Lib.hid (smallAll_drop hx (n : Int))
      have ET := Lib.hid (times_more hx)
      simp only at c1 c2 c3
      clear hc1 hc2 hc3 hx
      obtain ⟨A3, c3', rfl⟩ := own_slice HO.out
      rcases small_cases f s d n hn with ⟨hb, hcs⟩ | ⟨hb, a1, a2, a3, a4, a5, a6, a7, a8⟩
      · have EE : Hid (timesD l = []) := Lib.hid (by rw [timesD, if_neg (by rw [HI.out.2, SD.out, hb]; simp)])
        clear SD ET HI
        rcases hcs with a1 | ⟨a1, a2⟩ | ⟨a1, a2, a3, a4⟩ | ⟨a1, a2, a3, a4, a5⟩ | ⟨a1, a2, a3, a4, a5, a6⟩ | ⟨a1, a2, a3, a4, a5, a6, a7⟩ | ⟨a1, a2, a3, a4, a5, a6, a7, a8⟩
        all_goals
          go_wp2_with fail
          go_ret
          exact ⟨_, rfl, under hB (below_alloc wr _), by rw [EE.out]; exact World.ownsRow_nil _ _ _ _⟩
      · obtain ⟨ET2, hEn⟩ : Hid (timesR (l.take (k + 1)) = timesR (l.take k) ++ stepsR f s d.toNat) ∧ Hid (smallAll 0 l = smallAll ((n : Int) + d) (l.drop (k + 1))) := ⟨Lib.hid ET.out, Lib.hid (by rw [HI.out.2, SD.out, hb, Bool.true_and])⟩
        have HN := Lib.hid HI.out.1
        clear ET SD HI hb
        generalize timesR (l.take k) = P at *
        go_wp2_with fail
        obtain ⟨wo, rfl⟩ : ∃ wo : World, wo = wr := ⟨_, rfl⟩
        have E0 : P ++ stepsR f s 0 = P := List.append_nil _
        go_loopw [3, 6] (fun u i wi => ∃ j : Nat, i = .int .i64 j ∧ (j : Int) ≤ d ∧ Hid (wi.ownsRow w.heap.size 2 1 u (P ++ stepsR f s j).length ((P ++ stepsR f s j).map (Value.int .i64))) ∧ Hid (wi.heap[wo.heap.size]? = some (.cells #[.int .i64 f, .int .i64 s, .int .i64 d] 36)) ∧ Below w.heap.size w wi) (fun _ i _ => (d - intOf i).toNat)
        case atStart => exact ⟨0, rfl, by omega, Lib.hid (by rw [E0, HN.out]; exact HO.out.alloc _), Lib.hid (alloc_at _ _), under hB (below_alloc wo _)⟩
        case round =>
          obtain ⟨j, rfl, hjc, HJ, HR, hBi⟩ := hrel
          obtain ⟨q1, q2, q3⟩ := run3_cells HR.out
          by_cases gj : (j : Int) < d
          · obtain ⟨b1, b2⟩ := small_step (s := s) (c := d) (by omega) (by omega) (by omega) gj
            have e3 : wrap64 ((j : Int) * s) = (j : Int) * s := i64_keeps (by omega) (by omega)
            have e4 : wrap64 (f + (j : Int) * s) = f + (j : Int) * s := i64_keeps (by omega) (by omega)
            have EV := Lib.hid (steps_more2 f s j)
            have hLn : (P ++ stepsR f s j).length ≤ 512 := by rw [List.length_append, steps_length, HN.out]; omega
            have hjs : j ≤ 256 := by omega
            clear b1 b2
            go_wp2_with (at_builtin; go_loud (refine wpList_append_own _ rfl _ _ 26 rfl w.heap.size 2 i0 (.int .i64 0) 1 8 Try.underlying26 hi hz0 hz1 hz2 rfl (by decide) _ _ _ rfl (HJ.out.alloc _) ⟨wr.heap.size, 0, none⟩ 1 1 [.int .i64 (f + (j : Int) * s)] rfl rfl ?c1 ?c2 ?c3 ?c4 ?c5 ?_))
            case c1 =>
              intro j u hj
              match j, hj with
              | 0, hj => simp at hj; subst hj; simp [Addr.add]
            case c2 => intro u hu; simp at hu; subst hu; rfl
            case c3 => unfold maxLen; omega
            case c4 => omega
            case c5 => have := hBi.size; simp; omega
            intro v' w12 hown' hgrow _
            have HR3 := Lib.hid (run_grows (below_heap (below_alloc wr _) HR.out) (HJ.out.alloc _) (by decide) hgrow)
            have HO3 : Hid (w12.ownsRow w.heap.size 2 1 v' ((P ++ stepsR f s j) ++ [f + (j : Int) * s]).length (((P ++ stepsR f s j) ++ [f + (j : Int) * s]).map (Value.int .i64))) := Lib.hid (by simpa [Nat.add_assoc] using hown')
            have hB3 := own_grows hBi HJ.out hgrow
            rw [List.append_assoc, ← EV.out] at HO3
            clear hown' hgrow HJ HR hBi q1 q2 q3 e3 e4
            go_wp2_with fail
            go_roundw
            case rel => exact ⟨j + 1, by simp, by omega, HO3, HR3, hB3⟩
            case measure => simp [intOf]; omega
          · have j2 : ¬ (j : Int) < d := by omega
            have EJ : j = d.toNat := by omega
            rw [EJ, ← ET2.out] at HJ
            obtain ⟨n2, hn2⟩ : ∃ n2 : Nat, n2 = n + d.toNat := ⟨_, rfl⟩
            have HI2 : Hid ((timesR (l.take (k + 1))).length = n2 ∧ smallAll 0 l = smallAll (n2 : Int) (l.drop (k + 1))) := Lib.hid ⟨by rw [ET2.out, List.length_append, steps_length, HN.out, hn2], by rw [hEn.out]; congr 1; omega⟩
            rw [HI2.out.1] at HJ
            go_wp2_with fail
            go_roundw
            case rel => exact ⟨k + 1, n2, by simp, gk, by omega, HI2, HJ, hBi⟩
            case measure => exact index_less7 gk
    · have hkk : k = l.length := by omega
      have i1 : ¬ (k : Int) < (l.length : Int) := by omega
      have EL : Hid (timesD l = timesR l ∧ (timesR l).length = n) := Lib.hid (by
        obtain ⟨h1, h2⟩ := HI.out
        rw [hkk, List.drop_length] at h2
        rw [hkk, List.take_length] at h1
        exact ⟨by rw [timesD, if_pos (by rw [h2]; rfl)], h1⟩)
      rw [hkk, List.take_length] at HO
      clear HI
      go_wp2_with fail
      go_ret
      exact ⟨_, rfl, hB, by unfold RowI; rw [EL.out.1, EL.out.2]; exact HO.out⟩
end Go.Proofs.Ytlfjmdfplmdmgaa
