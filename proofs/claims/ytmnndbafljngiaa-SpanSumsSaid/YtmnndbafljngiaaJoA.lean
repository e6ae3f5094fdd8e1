/-
  Layer 4: the law SpanJoins, its parts: rows copied, gone through, compared. Conditions: those written at each fact.
-/
import Derived.Test.YtmnndbafljngiaaHol
import Derived.Lib.SliceRun
namespace Go.Proofs.Ytmnndbafljngiaa
open Go.RowKit

/-- A copy of the call's own. -/
def MadeS (w : World) (l : List (Int × Int)) (e : Ending) (w' : World) : Prop := ∃ v', e = .returned v' ∧ Below w.heap.size w w' ∧ w'.ownsRow w.heap.size 23 2 v' l.length (flatS l)
theorem flatS_inv : ∀ (l : List (Int × Int)) (j : Nat) (u : Value), (flatS l)[j]? = some u → ∃ i s, l[i]? = some s ∧ (j = i * 2 ∧ u = .int .i64 s.1 ∨ j = i * 2 + 1 ∧ u = .int .i64 s.2)
  | [], j, u, h => by simp [flatS] at h
  | s :: l, 0, u, h => ⟨0, s, rfl, .inl ⟨rfl, by simpa [flatS] using h.symm⟩⟩
  | s :: l, 1, u, h => ⟨0, s, rfl, .inr ⟨rfl, by simpa [flatS] using h.symm⟩⟩
  | s :: l, j + 2, u, h => by
    obtain ⟨i, x, h1, h2⟩ := flatS_inv l j u (by simpa [flatS] using h)
    rcases h2 with ⟨rfl, h2⟩ | ⟨rfl, h2⟩
    · exact ⟨i + 1, x, by simpa using h1, .inl ⟨by omega, h2⟩⟩
    · exact ⟨i + 1, x, by simpa using h1, .inr ⟨by omega, h2⟩⟩
theorem reads_flat {w : World} {ad : Addr} {n c : Nat} {l : List (Int × Int)} (h : ReadsS w (.slice (some ad) n c) l) : ∀ (j : Nat) (u : Value), (flatS l)[j]? = some u → w.cell? (ad.add j) = some u := by
  intro j u hj
  obtain ⟨A, c', e, hk⟩ := h
  injection e with e1 e2 e3
  subst e1
  obtain ⟨i, s, h1, h2⟩ := flatS_inv l j u hj
  obtain ⟨b, off, e4, _, k1, k2⟩ := hk i s h1
  injection e4 with e4
  subst e4
  have ea : ∀ q, (⟨b, off, none⟩ : Addr).add q = ⟨b, off + q, none⟩ := fun q => by unfold Addr.add; split <;> simp_all
  rw [ea]
  rcases h2 with ⟨rfl, rfl⟩ | ⟨rfl, rfl⟩
  · exact k1
  · exact k2
set_option maxRecDepth 100000 in
set_option maxHeartbeats 1000000 in
theorem cloneS (l : List (Int × Int)) (hl : l.length ≤ 1000000) (v : Value) (w : World) (h : ReadsS w v l) : Calls Try.prog 55 #[v] w (MadeS w l) := by
  obtain ⟨i0, hi, hz0, hz1, hz2⟩ := info_parts infoSpan
  have hh := h
  obtain ⟨A, c, rfl, hk⟩ := h
  have HK := Lib.hid hk
  have HH := Lib.hid hh
  clear hk hh
  have q : ∀ (w : World) (a : Option Addr) (n c n' c' : Nat), (binOp .eql 45 (.slice a n c) (.slice none n' c')).run Try.prog w = .ok (.bool a.isNone) w := fun w a n c n' c' => Lib.run_eql_slice_nil w _ _ a n c n' c' Try.underlying45
  cases A with
  | none =>
    have e : l = [] := by
      cases l with
      | nil => rfl
      | cons x l' =>
        obtain ⟨b, off, e1, _⟩ := HK.out 0 x rfl
        cases e1
    subst e
    go_enter Try.func55, Try.ntmps55
    go_wp2_with fail
    go_ret
    exact ⟨_, rfl, Below.refl _ _, World.ownsRow_nil _ _ _ _⟩
  | some ad =>
    have FL := Lib.hid (flatS_length l)
    go_enter Try.func55, Try.ntmps55
    go_wp2_with (at_builtin; refine wpList_append_own _ rfl _ _ 45 rfl w.heap.size 23 i0 (.agg #[.int .i64 0, .int .i64 0]) 2 16 Try.underlying45 hi hz0 hz1 hz2 rfl (by decide) _ _ _ rfl (World.ownsRow_made w #[] 0 (Nat.le_refl _) (Nat.zero_le _) rfl) ad l.length c (flatS l) rfl ?qc1 ?qc2 ?qc3 ?qc4 ?qc5 ?qc6 ?_)
    case qc1 => exact FL.out
    case qc2 => exact reads_flat (HH.out.below (below_alloc w _))
    case qc3 => exact flatS_one l
    case qc4 => unfold maxLen; omega
    case qc5 => omega
    case qc6 => simp
    intro v' w1 hown hgrow _
    clear HH HK q
    go_wp2_with fail
    go_ret
    exact ⟨v', rfl, ((Below.refl _ w).alloc (Nat.le_refl _) _).grown hgrow (by simp) (by intro k hk; simp [Value.ownBlock] at hk; omega), by simpa using hown⟩
theorem readsS_take {w : World} {A : Option Addr} {c : Nat} {l : List (Int × Int)} (h : ReadsS w (.slice A l.length c) l) (m : Nat) (hm : m ≤ l.length) : ReadsS w (.slice A m c) (l.take m) := by
  obtain ⟨A', c', e, hk⟩ := h
  injection e with e1 e2 e3
  subst e1 e3
  refine ⟨A, c, by rw [List.length_take, Nat.min_eq_left hm], fun i s hs => ?_⟩
  rw [List.getElem?_take] at hs
  split at hs
  · exact hk i s hs
  · cases hs
set_option maxRecDepth 100000 in
set_option maxHeartbeats 1000000 in
theorem few_any (l : List (Int × Int)) (hl : l.length ≤ 9223372036854775807) (v : Value) (w : World) (h : ReadsS w v l) (hr : ∀ A n c, v = .slice A n c → n ≤ c) : Calls Try.prog 24 #[v] w (MadeS w (l.take 20)) := by
  obtain ⟨A, c, rfl, hk⟩ := h
  have hc := hr _ _ _ rfl
  by_cases gs : l.length ≤ 20
  · have CL := Lib.hid (cloneS (l.take 20) (by simp; omega) (.slice A l.length c) w (by rw [List.take_of_length_le gs]; exact ⟨A, c, rfl, hk⟩))
    clear hk hr
    go_enter Try.func24, Try.ntmps24
    go_wp2_with fail
    refine CL.out.mono ?_
    rintro e w1 ⟨v1, rfl, hb, ho⟩
    go_wp2_with fail
    go_ret
    exact ⟨v1, rfl, hb, ho⟩
  · have CL := Lib.hid (cloneS (l.take 20) (by simp; omega) (.slice A 20 c) w (readsS_take ⟨A, c, rfl, hk⟩ 20 (by omega)))
    clear hk hr
    go_enter Try.func24, Try.ntmps24
    go_wp2_with fail
    refine CL.out.mono ?_
    rintro e w1 ⟨v1, rfl, hb, ho⟩
    go_wp2_with fail
    go_ret
    exact ⟨v1, rfl, hb, ho⟩
end Go.Proofs.Ytmnndbafljngiaa
