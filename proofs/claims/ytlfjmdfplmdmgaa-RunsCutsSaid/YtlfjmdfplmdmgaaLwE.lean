/-
  Layer 7: rows of numbers that are copied; what an asked row tells. Conditions: those written at each fact.
-/
import Derived.Test.YtlfjmdfplmdmgaaLwD
import Derived.Test.YtlfjmdfplmdmgaaRmC
import Derived.Test.YtlfjmdfplmdmgaaClipL
namespace Go.Proofs.Ytlfjmdfplmdmgaa
open Go.RowKit Go.Shelf

theorem reads_takeI {w : World} {A : Option Addr} {c : Nat} {l : List Int} (h : Reads .i64 w (.slice A l.length c) l) (m : Nat) (hm : m ≤ l.length) : Reads .i64 w (.slice A m c) (l.take m) := by
  obtain ⟨A', c', e, hc, hk⟩ := h
  cases e
  refine ⟨A, c, by rw [List.length_take, Nat.min_eq_left hm], by rw [List.length_take, Nat.min_eq_left hm]; omega, fun i r hi => hk i r ?_⟩
  rw [List.getElem?_take] at hi
  split at hi
  · exact hi
  · cases hi
theorem reads_addI {w : World} {ad : Addr} {n c : Nat} {l : List Int} (h : Reads .i64 w (.slice (some ad) n c) l) (j : Nat) (u : Value) (hj : (l.map (Value.int .i64))[j]? = some u) : w.cell? (ad.add j) = some u := by
  obtain ⟨A', c', e, hc, hk⟩ := h
  cases e
  rw [List.getElem?_map] at hj
  cases hz : l[j]? with
  | none => rw [hz] at hj; cases hj
  | some z =>
    rw [hz] at hj
    obtain ⟨b, off, e1, _, e3⟩ := hk j z hz
    cases e1
    cases hj
    by_cases g0 : j = 0
    · subst g0; simpa [Addr.add] using e3
    · simpa [Addr.add, g0] using e3
theorem ints_one (l : List Int) : ∀ u ∈ l.map (Value.int .i64), u.oneCell' = true := by
  intro u hu; obtain ⟨x, _, rfl⟩ := List.mem_map.1 hu; rfl
/-- A copy: a row of the call's own. -/
def CopyI (w : World) (l : List Int) (e : Ending) (w' : World) : Prop := ∃ g cap, e = .returned (.slice (some ⟨g, 0, none⟩) l.length cap) ∧ Below w.heap.size w w' ∧ RowI w.heap.size l (.slice (some ⟨g, 0, none⟩) l.length cap) w'
theorem rowI_some {W : World} {B : Nat} {l : List Int} {v : Value} (h : RowI B l v W) (hne : l ≠ []) : ∃ g cap, v = .slice (some ⟨g, 0, none⟩) l.length cap ∧ l.length ≤ cap ∧ B ≤ g ∧ Ints W g l.length ∧ ∀ i x, l[i]? = some x → W.cell? ⟨g, i, none⟩ = some (.int .i64 x) := by
  obtain ⟨hl, h⟩ := h
  rcases h with ⟨rfl, h0⟩ | ⟨g, cap, cur, rfl, hB, hg, hn, _, hs, ht⟩
  · exact absurd (List.eq_nil_of_length_eq_zero h0) hne
  · have hcell : ∀ i x, l[i]? = some x → W.cell? ⟨g, i, none⟩ = some (.int .i64 x) := fun i z hi => by
      have hi' : i < l.length := (List.getElem?_eq_some_iff.1 hi).1
      have e : cur[i]? = some (.int .i64 z) := by
        have e1 : (cur.toList.take (l.length * 1))[i]? = (l.map (Value.int .i64))[i]? := by rw [ht]
        rw [List.getElem?_take, if_pos (by omega), List.getElem?_map, hi] at e1
        simpa using e1
      simp [World.cell?, hg, e]
    refine ⟨g, cap, rfl, hn, hB, ⟨(Array.getElem?_eq_some_iff.1 hg).1, fun j hj => ⟨⟨l[j], hcell j _ (List.getElem?_eq_getElem hj)⟩, by simp [World.frozen?, hg]⟩⟩, hcell⟩
set_option maxRecDepth 100000 in
set_option maxHeartbeats 1000000 in
theorem cloneI (l : List Int) (hl : l.length ≤ 1000000) (hne : l ≠ []) (ad : Addr) (c : Nat) (w : World) (h : Reads .i64 w (.slice (some ad) l.length c) l) : Calls Try.prog 32 #[.slice (some ad) l.length c] w (CopyI w l) := by
  obtain ⟨i0, hi, hz0, hz1, hz2⟩ := info_parts infoI64
  have HH := Lib.hid h
  have HN := Lib.hid hne
  clear h hne
  have q : ∀ (w : World) (a : Option Addr) (n c n' c' : Nat), (binOp .eql 26 (.slice a n c) (.slice none n' c')).run Try.prog w = .ok (.bool a.isNone) w := fun w a n c n' c' => Lib.run_eql_slice_nil w _ _ a n c n' c' Try.underlying26
  go_enter Try.func32, Try.ntmps32
  go_wp2_with (at_builtin; refine wpList_append_own _ rfl _ _ 26 rfl w.heap.size 2 i0 (.int .i64 0) 1 8 Try.underlying26 hi hz0 hz1 hz2 rfl (by decide) _ _ _ rfl (World.ownsRow_made w #[] 0 (Nat.le_refl _) (Nat.zero_le _) rfl) ad l.length c (l.map (Value.int .i64)) rfl ?qc1 ?qc2 ?qc3 ?qc4 ?qc5 ?qc6 ?_)
  case qc1 => simp
  case qc2 => exact reads_addI (HH.out.below (below_alloc w _))
  case qc3 => exact ints_one l
  case qc4 => unfold maxLen; omega
  case qc5 => omega
  case qc6 => simp
  intro v' w1 hown hgrow _
  have ho : RowI w.heap.size l v' w1 := by simpa [RowI] using hown
  obtain ⟨g, cap, e, _⟩ := rowI_some ho HN.out
  have HO := Lib.hid ho
  have hB : Below w.heap.size w w1 := ((Below.refl _ w).alloc (Nat.le_refl _) _).grown hgrow (by simp) (by intro k hk; simp [Value.ownBlock] at hk; omega)
  subst e
  clear HH q hown hgrow ho
  go_wp2_with fail
  go_ret
  exact ⟨g, cap, rfl, hB, HO.out⟩
theorem find_at : ∀ {l : List Int} {k i : Nat} {t : Int}, l.Pairwise (· < ·) → l[i]? = some t → findF k l t = some (k + i)
  | [], _, _, _, _, h => by simp at h
  | x :: l, k, 0, t, _, h => by
    simp at h; subst h
    rw [findF, if_pos rfl]; rfl
  | x :: l, k, i + 1, t, hp, h => by
    obtain ⟨h1, h2⟩ := List.pairwise_cons.1 hp
    have hx := h1 t (List.mem_of_getElem? (by simpa using h))
    rw [findF, if_neg (by omega), if_neg (by omega), find_at (k := k + 1) h2 (by simpa using h)]
    congr 1
    omega
/-- What stands first in its way, where numbers are no times. -/
theorem not_are {l : List Int} (h : areB l = false) (h1 : 1 ≤ l.length) (h2 : l.length ≤ 256) {x y : Int} (hx : l[0]? = some x) (hy : l[l.length - 1]? = some y) (h3 : 0 ≤ x) (h4 : y ≤ 281474976710656) (hs : SortedFrom 0 l) : ∃ i z, l[i]? = some z ∧ l[i + 1]? = some z := by
  by_cases hd : ∃ i z, l[i]? = some z ∧ l[i + 1]? = some z
  · exact hd
  · exfalso
    have hlt : ∀ (d i : Nat) (a b : Int), l[i]? = some a → l[i + d + 1]? = some b → a < b := by
      intro d
      induction d with
      | zero =>
        intro i a b ha hb
        have := hs i a b (Nat.zero_le _) ha hb
        by_cases e : a = b
        · subst e; exact absurd ⟨i, a, ha, hb⟩ hd
        · omega
      | succ d ih =>
        intro i a b ha hb
        have hl := (List.getElem?_eq_some_iff.1 hb).1
        obtain ⟨c, hc⟩ : ∃ c, l[i + d + 1]? = some c := ⟨_, List.getElem?_eq_getElem (by omega)⟩
        have h5 := ih i a c ha hc
        have h6 := hs (i + d + 1) c b (Nat.zero_le _) hc (by rw [← hb]; congr 1)
        omega
    have hlt2 : ∀ (i j : Nat) (a b : Int), i < j → l[i]? = some a → l[j]? = some b → a < b := fun i j a b hij ha hb =>
      hlt (j - i - 1) i a b ha (by rw [← hb]; congr 1; omega)
    have hU : Up l := by
      refine ⟨fun t ht => ?_, List.pairwise_iff_getElem.2 (fun i j hi hj hij => hlt2 i j _ _ hij (List.getElem?_eq_getElem hi) (List.getElem?_eq_getElem hj))⟩
      obtain ⟨i, hi⟩ := List.mem_iff_getElem?.1 ht
      have hil := (List.getElem?_eq_some_iff.1 hi).1
      constructor
      · by_cases e : i = 0
        · subst e; rw [hx] at hi; cases hi; exact h3
        · have := hlt2 0 i x t (by omega) hx hi; omega
      · by_cases e : i = l.length - 1
        · subst e; rw [hy] at hi; cases hi; exact h4
        · have := hlt2 i (l.length - 1) t y (by omega) hi hy; omega
    have := (areB_iff l).2 ⟨h1, h2, hU⟩
    rw [h] at this
    cases this
end Go.Proofs.Ytlfjmdfplmdmgaa
