/-
  Layer 8: bands from some place on, and up to it, may be; Cut of bands that may be. Conditions: those written at each fact.
-/
import Derived.Test.YtmkminaipeodnaaMaB
import Derived.Test.YtmkminaipeodnaaHlE
namespace Go.Proofs.Ytmkminaipeodnaa.P8
open Go.RowKit Go.Shelf

theorem restD_iff : ∀ (l : List Bd) (p : Option Int), restD p l = true ↔ (∀ a, p = some a → ∀ b ∈ l, a < b.t) ∧ (∀ b ∈ l, BdOk b) ∧ l.Pairwise (fun x y => x.t < y.t)
  | [], p => by simp [restD]
  | b :: l, p => by
    have ih := restD_iff l (some b.t)
    have e : restD p (b :: l) = true ↔ bandB b = true ∧ (∀ a, p = some a → a < b.t) ∧ restD (some b.t) l = true := by
      cases p <;> simp [restD]
    rw [e, ih, bandB_iff, List.pairwise_cons]
    constructor
    · rintro ⟨h1, h2, h3, h4, h5⟩
      refine ⟨fun a ha x hx => ?_, fun x hx => ?_, h3 b.t rfl, h5⟩
      · rcases List.mem_cons.1 hx with rfl | hx
        · exact h2 a ha
        · exact Int.lt_trans (h2 a ha) (h3 b.t rfl x hx)
      · rcases List.mem_cons.1 hx with rfl | hx
        · exact h1
        · exact h4 x hx
    · rintro ⟨h1, h2, h3, h4⟩
      exact ⟨h2 b (by simp), fun a ha => h1 a ha b (by simp), fun a ha => by cases ha; exact h3, fun x hx => h2 x (by simp [hx]), h4⟩
theorem okD_iff (l : List Bd) : okD l = true ↔ 1 ≤ l.length ∧ l.length ≤ 256 ∧ (∀ b ∈ l, BdOk b) ∧ l.Pairwise (fun x y => x.t < y.t) := by
  unfold okD
  simp only [Bool.and_eq_true, decide_eq_true_eq, restD_iff]
  constructor
  · rintro ⟨h1, h2, _, h3, h4⟩; exact ⟨h1, h2, h3, h4⟩
  · rintro ⟨h1, h2, h3, h4⟩; exact ⟨h1, h2, ⟨fun a ha => (by cases ha), h3, h4⟩⟩
theorem okD_take {l : List Bd} (h : okD l = true) {k : Nat} (h1 : 1 ≤ k) : okD (l.take k) = true := by
  obtain ⟨g1, g2, g3, g4⟩ := (okD_iff l).1 h
  exact (okD_iff _).2 ⟨by rw [List.length_take]; omega, by rw [List.length_take]; omega, fun b hb => g3 b (List.mem_of_mem_take hb), g4.sublist (List.take_sublist k l)⟩
theorem okD_drop {l : List Bd} (h : okD l = true) {k : Nat} (h1 : k < l.length) : okD (l.drop k) = true := by
  obtain ⟨g1, g2, g3, g4⟩ := (okD_iff l).1 h
  exact (okD_iff _).2 ⟨by rw [List.length_drop]; omega, by rw [List.length_drop]; omega, fun b hb => g3 b (List.mem_of_mem_drop hb), g4.sublist (List.drop_sublist k l)⟩
theorem cutD_length (l : List Bd) : (cutD l).length = (cutN l).length := by rw [cutD_eq, List.length_map]
theorem cutN_length (l : List Bd) : (cutN l).length ≤ l.length := by
  have := partsD_length l.length 0 l (Nat.le_refl _)
  unfold cutN
  rwa [List.length_map]
theorem cutOk_any {l : List Bd} (hk : okD l = true) (v : Value) (w : World) (h : ReadsD w v l) : Calls Try.prog 20 #[v] w (CutEnd w (cutD l) 0) := by
  have := cut_any l (by have := (okD_facts hk).2.1; omega) v w h
  rwa [show cutR l = cutD l by simp [cutR, hk], show codeK l = 0 by simp [codeK, hk]] at this
/-- What Cut leaves of bands that may be: a row of numbers. -/
theorem CutEnd.open {w w' : World} {l : List Int} {code : Int} {e : Ending} (h : CutEnd w l code e w') : Below w.heap.size w w' ∧ ∃ A c, e = .returned (.tuple #[.slice A l.length c, .int .i64 code]) ∧ Reads .i64 w' (.slice A l.length c) l := by
  obtain ⟨h1, A, n, c, h2, h3⟩ := h
  have hr := reads_own h3
  obtain ⟨e5, _, _⟩ := hr.at
  subst e5
  exact ⟨h1, A, c, h2, hr⟩
/-- A part of a slice of bands. -/
theorem ReadsD.front {w : World} {A : Option Addr} {n c : Nat} {l : List Bd} (h : ReadsD w (.slice A n c) l) (k : Nat) (hk : k ≤ l.length) : ReadsD w (.slice A k c) (l.take k) := by
  have e : n = l.length := by obtain ⟨_, _, e, _⟩ := h; cases e; rfl
  subst e
  exact readsD_take h k hk
theorem ReadsD.back {w : World} {bb off n c : Nat} {l : List Bd} (h : ReadsD w (.slice (some ⟨bb, off, none⟩) n c) l) (k : Nat) (hk : k ≤ l.length) : ReadsD w (.slice (some ⟨bb, off + k * 3, none⟩) (n - k) (c - k)) (l.drop k) := by
  have e : n = l.length := by obtain ⟨_, _, e, _⟩ := h; cases e; rfl
  subst e
  exact h.drop k hk
/-- A row of bands of the call's own is a slice that reads. -/
theorem LaidD.open {w w' : World} {l : List Bd} {e : Ending} (h : LaidD w l e w') : Below w.heap.size w w' ∧ ∃ A c, e = .returned (.slice A l.length c) ∧ l.length ≤ c ∧ ReadsD w' (.slice A l.length c) l := by
  obtain ⟨v, h1, h2, h3⟩ := h
  have hr := readsD_own h3
  have hr2 := hr
  obtain ⟨A, c, e2, hc, _⟩ := hr
  subst e2
  exact ⟨h2, A, c, h1, hc, hr2⟩
end Go.Proofs.Ytmkminaipeodnaa.P8
