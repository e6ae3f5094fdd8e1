/-
  Layer 8: the laws' helpers: rows of bands. Conditions: those written at each fact.
-/
import Derived.Test.YtjioljgojfcckaaGreatBA
import Derived.Laws.AppendOwn
import Derived.Lib.SliceRun
namespace Go.Proofs.YtjioljgojfcckaaGreat.P8
open Go.RowKit Go.Shelf

theorem infoBand : (Tryz.prog.info? 44).map (fun i => (i.zero, i.size, i.bytes)) = some (some (.agg #[.int .i64 0, .int .i64 0, .int .i64 0]), 3, 24) := by kernel_rfl

/-- The cells of runs. -/
def flatD : List Bd → List Value
  | [] => []
  | r :: l => .int .i64 r.t :: .int .i64 r.lo :: .int .i64 r.hi :: flatD l

theorem flatD_length : ∀ l : List Bd, (flatD l).length = l.length * 3
  | [] => rfl
  | s :: l => by simp [flatD, flatD_length l]; omega

theorem flatD_at : ∀ (l : List Bd) (i : Nat) (r : Bd), l[i]? = some r → (flatD l)[i * 3]? = some (.int .i64 r.t) ∧ (flatD l)[i * 3 + 1]? = some (.int .i64 r.lo) ∧ (flatD l)[i * 3 + 2]? = some (.int .i64 r.hi)
  | [], i, s, h => by simp at h
  | x :: l, 0, s, h => by simp at h; subst h; exact ⟨rfl, rfl, rfl⟩
  | x :: l, i + 1, s, h => by
    have := flatD_at l i s (by simpa using h)
    rw [show (i + 1) * 3 = i * 3 + 3 by omega]
    exact this

theorem flatD_one (l : List Bd) : ∀ u ∈ flatD l, u.oneCell' = true := by
  induction l with
  | nil => intro u hu; simp [flatD] at hu
  | cons a l ih =>
    intro u hu
    simp only [flatD, List.mem_cons] at hu
    rcases hu with rfl | rfl | rfl | hu
    · rfl
    · rfl
    · rfl
    · exact ih u hu

/-- Runs in a row of the call's own read. -/
theorem readsD_own {w : World} {B : Nat} {t : TypeId} {v : Value} {l : List Bd} (h : w.ownsRow B t 3 v l.length (flatD l)) : ReadsD w v l := by
  obtain ⟨hl, h⟩ := h
  rcases h with ⟨rfl, h0⟩ | ⟨g, cap, cur, rfl, hB, hg, hn, _, hs, ht⟩
  · rw [List.eq_nil_of_length_eq_zero h0]
    exact ⟨none, 0, rfl, Nat.le_refl _, fun i r hi => by simp at hi⟩
  · refine ⟨_, _, rfl, hn, fun i r hi => ⟨g, 0, rfl, (Array.getElem?_eq_some_iff.1 hg).1, ?_⟩⟩
    have hi' : i < l.length := (List.getElem?_eq_some_iff.1 hi).1
    obtain ⟨e1, e2, e3⟩ := flatD_at l i r hi
    rw [← ht, List.getElem?_take, if_pos (by omega)] at e1
    rw [← ht, List.getElem?_take, if_pos (by omega)] at e2
    rw [← ht, List.getElem?_take, if_pos (by omega)] at e3
    refine ⟨?_, ?_, ?_⟩
    · simp [World.cell?, hg]; simpa using e1
    · simp [World.cell?, hg]; simpa using e2
    · simp [World.cell?, hg]; simpa using e3

/-- The cells of some runs of a row, from one on. -/
theorem reads_flat {W : World} {b off : Nat} : ∀ {m : List Bd}, (∀ i r, m[i]? = some r → W.cell? ⟨b, off + i * 3, none⟩ = some (.int .i64 r.t) ∧ W.cell? ⟨b, off + i * 3 + 1, none⟩ = some (.int .i64 r.lo) ∧ W.cell? ⟨b, off + i * 3 + 2, none⟩ = some (.int .i64 r.hi)) →
    ∀ (j : Nat) (u : Value), (flatD m)[j]? = some u → W.cell? ((⟨b, off, none⟩ : Addr).add j) = some u := by
  intro m h j u hj
  have hadd : (⟨b, off, none⟩ : Addr).add j = ⟨b, off + j, none⟩ := by unfold Addr.add; split <;> simp_all
  rw [hadd]
  have hlt : j < m.length * 3 := by rw [← flatD_length]; exact (List.getElem?_eq_some_iff.1 hj).1
  obtain ⟨r, hr⟩ : ∃ r, m[j / 3]? = some r := ⟨_, List.getElem?_eq_getElem (by omega)⟩
  obtain ⟨a1, a2, a3⟩ := flatD_at m (j / 3) r hr
  obtain ⟨b1, b2, b3⟩ := h (j / 3) r hr
  have h3 : j % 3 = 0 ∨ j % 3 = 1 ∨ j % 3 = 2 := by omega
  rcases h3 with h3 | h3 | h3
  · rw [show j / 3 * 3 = j by omega] at a1 b1
    rw [b1, ← hj, a1]
  · rw [show j / 3 * 3 + 1 = j by omega] at a2
    rw [show off + j / 3 * 3 + 1 = off + j by omega] at b2
    rw [b2, ← hj, a2]
  · rw [show j / 3 * 3 + 2 = j by omega] at a3
    rw [show off + j / 3 * 3 + 2 = off + j by omega] at b3
    rw [b3, ← hj, a3]

theorem readsD_take {w : World} {A : Option Addr} {c : Nat} {l : List Bd} (h : ReadsD w (.slice A l.length c) l) (m : Nat) (hm : m ≤ l.length) : ReadsD w (.slice A m c) (l.take m) := by
  obtain ⟨A', c', e, hc, hk⟩ := h
  cases e
  refine ⟨A, c, by rw [List.length_take, Nat.min_eq_left hm], by rw [List.length_take, Nat.min_eq_left hm]; omega, fun i r hi => hk i r ?_⟩
  rw [List.getElem?_take] at hi
  split at hi
  · exact hi
  · cases hi

theorem reads_flatD {W : World} {ad : Addr} {n c : Nat} {l : List Bd} (h : ReadsD W (.slice (some ad) n c) l) : ∀ (j : Nat) (u : Value), (flatD l)[j]? = some u → W.cell? (ad.add j) = some u := by
  intro j u hj
  obtain ⟨A', c', e, hc, hk⟩ := h
  cases e
  cases l with
  | nil => simp [flatD] at hj
  | cons r l =>
    obtain ⟨b, off, e1, _⟩ := hk 0 r rfl
    cases e1
    exact reads_flat (fun i r2 hi => by obtain ⟨b', off', e2, _, e3⟩ := hk i r2 hi; cases e2; exact e3) j u hj

/-- A row of runs that fills its block. -/
def RowAt (W : World) (g : Nat) (m : List Bd) : Prop := W.heap[g]? = some (.cells (flatD m).toArray 44 (0, 0))

theorem RowAt.cells {W : World} {g : Nat} {m : List Bd} (h : RowAt W g m) {k : Nat} {r : Bd} (hk : m[k]? = some r) :
    g < W.heap.size ∧ W.cell? ⟨g, k * 3, none⟩ = some (.int .i64 r.t) ∧ W.cell? ⟨g, k * 3 + 1, none⟩ = some (.int .i64 r.lo) ∧ W.cell? ⟨g, k * 3 + 2, none⟩ = some (.int .i64 r.hi) ∧ ∀ j, W.frozen? ⟨g, j, none⟩ = false := by
  obtain ⟨a1, a2, a3⟩ := flatD_at m k r hk
  have e : W.heap[g]? = _ := h
  refine ⟨(Array.getElem?_eq_some_iff.1 e).1, ?_, ?_, ?_, fun j => ?_⟩
  · simp [World.cell?, e]; exact a1
  · simp [World.cell?, e]; exact a2
  · simp [World.cell?, e]; exact a3
  · simp [World.frozen?, e]

/-- Runs that are written out. -/
theorem readsD_new {w : World} {l : List Bd} (n : Nat) (hn : l.length = n) : ReadsD (w.alloc (.cells (flatD l).toArray 44)) (.slice (some ⟨w.heap.size, 0, none⟩) n n) l := by
  subst hn
  refine ⟨_, _, rfl, Nat.le_refl _, fun i r hi => ⟨w.heap.size, 0, rfl, by simp, ?_⟩⟩
  have h : RowAt (w.alloc (.cells (flatD l).toArray 44)) w.heap.size l := World.alloc_heap_new w _
  obtain ⟨_, a1, a2, a3, _⟩ := h.cells hi
  rw [Nat.zero_add]
  exact ⟨a1, a2, a3⟩

/-- A row of bands of the call's own. -/
def LaidD (w : World) (l : List Bd) (e : Ending) (w' : World) : Prop := ∃ v, e = .returned v ∧ Below w.heap.size w w' ∧ w'.ownsRow w.heap.size 44 3 v l.length (flatD l)
end Go.Proofs.YtjioljgojfcckaaGreat.P8

/-
  Layer 8: the laws' helpers: equal rows, rows of their own. Conditions: those written at each fact.
-/
namespace Go.Proofs.YtjioljgojfcckaaGreat.P8
open Go.RowKit Go.Shelf

set_option maxRecDepth 100000 in
set_option maxHeartbeats 2000000 in
theorem equalN (l : List Int) (hl : l.length ≤ 10000000) (v v2 : Value) (w : World) (h : Reads .i64 w v l) (h2 : Reads .i64 w v2 l) : Calls Tryz.prog 17 #[v, v2] w (Ret w (.bool true)) := by
  obtain ⟨A, c, rfl, _, hk⟩ := h
  obtain ⟨A2, c2, rfl, _, hk2⟩ := h2
  have HK := Lib.hid hk
  have HK2 := Lib.hid hk2
  clear hk hk2
  have t' : ((l.length : Int) != (l.length : Int)) = false := by simp
  go_enter Tryz.func17, Tryz.ntmps17
  go_wp2_with fail
  go_loopw [13] (fun i wr => ∃ k : Nat, i = .int .i64 k ∧ k ≤ l.length ∧ Below w.heap.size w wr) (fun i _ => l.length - (intOf i).toNat)
  case atStart => exact ⟨0, rfl, by omega, Below.refl _ _⟩
  case round =>
    obtain ⟨k, rfl, hkl, hB⟩ := hrel
    by_cases gk : k < l.length
    · obtain ⟨x, hx⟩ : ∃ s, l[k]? = some s := ⟨_, List.getElem?_eq_getElem gk⟩
      obtain ⟨b, off, rfl, hbw, d1⟩ := HK.out k _ hx
      obtain ⟨b2, off2, rfl, hbw2, d3⟩ := HK2.out k _ hx
      have c1 := (hB.cell (p := ⟨b, off + k, none⟩) hbw).trans d1
      have c3 := (hB.cell (p := ⟨b2, off2 + k, none⟩) hbw2).trans d3
      have i1 : (k : Int) < (l.length : Int) := by omega
      have i0 : (0 : Int) ≤ (k : Int) := by omega
      have t1 : (x != x) = false := by simp
      clear d1 d3 hx
      go_wp2_with fail
      go_quiet (fail)
      go_wp2_with fail
      go_roundw
      case rel => exact ⟨k + 1, by simp, by omega, below_drewN hB _⟩
      case measure => simp [intOf]; omega
    · have i1 : ¬ (k : Int) < (l.length : Int) := by omega
      go_wp2_with fail
      go_ret
      exact ⟨rfl, hB⟩
end Go.Proofs.YtjioljgojfcckaaGreat.P8

/-
  Layer 8: the laws' helpers: does a constant go through bands? Conditions: those written at each fact.
-/
namespace Go.Proofs.YtjioljgojfcckaaGreat.P8
open Go.RowKit Go.Shelf

end Go.Proofs.YtjioljgojfcckaaGreat.P8

/-
  Layer 8: the laws' helpers: bands of ends. Conditions: those written at each fact.
-/
namespace Go.Proofs.YtjioljgojfcckaaGreat.P8
open Go.RowKit Go.Shelf

end Go.Proofs.YtjioljgojfcckaaGreat.P8

/-
  Layer 8: the parts of bands, in numbers: the first part is the longest one, and no other way has fewer parts. Conditions: those written at each fact.
-/
namespace Go.Proofs.YtjioljgojfcckaaGreat.P8
open Go.RowKit

/-- A constant goes through bands. -/
def Thru (l : List Bd) (v : Int) : Prop := ∀ b ∈ l, b.lo ≤ v ∧ v ≤ b.hi
theorem Thru.nil (v : Int) : Thru [] v := fun b hb => by simp at hb
theorem goM_inv : ∀ (l : List Bd) (lo hi : Int), lo ≤ hi → lo ≤ (goM lo hi l).2.1 ∧ (goM lo hi l).2.1 ≤ (goM lo hi l).2.2 ∧ (goM lo hi l).2.2 ≤ hi
  | [], lo, hi, h => ⟨Int.le_refl _, h, Int.le_refl _⟩
  | b :: l, lo, hi, h => by
    by_cases g : min hi b.hi < max lo b.lo
    · rw [goM_stop g]; exact ⟨Int.le_refl _, h, Int.le_refl _⟩
    · rw [goM_next g]
      obtain ⟨h1, h2, h3⟩ := goM_inv l (max lo b.lo) (min hi b.hi) (by omega)
      simp only
      omega
theorem first_le {l : List Bd} (hR : ∀ b ∈ l, BdOk b) (hne : l ≠ []) : -2305844108725321728 ≤ (firstD l).lo ∧ (firstD l).lo ≤ (firstD l).hi ∧ (firstD l).hi ≤ 2305844108725321728 := by
  obtain ⟨b, l', rfl⟩ := List.exists_cons_of_ne_nil hne
  obtain ⟨_, _, h1, h2, h3⟩ := hR b (by simp)
  obtain ⟨g1, g2, g3⟩ := goM_inv l' b.lo b.hi h1
  simp only [firstD]
  omega
/-- Bands are cut into so many parts, through each of which a constant goes. -/
inductive Cov : List Bd → Nat → Prop
  | nil : Cov [] 0
  | cons {l : List Bd} {m : Nat} (p : Nat) (v : Int) (h1 : 1 ≤ p) (h2 : p ≤ l.length) (h3 : Thru (l.take p) v) (h4 : Cov (l.drop p) m) : Cov l (m + 1)
end Go.Proofs.YtjioljgojfcckaaGreat.P8

/-
  Layer 8: the laws' first line: does the layer do anything? Conditions: none.
-/
namespace Go.Proofs.YtjioljgojfcckaaGreat.P8
open Go.RowKit Go.Shelf

theorem com_le (l : List Bd) : comLo l ≤ comHi l ∧ -2305844108725321728 ≤ comLo l ∧ comHi l ≤ 2305844108725321728 := by
  unfold comLo comHi
  by_cases g : codeC l = 0
  · rw [if_pos g, if_pos g]
    have hk : okD l = true := by
      unfold codeC at g
      cases h : okD l
      · rw [h] at g; simp at g
      · rfl
    obtain ⟨h1, h2, h3⟩ := first_le (okD_facts hk).2.2 (okD_ne hk)
    exact ⟨h2, h1, h3⟩
  · rw [if_neg g, if_neg g]; omega
theorem fitA_any (l : List Bd) (hl : l.length ≤ 9223372036854775807) (v : Value) (w : World) (h : ReadsD w v l) :
    Calls Tryz.prog 91 #[v] w (Ret w (.tuple #[.int .i64 (fitD l), .int .i64 (codeC l)])) := by
  obtain ⟨h1, h2, h3⟩ := com_le l
  exact fit_any l hl h1 (by omega) (by omega) v w h
end Go.Proofs.YtjioljgojfcckaaGreat.P8

/-
  Layer 8: bands that are cut elsewhere, joined, or narrower; each two of them. Conditions: those written at each fact.
-/
namespace Go.Proofs.YtjioljgojfcckaaGreat.P8
open Go.RowKit

theorem Cov.zero {l : List Bd} (h : l = []) : Cov l 0 := by subst h; exact .nil
/-- Narrower bands. -/
def Nar (l m : List Bd) : Prop := l.length = m.length ∧ ∀ (i : Nat) (b c : Bd), l[i]? = some b → m[i]? = some c → b.lo ≤ c.lo ∧ c.hi ≤ b.hi
theorem Nar.take {l m : List Bd} (h : Nar l m) (k : Nat) : Nar (l.take k) (m.take k) := by
  refine ⟨by rw [List.length_take, List.length_take, h.1], fun i b c h1 h2 => ?_⟩
  rw [List.getElem?_take] at h1 h2
  split at h1
  · rename_i hi
    rw [if_pos hi] at h2
    exact h.2 i b c h1 h2
  · cases h1
theorem Nar.drop {l m : List Bd} (h : Nar l m) (k : Nat) : Nar (l.drop k) (m.drop k) := by
  refine ⟨by rw [List.length_drop, List.length_drop, h.1], fun i b c h1 h2 => ?_⟩
  rw [List.getElem?_drop] at h1 h2
  exact h.2 _ b c h1 h2
end Go.Proofs.YtjioljgojfcckaaGreat.P8

/-
  Layer 8: bands from some place on, and up to it, may be; Cut of bands that may be. Conditions: those written at each fact.
-/
namespace Go.Proofs.YtjioljgojfcckaaGreat.P8
open Go.RowKit Go.Shelf

theorem restD_iff : ∀ (l : List Bd) (p : Option Int), restD p l = true ↔ (∀ a, p = some a → ∀ b ∈ l, a < b.t) ∧ (∀ b ∈ l, BdOk b) ∧ l.Pairwise (fun x y => x.t < y.t)
  | [], p => by simp [restD]
  | b :: l, p => by
    have ih := restD_iff l (some b.t)
    have e : restD p (b :: l) = true ↔ bandB b = true ∧ (∀ a, p = some a → a < b.t) ∧ restD (some b.t) l = true := by
      cases p <;> simp [restD]
    rw [e, ih, bandB_iff, List.pairwise_cons]
    constructor
    · rintro ⟨h1, h2, h3, h4, h5⟩
      refine ⟨fun a ha x hx => ?_, fun x hx => ?_, h3 b.t rfl, h5⟩
      · rcases List.mem_cons.1 hx with rfl | hx
        · exact h2 a ha
        · exact Int.lt_trans (h2 a ha) (h3 b.t rfl x hx)
      · rcases List.mem_cons.1 hx with rfl | hx
        · exact h1
        · exact h4 x hx
    · rintro ⟨h1, h2, h3, h4⟩
      exact ⟨h2 b (by simp), fun a ha => h1 a ha b (by simp), fun a ha => by cases ha; exact h3, fun x hx => h2 x (by simp [hx]), h4⟩
theorem okD_iff (l : List Bd) : okD l = true ↔ 1 ≤ l.length ∧ l.length ≤ 256 ∧ (∀ b ∈ l, BdOk b) ∧ l.Pairwise (fun x y => x.t < y.t) := by
  unfold okD
  simp only [Bool.and_eq_true, decide_eq_true_eq, restD_iff]
  constructor
  · rintro ⟨h1, h2, _, h3, h4⟩; exact ⟨h1, h2, h3, h4⟩
  · rintro ⟨h1, h2, h3, h4⟩; exact ⟨h1, h2, ⟨fun a ha => (by cases ha), h3, h4⟩⟩
theorem okD_take {l : List Bd} (h : okD l = true) {k : Nat} (h1 : 1 ≤ k) : okD (l.take k) = true := by
  obtain ⟨g1, g2, g3, g4⟩ := (okD_iff l).1 h
  exact (okD_iff _).2 ⟨by rw [List.length_take]; omega, by rw [List.length_take]; omega, fun b hb => g3 b (List.mem_of_mem_take hb), g4.sublist (List.take_sublist k l)⟩
theorem okD_drop {l : List Bd} (h : okD l = true) {k : Nat} (h1 : k < l.length) : okD (l.drop k) = true := by
  obtain ⟨g1, g2, g3, g4⟩ := (okD_iff l).1 h
  exact (okD_iff _).2 ⟨by rw [List.length_drop]; omega, by rw [List.length_drop]; omega, fun b hb => g3 b (List.mem_of_mem_drop hb), g4.sublist (List.drop_sublist k l)⟩
/-- What Cut leaves of bands that may be: a row of numbers. -/
theorem CutEnd.open {w w' : World} {l : List Int} {code : Int} {e : Ending} (h : CutEnd w l code e w') : Below w.heap.size w w' ∧ ∃ A c, e = .returned (.tuple #[.slice A l.length c, .int .i64 code]) ∧ Reads .i64 w' (.slice A l.length c) l := by
  obtain ⟨h1, A, n, c, h2, h3⟩ := h
  have hr := reads_own h3
  obtain ⟨e5, _, _⟩ := hr.at
  subst e5
  exact ⟨h1, A, c, h2, hr⟩
/-- A part of a slice of bands. -/
theorem ReadsD.front {w : World} {A : Option Addr} {n c : Nat} {l : List Bd} (h : ReadsD w (.slice A n c) l) (k : Nat) (hk : k ≤ l.length) : ReadsD w (.slice A k c) (l.take k) := by
  have e : n = l.length := by obtain ⟨_, _, e, _⟩ := h; cases e; rfl
  subst e
  exact readsD_take h k hk
theorem ReadsD.back {w : World} {bb off n c : Nat} {l : List Bd} (h : ReadsD w (.slice (some ⟨bb, off, none⟩) n c) l) (k : Nat) (hk : k ≤ l.length) : ReadsD w (.slice (some ⟨bb, off + k * 3, none⟩) (n - k) (c - k)) (l.drop k) := by
  have e : n = l.length := by obtain ⟨_, _, e, _⟩ := h; cases e; rfl
  subst e
  exact h.drop k hk
/-- A row of bands of the call's own is a slice that reads. -/
theorem LaidD.open {w w' : World} {l : List Bd} {e : Ending} (h : LaidD w l e w') : Below w.heap.size w w' ∧ ∃ A c, e = .returned (.slice A l.length c) ∧ l.length ≤ c ∧ ReadsD w' (.slice A l.length c) l := by
  obtain ⟨v, h1, h2, h3⟩ := h
  have hr := readsD_own h3
  have hr2 := hr
  obtain ⟨A, c, e2, hc, _⟩ := hr
  subst e2
  exact ⟨h2, A, c, h1, hc, hr2⟩
end Go.Proofs.YtjioljgojfcckaaGreat.P8

/-
  Layer 8: what is left of bands, behind some of them; what is told of parts. Conditions: those written at each fact.
-/
namespace Go.Proofs.YtjioljgojfcckaaGreat.P8
open Go.RowKit Go.Shelf

/-- What is left of a slice of bands, behind X of them: nothing, or the others. -/
theorem ReadsD.rest {w : World} {A : Option Addr} {n c : Nat} {m : List Bd} {k X : Nat} (h : ReadsD w (.slice A n c) (m.drop k)) (hn : n = m.length - k) (hX : X ≤ n) (h1 : 1 ≤ X) :
    ∃ bb off, A = some ⟨bb, off, none⟩ ∧ ReadsD w (.slice (some ⟨bb, off + X * 3, none⟩) (n - X) (c - X)) (m.drop (k + X)) ∧ (c = X → ReadsD w (.slice (some ⟨bb, off, none⟩) (n - X) 0) (m.drop (k + X))) := by
  have hne : m.drop k ≠ [] := by
    intro e
    have := congrArg List.length e
    rw [List.length_drop] at this
    simp at this
    omega
  obtain ⟨A', c', e, hc, hk⟩ := id h
  cases e
  obtain ⟨bb, off, e⟩ := readsD_some h hne
  subst e
  refine ⟨bb, off, rfl, ?_, fun hcx => ?_⟩
  · have := h.back X (by rw [List.length_drop]; omega)
    rwa [List.drop_drop] at this
  · have e0 : m.drop (k + X) = [] := List.drop_eq_nil_of_le (by rw [List.length_drop] at hc; omega)
    rw [e0]
    exact ⟨_, _, by rw [List.length_nil, show (m.drop k).length - X = 0 by rw [List.length_drop] at hc ⊢; omega], Nat.zero_le _, fun i r hi => by simp at hi⟩
theorem places {m : List Bd} {k X n : Nat} (hn : n = m.length - k) (hX : X ≤ n) (hk : k ≤ m.length) : n - X = m.length - (k + X) ∧ k + X ≤ m.length := ⟨by omega, by omega⟩
end Go.Proofs.YtjioljgojfcckaaGreat.P8
