/-
  Layer 4: guesses: spans that may be, and a number in each. Conditions: those written at each fact.
-/
import Derived.Test.YtmnndbafljngiaaSpE
import Derived.Test.YtmnndbafljngiaaGuard
import Derived.Test.YtmnndbafljngiaaRead
namespace Go.Proofs.Ytmnndbafljngiaa
open Go.RowKit

theorem drewN_below {B : Nat} {a w : World} (h : Below B a w) (n : Nat) : Below B a (w.drewN n) := h.trans ⟨rfl, rfl, rfl, Nat.le_refl _, fun _ _ => rfl⟩
/-- The number of a guess. -/
def liesG (lo hi a : Int) : Int := lo + a % (hi - lo + 1)
theorem lies_range (lo hi a : Int) (h : lo ≤ hi) : lo ≤ liesG lo hi a ∧ liesG lo hi a ≤ hi := by
  unfold liesG
  have h1 := Int.emod_nonneg a (show hi - lo + 1 ≠ 0 by omega)
  have h2 := Int.emod_lt_of_pos a (show 0 < hi - lo + 1 by omega)
  omega
abbrev gV (lo hi a : Int) : Value := .agg #[.int .i64 lo, .int .i64 hi, .int .u64 a]
theorem lies_facts (lo hi a : Int) (h : lo ≤ hi) (l1 : -9223372036854775808 ≤ lo) (h2 : hi ≤ 9223372036854775807) (a1 : 0 ≤ a) (a2 : a < 18446744073709551616) (m : Int) (hm : m = IntKind.u64.wrap (IntKind.u64.wrap (IntKind.u64.wrap hi - IntKind.u64.wrap lo) + 1)) :
    (m = 0 ∧ hi - lo + 1 = 18446744073709551616 ∧ a % (hi - lo + 1) = a) ∨ (0 < m ∧ m = hi - lo + 1) := by
  simp only [IntKind.wrap_u64] at hm
  by_cases g : hi - lo + 1 = 18446744073709551616
  · exact Or.inl ⟨by omega, g, by rw [g]; omega⟩
  · exact Or.inr ⟨by omega, by omega⟩
set_option maxRecDepth 100000 in
set_option maxHeartbeats 2000000 in
theorem lies_any (lo hi a : Int) (h : lo ≤ hi) (l1 : -9223372036854775808 ≤ lo) (h2 : hi ≤ 9223372036854775807) (a1 : 0 ≤ a) (a2 : a < 18446744073709551616) (w : World) :
    Calls Try.prog 42 #[gV lo hi a] w (Ret w (.int .i64 (liesG lo hi a))) := by
  have F := lies_facts lo hi a h l1 h2 a1 a2 _ rfl
  have R := lies_range lo hi a h
  have e : liesG lo hi a = lo + a % (hi - lo + 1) := rfl
  generalize liesG lo hi a = z at *
  have E1 : Hid (0 < IntKind.u64.wrap (IntKind.u64.wrap (IntKind.u64.wrap hi - IntKind.u64.wrap lo) + 1) → wrap64 (IntKind.u64.wrap (IntKind.u64.wrap lo + a.tmod (IntKind.u64.wrap (IntKind.u64.wrap (IntKind.u64.wrap hi - IntKind.u64.wrap lo) + 1)))) = z) := Lib.hid fun k => by
    rcases F with ⟨k1, k2, k3⟩ | ⟨k1, k2⟩
    · omega
    · rw [k2, Int.tmod_eq_emod_of_nonneg a1]
      generalize a % (hi - lo + 1) = q at *
      simp only [IntKind.wrap_u64]
      unfold wrap64
      omega
  have E2 : Hid (IntKind.u64.wrap (IntKind.u64.wrap (IntKind.u64.wrap hi - IntKind.u64.wrap lo) + 1) ≤ 0 → wrap64 (IntKind.u64.wrap (IntKind.u64.wrap lo + a)) = z) := Lib.hid fun k => by
    rcases F with ⟨k1, k2, k3⟩ | ⟨k1, k2⟩
    · rw [k3] at e
      simp only [IntKind.wrap_u64]
      unfold wrap64
      omega
    · omega
  clear F R e h l1 h2 a1 a2
  go_enter Try.func42, Try.ntmps42
  go_wp2_with fail
  go_quiet (fail)
  go_wp2_with fail
  · rename_i k
    have e := E1.out k
    go_ret
    exact ⟨by rw [← e]; rfl, drewN_below (below_alloc _ _) _⟩
  · rename_i k
    have e := E2.out k
    go_ret
    exact ⟨by rw [← e]; rfl, drewN_below (below_alloc _ _) _⟩

/-- The slice v reads as these guesses. -/
def ReadsG (w : World) (v : Value) (l : List (Int × Int × Int)) : Prop :=
  ∃ A c, v = .slice A l.length c ∧ ∀ i s, l[i]? = some s → ∃ b off, A = some ⟨b, off, none⟩ ∧ b < w.heap.size ∧ w.cell? ⟨b, off + i * 3, none⟩ = some (.int .i64 s.1) ∧ w.cell? ⟨b, off + i * 3 + 1, none⟩ = some (.int .i64 s.2.1) ∧ w.cell? ⟨b, off + i * 3 + 2, none⟩ = some (.int .u64 s.2.2)
theorem ReadsG.below {w w' : World} {v : Value} {l : List (Int × Int × Int)} (h : ReadsG w v l) (hb : Below w.heap.size w w') : ReadsG w' v l := by
  obtain ⟨A, c, e, hk⟩ := h
  refine ⟨A, c, e, fun i s hi => ?_⟩
  obtain ⟨b, off, e1, e2, e3, e4, e5⟩ := hk i s hi
  exact ⟨b, off, e1, Nat.lt_of_lt_of_le e2 hb.size, (hb.cell (by exact e2)).trans e3, (hb.cell (by exact e2)).trans e4, (hb.cell (by exact e2)).trans e5⟩
def OkG (l : List (Int × Int × Int)) : Prop := ∀ s ∈ l, -9223372036854775808 ≤ s.1 ∧ s.1 ≤ 9223372036854775807 ∧ -9223372036854775808 ≤ s.2.1 ∧ s.2.1 ≤ 9223372036854775807 ∧ 0 ≤ s.2.2 ∧ s.2.2 < 18446744073709551616
/-- Those that are taken, of the first so many. -/
def keptG (l : List (Int × Int × Int)) : List (Int × Int × Int) := (l.take 20).filter fun s => decide (s.1 ≤ s.2.1)
def spansG (l : List (Int × Int × Int)) : List (Int × Int) := l.map fun s => (s.1, s.2.1)
def numsG (l : List (Int × Int × Int)) : List Int := l.map fun s => liesG s.1 s.2.1 s.2.2
/-- The cells of spans. -/
def flatS : List (Int × Int) → List Value
  | [] => []
  | s :: l => .int .i64 s.1 :: .int .i64 s.2 :: flatS l
theorem flatS_app : ∀ l m : List (Int × Int), flatS (l ++ m) = flatS l ++ flatS m
  | [], _ => rfl
  | s :: l, m => by simp [flatS, flatS_app l m]
theorem flatS_length : ∀ l : List (Int × Int), (flatS l).length = l.length * 2
  | [] => rfl
  | s :: l => by simp [flatS, flatS_length l]; omega
theorem flatS_at : ∀ (l : List (Int × Int)) (i : Nat) (s : Int × Int), l[i]? = some s → (flatS l)[i * 2]? = some (.int .i64 s.1) ∧ (flatS l)[i * 2 + 1]? = some (.int .i64 s.2)
  | [], i, s, h => by simp at h
  | x :: l, 0, s, h => by simp at h; subst h; exact ⟨rfl, rfl⟩
  | x :: l, i + 1, s, h => by
    have := flatS_at l i s (by simpa using h)
    rw [show (i + 1) * 2 = i * 2 + 2 by omega]
    exact this
theorem flatS_one (l : List (Int × Int)) : ∀ u ∈ flatS l, u.oneCell' = true := by
  induction l with
  | nil => intro u hu; cases hu
  | cons s l ih =>
    intro u hu
    rcases List.mem_cons.1 hu with rfl | hu
    · rfl
    · rcases List.mem_cons.1 hu with rfl | hu
      · rfl
      · exact ih u hu
/-- A row of the call's own reads. -/
theorem readsS_own {w : World} {B : Nat} {t : TypeId} {v : Value} {l : List (Int × Int)} (h : w.ownsRow B t 2 v l.length (flatS l)) : ReadsS w v l := by
  obtain ⟨hl, h⟩ := h
  rcases h with ⟨rfl, h0⟩ | ⟨g, cap, cur, rfl, _, hg, hn, _, hs, ht⟩
  · have : l = [] := List.eq_nil_of_length_eq_zero h0
    subst this
    exact ⟨none, 0, rfl, fun i s h => by simp at h⟩
  · refine ⟨_, _, rfl, fun i s hi => ⟨g, 0, rfl, (Array.getElem?_eq_some_iff.1 hg).1, ?_⟩⟩
    have hi' : i < l.length := (List.getElem?_eq_some_iff.1 hi).1
    obtain ⟨e1, e2⟩ := flatS_at l i s hi
    rw [← ht, List.getElem?_take, if_pos (by omega)] at e1
    rw [← ht, List.getElem?_take, if_pos (by omega)] at e2
    exact ⟨by simp [World.cell?, hg]; simpa using e1, by simp [World.cell?, hg]; simpa using e2⟩
/-- A row of the call's own stands while one of other cells grows. -/
theorem owns_other {w w' : World} {B B' : Nat} {e e' : TypeId} {s s' n n' : Nat} {v v' : Value} {xs xs' : List Value} (h : w.ownsRow B e s v n xs) (k : w.ownsRow B' e' s' v' n' xs') (he : e ≠ e') (hg : w.grownBy w' v'.ownBlock) : w'.ownsRow B e s v n xs := by
  obtain ⟨h1, h2⟩ := h
  refine ⟨h1, ?_⟩
  rcases h2 with h2 | ⟨g, cap, cur, y1, y2, y3, y4⟩
  · exact .inl h2
  · refine .inr ⟨g, cap, cur, y1, y2, (hg.block g (Array.getElem?_eq_some_iff.1 y3).1 (fun hx => ?_)).trans y3, y4⟩
    obtain ⟨_, k2⟩ := k
    rcases k2 with ⟨rfl, _⟩ | ⟨g', cap', cur', z1, _, z3, _⟩
    · cases hx
    · rw [z1] at hx
      injection hx with hx
      change g = g' at hx
      subst hx
      rw [y3] at z3
      injection z3 with z3
      injection z3 with _ z3 _
      exact he z3
/-- .. and what was there stands. -/
theorem Keeps.grows {w0 w w' : World} {L : List (Nat × Nat × Value)} {B : Nat} {e : TypeId} {s n : Nat} {v : Value} {xs : List Value} (h : Keeps w0 L w) (k : w.ownsRow B e s v n xs) (hB : w0.heap.size ≤ B) (hne : ∀ q ∈ L, v.ownBlock ≠ some q.1) (hg : w.grownBy w' v.ownBlock) : Keeps w0 L w' := by
  have hb : Below w0.heap.size w0 w' := by
    refine ⟨hg.os.trans h.1.os, hg.tape.trans h.1.tape, hg.output.trans h.1.output, Nat.le_trans h.1.size hg.size, fun j hj => ?_⟩
    refine (hg.block j (Nat.lt_of_lt_of_le hj h.1.size) (fun hx => ?_)).trans (h.1.block j hj)
    obtain ⟨_, k2⟩ := k
    rcases k2 with ⟨rfl, _⟩ | ⟨g', cap', cur', z1, z2, _⟩
    · cases hx
    · rw [z1] at hx
      injection hx with hx
      change j = g' at hx
      omega
  refine ⟨hb, ?_⟩
  have hc := h.2
  clear hb h
  induction L with
  | nil => trivial
  | cons q l ih =>
    obtain ⟨b, o, u⟩ := q
    obtain ⟨⟨h1, h2, h3⟩, h4⟩ := hc
    have e := hg.block b h1 (fun hx => hne _ (List.mem_cons_self ..) hx.symm)
    exact ⟨⟨Nat.lt_of_lt_of_le h1 hg.size, (World.cell?_of_block (w := w) e).trans h2, (World.frozen?_of_block (w := w) e).trans h3⟩, ih (fun q hq => hne q (List.mem_cons_of_mem _ hq)) h4⟩
theorem owns_lt {w : World} {B : Nat} {e : TypeId} {s n : Nat} {v : Value} {xs : List Value} (k : w.ownsRow B e s v n xs) (b : Nat) (hb : w.heap.size ≤ b) : v.ownBlock ≠ some b := by
  intro hx
  obtain ⟨_, k2⟩ := k
  rcases k2 with ⟨rfl, _⟩ | ⟨g', cap', cur', z1, _, z3, _⟩
  · cases hx
  · rw [z1] at hx
    injection hx with hx
    change g' = b at hx
    have := (Array.getElem?_eq_some_iff.1 z3).1
    omega
end Go.Proofs.Ytmnndbafljngiaa
