/-
  Layer 2, plain facts: what is got out of bytes. No program. Conditions: those written at each fact.
-/
import Derived.Test.YtahfopednhmbiaaDig
namespace Go.Proofs.Ytahfopednhmbiaa

/-- The number that digits to the base 128 are, the lowest first. -/
def numOf : List Int → Int
  | [] => 0
  | d :: l => d % 128 + 128 * numOf l
theorem numOf_snoc (d : Int) : ∀ l : List Int, numOf (l ++ [d]) = numOf l + d % 128 * 128 ^ l.length
  | [] => by simp [numOf]
  | x :: l => by
    simp only [List.cons_append, numOf, numOf_snoc d l, List.length_cons, Int.pow_succ]
    have e : 128 * (d % 128 * 128 ^ l.length) = d % 128 * (128 ^ l.length * 128) := by
      rw [Int.mul_left_comm, Int.mul_comm 128]
    rw [Int.mul_add, e]
    omega
theorem numOf_range : ∀ l : List Int, 0 ≤ numOf l ∧ numOf l < 128 ^ l.length
  | [] => by simp [numOf]
  | x :: l => by
    have := numOf_range l
    simp only [numOf, List.length_cons, Int.pow_succ]
    generalize (128 : Int) ^ l.length = p at *
    omega

/-- The error (0: none), and how many bytes were taken, behind s of them. -/
def scan : Nat → List Int → Int × Nat
  | s, [] => (6, s)
  | s, d :: l => if s = 9 ∧ 1 < d then (7, s + 1) else if 128 ≤ d then scan (s + 1) l else if d = 0 ∧ 1 ≤ s then (7, s + 1) else (0, s + 1)
/-- Bytes behind which more must come. -/
def Cont (q : List Int) : Prop := q.length ≤ 9 ∧ ∀ d ∈ q, 128 ≤ d
theorem scan_cont : ∀ (q : List Int) (s : Nat) (r : List Int), s + q.length ≤ 9 → (∀ d ∈ q, 128 ≤ d) → scan s (q ++ r) = scan (s + q.length) r
  | [], s, r, _, _ => by simp
  | d :: q, s, r, h, hc => by
    have hd := hc d (List.mem_cons_self ..)
    rw [List.length_cons] at h
    rw [List.cons_append, scan, if_neg (by omega), if_pos hd, scan_cont q (s + 1) r (by omega) (fun x hx => hc x (List.mem_cons_of_mem _ hx)), List.length_cons]
    congr 1
    omega
theorem scan_short {q : List Int} (h : Cont q) : scan 0 q = (6, q.length) := by
  have := scan_cont q 0 [] (by have := h.1; omega) h.2
  rw [List.append_nil] at this
  rw [this, Nat.zero_add, scan]
theorem scan_at {q r : List Int} {d : Int} (h : Cont q) : scan 0 (q ++ d :: r) = if q.length = 9 ∧ 1 < d then (7, q.length + 1) else if 128 ≤ d then scan (q.length + 1) r else if d = 0 ∧ 1 ≤ q.length then (7, q.length + 1) else (0, q.length + 1) := by
  rw [scan_cont q 0 _ (by have := h.1; omega) h.2, Nat.zero_add, scan]
theorem Cont.snoc {q : List Int} {d : Int} (h : Cont q) (hd : 128 ≤ d) (h9 : ¬ (q.length = 9 ∧ 1 < d)) : Cont (q ++ [d]) := by
  refine ⟨?_, fun x hx => ?_⟩
  · have := h.1; simp; omega
  · rcases List.mem_append.1 hx with hx | hx
    · exact h.2 x hx
    · rw [List.mem_singleton.1 hx]; exact hd
theorem Cont.nil : Cont [] := ⟨by simp, by simp⟩
theorem scan_err : ∀ (l : List Int) (s : Nat), (scan s l).1 = 0 ∨ (scan s l).1 = 6 ∨ (scan s l).1 = 7
  | [], s => .inr (.inl rfl)
  | d :: l, s => by
    rw [scan]
    by_cases h1 : s = 9 ∧ 1 < d
    · rw [if_pos h1]; exact .inr (.inr rfl)
    · rw [if_neg h1]
      by_cases h2 : 128 ≤ d
      · rw [if_pos h2]; exact scan_err l (s + 1)
      · rw [if_neg h2]
        by_cases h3 : d = 0 ∧ 1 ≤ s
        · rw [if_pos h3]; exact .inr (.inr rfl)
        · rw [if_neg h3]; exact .inl rfl
theorem scan_size : ∀ (l : List Int) (s : Nat), s ≤ (scan s l).2 ∧ (scan s l).2 ≤ s + l.length
  | [], s => by simp [scan]
  | d :: l, s => by
    rw [scan, List.length_cons]
    have := scan_size l (s + 1)
    split
    · simp only; omega
    · split
      · omega
      · split <;> simp only <;> omega

/-- What GetU answers: the number, the place behind it, the error. -/
def gotN (l : List Int) (a : Int) : Int := if a < 0 ∨ (l.length : Int) < a then 0 else if (scan 0 (l.drop a.toNat)).1 = 0 then numOf ((l.drop a.toNat).take (scan 0 (l.drop a.toNat)).2) else 0
def gotP (l : List Int) (a : Int) : Int := if a < 0 ∨ (l.length : Int) < a then 0 else if (scan 0 (l.drop a.toNat)).1 = 0 then a + (scan 0 (l.drop a.toNat)).2 else 0
def gotE (l : List Int) (a : Int) : Int := if a < 0 ∨ (l.length : Int) < a then 2 else (scan 0 (l.drop a.toNat)).1
end Go.Proofs.Ytahfopednhmbiaa
