/-
  The document's own answers, fourth part: a row without noughts at its end; a size less one that is not greater. Conditions: those written at each fact.
-/
import Derived.Test.YtmkminaipeodnaaRefC
namespace Go.Proofs.Ytmkminaipeodnaa
open Go.RowKit

/-- What a row of digits comes to. -/
def valB : List Int → Nat
  | [] => 0
  | d :: l => d.toNat + 2 * valB l
theorem sizeL_nil {x : Nat} (h : sizeL x = []) : x = 0 := by
  by_cases g : x = 0
  · exact g
  · rw [sizeL_pos g] at h; cases h
theorem trim_list : ∀ (l : List Int) (n : Nat), (∀ d ∈ l, d = 0 ∨ d = 1) → n ≤ l.length → (∀ j, n ≤ j → j < l.length → l.getD j 0 = 0) → (n = 0 ∨ l.getD (n - 1) 0 = 1) → l.take n = sizeL (valB l)
  | [], n, _, h, _, _ => by
    have : n = 0 := by simpa using h
    subst this
    rw [valB, sizeL_zero]; rfl
  | d :: t, 0, hd, _, hz, _ => by
    have e := trim_list t 0 (fun x hx => hd x (List.mem_cons_of_mem _ hx)) (Nat.zero_le _) (fun j _ hj => by simpa using hz (j + 1) (Nat.zero_le _) (by simpa using hj)) (Or.inl rfl)
    have e0 : d = 0 := by simpa using hz 0 (Nat.le_refl _) (by simp)
    have e1 := sizeL_nil e.symm
    rw [valB, e0, e1, show (0 : Int).toNat + 2 * 0 = 0 from rfl, sizeL_zero]; rfl
  | d :: t, m + 1, hd, hl, hz, ht => by
    have hl' : m ≤ t.length := by simpa using hl
    have ht' : m = 0 ∨ t.getD (m - 1) 0 = 1 := by
      cases m with
      | zero => exact Or.inl rfl
      | succ m => exact Or.inr (by simpa using ht)
    have e := trim_list t m (fun x hx => hd x (List.mem_cons_of_mem _ hx)) hl' (fun j h1 h2 => by simpa using hz (j + 1) (by omega) (by simpa using h2)) ht'
    have h01 := hd d (List.mem_cons_self ..)
    have hne : d.toNat + 2 * valB t ≠ 0 := by
      cases m with
      | zero =>
        have : d = 1 := by simpa using ht
        subst this
        simp
      | succ m =>
        have : valB t ≠ 0 := by
          intro g
          rw [g, sizeL_zero] at e
          have := congrArg List.length e
          rw [List.length_take, List.length_nil] at this
          omega
        omega
    rw [valB, sizeL_pos hne, List.take_succ_cons, e]
    have e1 : ((d.toNat + 2 * valB t : Nat) : Int) % 2 = d := by omega
    have e2 : (d.toNat + 2 * valB t) / 2 = valB t := by omega
    rw [e1, e2]

/-- A row that is these digits. -/
def RowL (w : World) (v : Value) (l : List Int) : Prop :=
  ∃ A c, v = .slice A l.length c ∧ (l.length ≤ c ∧ (A = none → c = 0)) ∧ ∀ k, k < l.length → ∃ b off, A = some ⟨b, off, none⟩ ∧ b < w.heap.size ∧ w.cell? ⟨b, off + k, none⟩ = some (.int .i64 (l.getD k 0))
theorem rowL_of_own {w : World} {B : Nat} {v : Value} {l : List Int} (h : w.ownsRow B 3 1 v l.length (l.map (Value.int .i64))) : RowL w v l := by
  have hc := fun (g : Nat) (hg : v.ownBlock = some g) => h.cells hg
  rcases h.2 with ⟨rfl, h0⟩ | ⟨g, cap, cur, rfl, _, hg, h1, _⟩
  · exact ⟨none, 0, by rw [h0], ⟨by omega, fun _ => rfl⟩, fun k hk => by omega⟩
  · refine ⟨some ⟨g, 0, none⟩, cap, rfl, ⟨h1, fun e => by cases e⟩, fun k hk => ⟨g, 0, rfl, (Array.getElem?_eq_some_iff.1 hg).1, ?_⟩⟩
    have e : (⟨g, 0, none⟩ : Addr).add k = ⟨g, 0 + k, none⟩ := by unfold Addr.add; split <;> simp_all
    rw [← e]
    exact hc g rfl k _ (by rw [List.getElem?_map, List.getD_eq_getElem?_getD, List.getElem?_eq_getElem hk]; rfl)
theorem trim_num {w : World} {l : List Int} {A : Option Addr} {n c : Nat} (hl : n ≤ l.length) (hc : l.length ≤ c ∧ (A = none → c = 0)) (hA : ∀ k, k < l.length → ∃ b off, A = some ⟨b, off, none⟩ ∧ b < w.heap.size ∧ w.cell? ⟨b, off + k, none⟩ = some (.int .i64 (l.getD k 0)))
    (e : l.take n = sizeL (valB l)) : Num w (.slice A n c) (valB l) := by
  have hn : (sizeL (valB l)).length = n := by rw [← e, List.length_take]; omega
  refine ⟨A, c, by rw [hn], ⟨by have := hc.1; omega, hc.2⟩, fun k hk => ?_⟩
  obtain ⟨b, off, e1, e2, e3⟩ := hA k (by omega)
  refine ⟨b, off, e1, e2, ?_⟩
  have eb := bit_at k (valB l) hk
  rw [← e, List.getElem?_take_of_lt (by omega)] at eb
  rw [e3, List.getD_eq_getElem?_getD, eb]
  rfl

set_option maxRecDepth 100000 in
set_option maxHeartbeats 1600000 in
theorem trim_any (l : List Int) (hd : ∀ d ∈ l, d = 0 ∨ d = 1) (v : Value) (w : World) (h : RowL w v l) (hl : l.length ≤ 9000) :
    Calls Try.prog 64 #[v] w (Gave w (valB l)) := by
  obtain ⟨A, ca, rfl, hca, HA⟩ := h
  have HN := Lib.hid (fun n (h1 : n ≤ l.length) (h2 : l.take n = sizeL (valB l)) => trim_num (w := w) (A := A) (c := ca) h1 hca HA h2)
  have HT := Lib.hid (fun n => trim_list l n hd)
  have HD : Hid (∀ k, k < l.length → l.getD k 0 = 0 ∨ l.getD k 0 = 1) := Lib.hid fun k hk => hd _ (by rw [List.getD_eq_getElem?_getD, List.getElem?_eq_getElem hk]; exact List.getElem_mem hk)
  replace HA := Lib.hid HA
  clear hd
  generalize l.length = la at *
  go_enter Try.func64, Try.ntmps64
  go_wp2_with fail
  go_loopw [3] (fun i wr => ∃ n : Nat, i = .int .i64 n ∧ n ≤ la ∧ Hid (∀ j, n ≤ j → j < la → l.getD j 0 = 0) ∧ wr = w) (fun i _ => (intOf i).toNat)
  case atStart => exact ⟨la, rfl, Nat.le_refl _, Lib.hid (fun j h1 h2 => by omega), rfl⟩
  case round =>
    obtain ⟨n, rfl, hn, hz, rfl⟩ := hrel
    cases n with
    | zero =>
      have R := Lib.hid (HN.out 0 hn (HT.out 0 hn hz.out (Or.inl rfl)))
      clear HN HT HD HA hz
      go_wp2_with fail
      go_ret
      exact ⟨_, rfl, Below.refl _ _, R.out⟩
    | succ m =>
      have hm : m < la := by omega
      have h01 := HD.out m hm
      have F := HN.out (m + 1) hn
      have G := HT.out (m + 1) hn hz.out
      have Z : l.getD m 0 = 0 → Hid (∀ j, m ≤ j → j < la → l.getD j 0 = 0) := fun e => Lib.hid fun j h1 h2 => by
        by_cases g : j = m
        · rw [g]; exact e
        · exact hz.out j (by omega) h2
      have FG := Lib.hid (fun e : l.getD m 0 = 1 => F (G (Or.inr (by simpa using e))))
      obtain ⟨b, off, rfl, hbw, hcell⟩ := HA.out m hm
      replace Z := Lib.hid Z
      clear HN HT HD F G hz
      generalize l.getD m 0 = d at *
      rcases h01 with rfl | rfl
      · go_wp2_with fail
        go_roundw
        case rel => exact ⟨m, by simp, by omega, Z.out (by trivial), by trivial⟩
        case measure => simp [intOf]
      · go_wp2_with fail
        go_ret
        exact ⟨_, rfl, Below.refl _ _, FG.out (by trivial)⟩

theorem valB_more (l : List Int) (d : Int) : valB (l ++ [d]) = valB l + 2 ^ l.length * d.toNat := by
  induction l with
  | nil => simp [valB]
  | cons e l ih =>
    rw [List.cons_append, valB, valB, ih, List.length_cons, Nat.pow_succ, Nat.mul_add, Nat.mul_right_comm, Nat.mul_comm _ 2]
    omega
theorem valB_lt : ∀ l : List Int, (∀ d ∈ l, d = 0 ∨ d = 1) → valB l < 2 ^ l.length
  | [], _ => by simp [valB]
  | d :: l, h => by
    have := valB_lt l (fun x hx => h x (List.mem_cons_of_mem _ hx))
    have := h d (List.mem_cons_self ..)
    rw [valB, List.length_cons, Nat.pow_succ]
    omega
/-- One digit of a difference. -/
theorem minus_step {x y k V d : Nat} {z z' : Int} {T : Int} (hT : (V : Int) + 2 ^ k * (((x / 2 ^ k : Nat) : Int) - (y / 2 ^ k : Nat) - z) = T) (hn : bitI x k - z - bitI y k = (d : Int) - 2 * z') :
    ((V + 2 ^ k * d : Nat) : Int) + 2 ^ (k + 1) * (((x / 2 ^ (k + 1) : Nat) : Int) - (y / 2 ^ (k + 1) : Nat) - z') = T := by
  rw [pow_half, pow_half]
  unfold bitI at hn
  generalize x / 2 ^ k = X at *
  generalize y / 2 ^ k = Y at *
  have e : ((X : Int) - Y - z) = d + 2 * (((X / 2 : Nat) : Int) - (Y / 2 : Nat) - z') := by omega
  rw [← hT, e, Int.pow_succ, Int.mul_add, Int.natCast_add, Int.natCast_mul, Int.natCast_pow, Int.mul_assoc, Int.add_assoc]
  rfl
theorem minus_end {x y k V : Nat} {z : Int} (hx : x / 2 ^ k = 0) (hy : y / 2 ^ k = 0) (hle : y ≤ x) (hz0 : 0 ≤ z) (hz1 : z ≤ 1) (hV : V < 2 ^ k)
    (hT : (V : Int) + 2 ^ k * (((x / 2 ^ k : Nat) : Int) - (y / 2 ^ k : Nat) - z) = (x : Int) - y) : V = x - y := by
  rw [hx, hy] at hT
  have hp : ((2 ^ k : Nat) : Int) = 2 ^ k := Int.natCast_pow 2 k
  rw [← hp] at hT
  generalize 2 ^ k = P at *
  by_cases g : z = 0
  · subst g
    simp at hT
    omega
  · obtain rfl : z = 1 := by omega
    simp at hT
    omega
end Go.Proofs.Ytmkminaipeodnaa
