/-
  Layer 8: the laws' helpers: rows of bands. Conditions: those written at each fact.
-/
import Derived.Test.YtoephkglpbophaaGreatBA
import Derived.Laws.AppendOwn
import Derived.Lib.SliceRun
namespace Go.Proofs.YtoephkglpbophaaGreat.P8
open Go.RowKit Go.Shelf

theorem infoBand : (Tryz.prog.info? 46).map (fun i => (i.zero, i.size, i.bytes)) = some (some (.agg #[.int .i64 0, .int .i64 0, .int .i64 0]), 3, 24) := by kernel_rfl

/-- The cells of runs. -/
def flatD : List Bd → List Value
  | [] => []
  | r :: l => .int .i64 r.t :: .int .i64 r.lo :: .int .i64 r.hi :: flatD l

theorem flatD_app : ∀ l m : List Bd, flatD (l ++ m) = flatD l ++ flatD m
  | [], _ => rfl
  | s :: l, m => by simp [flatD, flatD_app l m]

theorem flatD_length : ∀ l : List Bd, (flatD l).length = l.length * 3
  | [] => rfl
  | s :: l => by simp [flatD, flatD_length l]; omega

theorem flatD_at : ∀ (l : List Bd) (i : Nat) (r : Bd), l[i]? = some r → (flatD l)[i * 3]? = some (.int .i64 r.t) ∧ (flatD l)[i * 3 + 1]? = some (.int .i64 r.lo) ∧ (flatD l)[i * 3 + 2]? = some (.int .i64 r.hi)
  | [], i, s, h => by simp at h
  | x :: l, 0, s, h => by simp at h; subst h; exact ⟨rfl, rfl, rfl⟩
  | x :: l, i + 1, s, h => by
    have := flatD_at l i s (by simpa using h)
    rw [show (i + 1) * 3 = i * 3 + 3 by omega]
    exact this

theorem flatD_one (l : List Bd) : ∀ u ∈ flatD l, u.oneCell' = true := by
  induction l with
  | nil => intro u hu; simp [flatD] at hu
  | cons a l ih =>
    intro u hu
    simp only [flatD, List.mem_cons] at hu
    rcases hu with rfl | rfl | rfl | hu
    · rfl
    · rfl
    · rfl
    · exact ih u hu

/-- Runs in a row of the call's own read. -/
theorem readsD_own {w : World} {B : Nat} {t : TypeId} {v : Value} {l : List Bd} (h : w.ownsRow B t 3 v l.length (flatD l)) : ReadsD w v l := by
  obtain ⟨hl, h⟩ := h
  rcases h with ⟨rfl, h0⟩ | ⟨g, cap, cur, rfl, hB, hg, hn, _, hs, ht⟩
  · rw [List.eq_nil_of_length_eq_zero h0]
    exact ⟨none, 0, rfl, Nat.le_refl _, fun i r hi => by simp at hi⟩
  · refine ⟨_, _, rfl, hn, fun i r hi => ⟨g, 0, rfl, (Array.getElem?_eq_some_iff.1 hg).1, ?_⟩⟩
    have hi' : i < l.length := (List.getElem?_eq_some_iff.1 hi).1
    obtain ⟨e1, e2, e3⟩ := flatD_at l i r hi
    rw [← ht, List.getElem?_take, if_pos (by omega)] at e1
    rw [← ht, List.getElem?_take, if_pos (by omega)] at e2
    rw [← ht, List.getElem?_take, if_pos (by omega)] at e3
    refine ⟨?_, ?_, ?_⟩
    · simp [World.cell?, hg]; simpa using e1
    · simp [World.cell?, hg]; simpa using e2
    · simp [World.cell?, hg]; simpa using e3

/-- The cells of some runs of a row, from one on. -/
theorem reads_flat {W : World} {b off : Nat} : ∀ {m : List Bd}, (∀ i r, m[i]? = some r → W.cell? ⟨b, off + i * 3, none⟩ = some (.int .i64 r.t) ∧ W.cell? ⟨b, off + i * 3 + 1, none⟩ = some (.int .i64 r.lo) ∧ W.cell? ⟨b, off + i * 3 + 2, none⟩ = some (.int .i64 r.hi)) →
    ∀ (j : Nat) (u : Value), (flatD m)[j]? = some u → W.cell? ((⟨b, off, none⟩ : Addr).add j) = some u := by
  intro m h j u hj
  have hadd : (⟨b, off, none⟩ : Addr).add j = ⟨b, off + j, none⟩ := by unfold Addr.add; split <;> simp_all
  rw [hadd]
  have hlt : j < m.length * 3 := by rw [← flatD_length]; exact (List.getElem?_eq_some_iff.1 hj).1
  obtain ⟨r, hr⟩ : ∃ r, m[j / 3]? = some r := ⟨_, List.getElem?_eq_getElem (by omega)⟩
  obtain ⟨a1, a2, a3⟩ := flatD_at m (j / 3) r hr
  obtain ⟨b1, b2, b3⟩ := h (j / 3) r hr
  have h3 : j % 3 = 0 ∨ j % 3 = 1 ∨ j % 3 = 2 := by omega
  rcases h3 with h3 | h3 | h3
  · rw [show j / 3 * 3 = j by omega] at a1 b1
    rw [b1, ← hj, a1]
  · rw [show j / 3 * 3 + 1 = j by omega] at a2
    rw [show off + j / 3 * 3 + 1 = off + j by omega] at b2
    rw [b2, ← hj, a2]
  · rw [show j / 3 * 3 + 2 = j by omega] at a3
    rw [show off + j / 3 * 3 + 2 = off + j by omega] at b3
    rw [b3, ← hj, a3]

theorem readsD_take {w : World} {A : Option Addr} {c : Nat} {l : List Bd} (h : ReadsD w (.slice A l.length c) l) (m : Nat) (hm : m ≤ l.length) : ReadsD w (.slice A m c) (l.take m) := by
  obtain ⟨A', c', e, hc, hk⟩ := h
  cases e
  refine ⟨A, c, by rw [List.length_take, Nat.min_eq_left hm], by rw [List.length_take, Nat.min_eq_left hm]; omega, fun i r hi => hk i r ?_⟩
  rw [List.getElem?_take] at hi
  split at hi
  · exact hi
  · cases hi

theorem reads_flatD {W : World} {ad : Addr} {n c : Nat} {l : List Bd} (h : ReadsD W (.slice (some ad) n c) l) : ∀ (j : Nat) (u : Value), (flatD l)[j]? = some u → W.cell? (ad.add j) = some u := by
  intro j u hj
  obtain ⟨A', c', e, hc, hk⟩ := h
  cases e
  cases l with
  | nil => simp [flatD] at hj
  | cons r l =>
    obtain ⟨b, off, e1, _⟩ := hk 0 r rfl
    cases e1
    exact reads_flat (fun i r2 hi => by obtain ⟨b', off', e2, _, e3⟩ := hk i r2 hi; cases e2; exact e3) j u hj

/-- A row of runs that fills its block. -/
def RowAt (W : World) (g : Nat) (m : List Bd) : Prop := W.heap[g]? = some (.cells (flatD m).toArray 46 (0, 0))

theorem RowAt.cells {W : World} {g : Nat} {m : List Bd} (h : RowAt W g m) {k : Nat} {r : Bd} (hk : m[k]? = some r) :
    g < W.heap.size ∧ W.cell? ⟨g, k * 3, none⟩ = some (.int .i64 r.t) ∧ W.cell? ⟨g, k * 3 + 1, none⟩ = some (.int .i64 r.lo) ∧ W.cell? ⟨g, k * 3 + 2, none⟩ = some (.int .i64 r.hi) ∧ ∀ j, W.frozen? ⟨g, j, none⟩ = false := by
  obtain ⟨a1, a2, a3⟩ := flatD_at m k r hk
  have e : W.heap[g]? = _ := h
  refine ⟨(Array.getElem?_eq_some_iff.1 e).1, ?_, ?_, ?_, fun j => ?_⟩
  · simp [World.cell?, e]; exact a1
  · simp [World.cell?, e]; exact a2
  · simp [World.cell?, e]; exact a3
  · simp [World.frozen?, e]

theorem new_cells3 {W : World} {a b c : Value} {t : TypeId} {n : Nat} (hn : n = W.heap.size) : ∀ (j : Nat) (u : Value), [a, b, c][j]? = some u → (W.alloc (.cells #[a, b, c] t)).cell? ((⟨n, 0, none⟩ : Addr).add j) = some u := by
  subst hn
  intro j u h
  match j, h with
  | 0, h => cases h; simp [Addr.add, go_sem]
  | 1, h => cases h; simp [Addr.add, go_sem]
  | 2, h => cases h; simp [Addr.add, go_sem]
  | j + 3, h => simp at h

/-- A row of bands of the call's own. -/
def LaidD (w : World) (l : List Bd) (e : Ending) (w' : World) : Prop := ∃ v, e = .returned v ∧ Below w.heap.size w w' ∧ w'.ownsRow w.heap.size 46 3 v l.length (flatD l)
end Go.Proofs.YtoephkglpbophaaGreat.P8

/-
  Layer 8: the laws' helpers: equal rows, rows of their own. Conditions: those written at each fact.
-/
namespace Go.Proofs.YtoephkglpbophaaGreat.P8
open Go.RowKit Go.Shelf

set_option maxRecDepth 100000 in
set_option maxHeartbeats 2000000 in
theorem equalN (l : List Int) (hl : l.length ≤ 10000000) (v v2 : Value) (w : World) (h : Reads .i64 w v l) (h2 : Reads .i64 w v2 l) : Calls Tryz.prog 14 #[v, v2] w (Ret w (.bool true)) := by
  obtain ⟨A, c, rfl, _, hk⟩ := h
  obtain ⟨A2, c2, rfl, _, hk2⟩ := h2
  have HK := Lib.hid hk
  have HK2 := Lib.hid hk2
  clear hk hk2
  have t' : ((l.length : Int) != (l.length : Int)) = false := by simp
  go_enter Tryz.func14, Tryz.ntmps14
  go_wp2_with fail
  go_loopw [13] (fun i wr => ∃ k : Nat, i = .int .i64 k ∧ k ≤ l.length ∧ Below w.heap.size w wr) (fun i _ => l.length - (intOf i).toNat)
  case atStart => exact ⟨0, rfl, by omega, Below.refl _ _⟩
  case round =>
    obtain ⟨k, rfl, hkl, hB⟩ := hrel
    by_cases gk : k < l.length
    · obtain ⟨x, hx⟩ : ∃ s, l[k]? = some s := ⟨_, List.getElem?_eq_getElem gk⟩
      obtain ⟨b, off, rfl, hbw, d1⟩ := HK.out k _ hx
      obtain ⟨b2, off2, rfl, hbw2, d3⟩ := HK2.out k _ hx
      have c1 := (hB.cell (p := ⟨b, off + k, none⟩) hbw).trans d1
      have c3 := (hB.cell (p := ⟨b2, off2 + k, none⟩) hbw2).trans d3
      have i1 : (k : Int) < (l.length : Int) := by omega
      have i0 : (0 : Int) ≤ (k : Int) := by omega
      have t1 : (x != x) = false := by simp
      clear d1 d3 hx
      go_wp2_with fail
      go_quiet (fail)
      go_wp2_with fail
      go_roundw
      case rel => exact ⟨k + 1, by simp, by omega, below_drewN hB _⟩
      case measure => simp [intOf]; omega
    · have i1 : ¬ (k : Int) < (l.length : Int) := by omega
      go_wp2_with fail
      go_ret
      exact ⟨rfl, hB⟩
set_option maxRecDepth 100000 in
set_option maxHeartbeats 1000000 in
theorem cloneD (l : List Bd) (hl : l.length ≤ 1000000) (v : Value) (w : World) (h : ReadsD w v l) : Calls Tryz.prog 16 #[v] w (LaidD w l) := by
  obtain ⟨i0, hi, hz0, hz1, hz2⟩ := info_parts8 infoBand
  have hh := h
  obtain ⟨A, c, rfl, hc, hk⟩ := h
  have HK := Lib.hid hk
  have HH := Lib.hid hh
  clear hk hh
  have q : ∀ (w : World) (a : Option Addr) (n c n' c' : Nat), (binOp .eql 22 (.slice a n c) (.slice none n' c')).run Tryz.prog w = .ok (.bool a.isNone) w := fun w a n c n' c' => Lib.run_eql_slice_nil w _ _ a n c n' c' Tryz.underlying22
  cases A with
  | none =>
    have e : l = [] := by
      cases l with
      | nil => rfl
      | cons x l' =>
        obtain ⟨b, off, e1, _⟩ := HK.out 0 x rfl
        cases e1
    subst e
    go_enter Tryz.func16, Tryz.ntmps16
    go_wp2_with fail
    go_ret
    exact ⟨_, rfl, Below.refl _ _, World.ownsRow_nil _ _ _ _⟩
  | some ad =>
    have FL := Lib.hid (flatD_length l)
    go_enter Tryz.func16, Tryz.ntmps16
    go_wp2_with (at_builtin; refine wpList_append_own _ rfl _ _ 22 rfl w.heap.size 46 i0 (.agg #[.int .i64 0, .int .i64 0, .int .i64 0]) 3 24 Tryz.underlying22 hi hz0 hz1 hz2 rfl (by decide) _ _ _ rfl (World.ownsRow_made w #[] 0 (Nat.le_refl _) (Nat.zero_le _) rfl) ad l.length c (flatD l) rfl ?qc1 ?qc2 ?qc3 ?qc4 ?qc5 ?qc6 ?_)
    case qc1 => exact FL.out
    case qc2 => exact reads_flatD (HH.out.below (below_alloc w _))
    case qc3 => exact flatD_one l
    case qc4 => unfold maxLen; omega
    case qc5 => omega
    case qc6 => simp
    intro v' w1 hown hgrow _
    clear HH HK q
    go_wp2_with fail
    go_ret
    exact ⟨v', rfl, ((Below.refl _ w).alloc (Nat.le_refl _) _).grown hgrow (by simp) (by intro k hk; simp [Value.ownBlock] at hk; omega), by simpa using hown⟩
end Go.Proofs.YtoephkglpbophaaGreat.P8

/-
  Layer 8: the laws' helpers: does a constant go through bands? Conditions: those written at each fact.
-/
namespace Go.Proofs.YtoephkglpbophaaGreat.P8
open Go.RowKit Go.Shelf

end Go.Proofs.YtoephkglpbophaaGreat.P8

/-
  Layer 8: the laws' helpers: bands of ends. Conditions: those written at each fact.
-/
namespace Go.Proofs.YtoephkglpbophaaGreat.P8
open Go.RowKit Go.Shelf

theorem if_wanted {o : Oper} {ops : Array Oper} {tm : Array Value} {A B : Prop} (hg : o.guard = none) (h : A) : if Region.wanted o (yielded ops tm) = true then A else B := by
  rw [if_pos (by simp [Region.wanted, hg])]; exact h

theorem wp_append_own_at {P : Program} (w : World) {o : Oper} {a : Act} {K : Act → World → Prop} {Q : Exit → Act → World → Prop} (s x : Operand) (t : TypeId)
    (ho : o.op = .call { callee := .builtin .append, args := #[s, x], argTypes := #[t, t] })
    (base : Nat) (e : TypeId) (i : TypeInfo) (z : Value) (size bytes : Nat) (ht : P.underlying t = some (.slice e)) (hi : P.info? e = some i) (hz : i.zero = some z)
    (hsize : i.size = size) (hby : i.bytes = bytes) (hzs : z.cells.size = size) (hsz : 0 < size)
    (v : Value) (n : Nat) (xs : List Value) (hs : a.eval s = v) (hown : w.ownsRow base e size v n xs)
    (ad : Addr) (m c : Nat) (news : List Value) (hx : a.eval x = .slice (some ad) m c) (hl : news.length = m * size) (hnews : ∀ j u, news[j]? = some u → w.cell? (ad.add j) = some u) (h1 : ∀ u ∈ news, u.oneCell' = true)
    (h63 : n + m ≤ maxLen) (hbytes : (n + m) * bytes ≤ 140737488355328) (hbase : base ≤ w.heap.size)
    (h : ∀ v' w', w'.ownsRow base e size v' (n + m) (xs ++ news) → w.grownBy w' v.ownBlock → (v'.ownBlock = v.ownBlock ∨ v'.ownBlock = some w.heap.size) → K (a.put o.dst v') w') : o.wp P a w K Q := by
  obtain ⟨v', w', hr, h2, h3, _, h5⟩ := run_append_own_at (P := P) w base t o.type e i z size bytes ht hi hz hsize hby hzs hsz v n xs hown ad m c news hl hnews h1 h63 hbytes hbase
  unfold Oper.wp execOp
  simp only [ho, resolve, invoke, builtin, Sem.run_bind, Sem.run_pure, Result.andThen_ok, List.map_toArray, List.map_cons, List.map_nil, hs, hx, hr]
  exact h v' w' h2 h3 h5

/-- Bands at k, k + 1 and so on, of ends. -/
def atF : Nat → List Int → List Bd
  | k, a :: d :: l => ⟨k, a, d⟩ :: atF (k + 1) l
  | _, _ => []
theorem atF_next {l : List Int} {n k : Nat} {a d : Int} (h1 : l[n]? = some a) (h2 : l[n + 1]? = some d) : atF k (l.drop n) = ⟨k, a, d⟩ :: atF (k + 1) (l.drop (n + 2)) := by
  obtain ⟨g1, e1⟩ := List.getElem?_eq_some_iff.1 h1
  obtain ⟨g2, e2⟩ := List.getElem?_eq_some_iff.1 h2
  rw [List.drop_eq_getElem_cons g1, List.drop_eq_getElem_cons g2, e1, e2, atF]
theorem atF_end {l : List Int} {n k : Nat} (h : l.length ≤ n + 1) : atF k (l.drop n) = [] := by
  have hl : (l.drop n).length ≤ 1 := by rw [List.length_drop]; omega
  match l.drop n, hl with
  | [], _ => rfl
  | [_], _ => rfl
theorem half_two (k : Nat) : (2 * (k : Int)) / 2 = (k : Int) ∧ Int.tdiv (2 * (k : Int)) 2 = (k : Int) := ⟨by omega, Int.mul_tdiv_cancel_left _ (by decide)⟩
theorem turn2_less {n L : Nat} (h : n + 1 < L) : L + 1 - (intOf (Value.int .i64 ((n : Int) + 2))).toNat < L + 1 - (intOf (Value.int .i64 (n : Int))).toNat := by simp [intOf]; omega
end Go.Proofs.YtoephkglpbophaaGreat.P8

/-
  Layer 8: the parts of bands, in numbers: the first part is the longest one, and no other way has fewer parts. Conditions: those written at each fact.
-/
namespace Go.Proofs.YtoephkglpbophaaGreat.P8
open Go.RowKit

/-- A constant goes through bands. -/
def Thru (l : List Bd) (v : Int) : Prop := ∀ b ∈ l, b.lo ≤ v ∧ v ≤ b.hi
theorem Thru.nil (v : Int) : Thru [] v := fun b hb => by simp at hb
theorem thru_cons {b : Bd} {l : List Bd} {v : Int} : Thru (b :: l) v ↔ (b.lo ≤ v ∧ v ≤ b.hi) ∧ Thru l v := by
  unfold Thru
  simp
theorem Thru.sub {l m : List Bd} {v : Int} (h : Thru l v) (hs : ∀ b ∈ m, b ∈ l) : Thru m v := fun b hb => h b (hs b hb)
theorem goM_inv : ∀ (l : List Bd) (lo hi : Int), lo ≤ hi → lo ≤ (goM lo hi l).2.1 ∧ (goM lo hi l).2.1 ≤ (goM lo hi l).2.2 ∧ (goM lo hi l).2.2 ≤ hi
  | [], lo, hi, h => ⟨Int.le_refl _, h, Int.le_refl _⟩
  | b :: l, lo, hi, h => by
    by_cases g : min hi b.hi < max lo b.lo
    · rw [goM_stop g]; exact ⟨Int.le_refl _, h, Int.le_refl _⟩
    · rw [goM_next g]
      obtain ⟨h1, h2, h3⟩ := goM_inv l (max lo b.lo) (min hi b.hi) (by omega)
      simp only
      omega
theorem goM_thru : ∀ (l : List Bd) (lo hi v : Int), ((goM lo hi l).2.1 ≤ v ∧ v ≤ (goM lo hi l).2.2) ↔ ((lo ≤ v ∧ v ≤ hi) ∧ Thru (l.take (goM lo hi l).1) v)
  | [], lo, hi, v => by simp [goM, Thru.nil]
  | b :: l, lo, hi, v => by
    by_cases g : min hi b.hi < max lo b.lo
    · rw [goM_stop g]; simp [Thru.nil]
    · rw [goM_next g]
      have h1 := goM_thru l (max lo b.lo) (min hi b.hi) v
      simp only [List.take_succ_cons]
      rw [h1, thru_cons]
      constructor
      · rintro ⟨h2, h3⟩
        exact ⟨by omega, by omega, h3⟩
      · rintro ⟨h2, h3, h4⟩
        exact ⟨by omega, h4⟩
theorem goM_max : ∀ (l : List Bd) (lo hi v : Int), (goM lo hi l).1 < l.length → lo ≤ v → v ≤ hi → ¬ Thru (l.take ((goM lo hi l).1 + 1)) v
  | [], lo, hi, v, h, _, _ => by simp at h
  | b :: l, lo, hi, v, h, h1, h2 => by
    by_cases g : min hi b.hi < max lo b.lo
    · rw [goM_stop g]
      intro h3
      have := h3 b (by simp)
      omega
    · rw [goM_next g] at h ⊢
      simp only [List.length_cons] at h
      simp only [List.take_succ_cons]
      rw [thru_cons]
      rintro ⟨h3, h4⟩
      have hl : (goM (max lo b.lo) (min hi b.hi) l).1 < l.length := by omega
      refine goM_max l (max lo b.lo) (min hi b.hi) v hl (by omega) (by omega) ?_
      have e : (l.take ((goM (max lo b.lo) (min hi b.hi) l).1 + 1)) = (l.take ((goM (max lo b.lo) (min hi b.hi) l).1 + 1)) := rfl
      exact h4
theorem first_n {l : List Bd} (hne : l ≠ []) : 1 ≤ (firstD l).n ∧ (firstD l).n ≤ l.length := by
  obtain ⟨b, l', rfl⟩ := List.exists_cons_of_ne_nil hne
  have := goM_le l' b.lo b.hi
  simp only [firstD, List.length_cons]
  omega
theorem first_thru {l : List Bd} (hne : l ≠ []) (v : Int) : ((firstD l).lo ≤ v ∧ v ≤ (firstD l).hi) ↔ Thru (l.take (firstD l).n) v := by
  obtain ⟨b, l', rfl⟩ := List.exists_cons_of_ne_nil hne
  simp only [firstD, List.take_succ_cons]
  rw [goM_thru, thru_cons]
theorem first_max {l : List Bd} (hl : (firstD l).n < l.length) (v : Int) : ¬ Thru (l.take ((firstD l).n + 1)) v := by
  cases l with
  | nil => simp at hl
  | cons b l' =>
    simp only [firstD, List.length_cons] at hl
    simp only [firstD, List.take_succ_cons]
    rw [thru_cons]
    rintro ⟨h1, h2⟩
    exact goM_max l' b.lo b.hi v (by omega) h1.1 h1.2 h2
theorem first_le {l : List Bd} (hR : ∀ b ∈ l, BdOk b) (hne : l ≠ []) : -2305844108725321728 ≤ (firstD l).lo ∧ (firstD l).lo ≤ (firstD l).hi ∧ (firstD l).hi ≤ 2305844108725321728 := by
  obtain ⟨b, l', rfl⟩ := List.exists_cons_of_ne_nil hne
  obtain ⟨_, _, h1, h2, h3⟩ := hR b (by simp)
  obtain ⟨g1, g2, g3⟩ := goM_inv l' b.lo b.hi h1
  simp only [firstD]
  omega
/-- No longer part has a constant. -/
theorem first_long {l : List Bd} {p : Nat} {v : Int} (hp : p ≤ l.length) (h : Thru (l.take p) v) : p ≤ (firstD l).n := by
  by_cases g : p ≤ (firstD l).n
  · exact g
  · refine absurd (h.sub ?_) (first_max (l := l) (by omega) v)
    intro b hb
    exact List.mem_of_mem_take (i := (firstD l).n + 1) (by rwa [List.take_take, Nat.min_eq_left (by omega)])
theorem partsD_n : ∀ (n : Nat) (k k' : Nat) (l : List Bd), l.length ≤ n → (partsD k l).map (·.n) = (partsD k' l).map (·.n)
  | _, k, k', [], _ => by rw [partsD_nil, partsD_nil]
  | 0, _, _, _ :: _, h => by simp at h
  | n + 1, k, k', b :: l, h => by
    rw [partsD_cons, partsD_cons]
    simp only [List.map_cons, List.length_cons] at h ⊢
    rw [partsD_n n _ (k' + ((goM b.lo b.hi l).1 + 1)) _ (by rw [List.length_drop]; omega)]
/-- How many bands each part has. -/
def cutN (l : List Bd) : List Nat := (partsD 0 l).map (·.n)
theorem cutD_eq (l : List Bd) : cutD l = (cutN l).map (fun n : Nat => (n : Int)) := by simp [cutD, cutN, Function.comp_def]
theorem cutN_nil : cutN [] = [] := by rw [cutN, partsD_nil]; rfl
theorem cutN_next {l : List Bd} (hne : l ≠ []) : cutN l = (firstD l).n :: cutN (l.drop (firstD l).n) := by
  obtain ⟨b, l', rfl⟩ := List.exists_cons_of_ne_nil hne
  unfold cutN
  rw [partsD_cons, List.map_cons, partsD_n l'.length _ 0 _ (by rw [List.length_drop]; omega)]
  simp [firstD]
/-- Bands are cut into so many parts, through each of which a constant goes. -/
inductive Cov : List Bd → Nat → Prop
  | nil : Cov [] 0
  | cons {l : List Bd} {m : Nat} (p : Nat) (v : Int) (h1 : 1 ≤ p) (h2 : p ≤ l.length) (h3 : Thru (l.take p) v) (h4 : Cov (l.drop p) m) : Cov l (m + 1)
theorem cut_least {l : List Bd} {m : Nat} (h : Cov l m) : ∀ (n k : Nat), (l.drop k).length ≤ n → (cutN (l.drop k)).length ≤ m := by
  induction h with
  | nil => intro n k _; simp [cutN_nil]
  | @cons l m p v h1 h2 h3 h4 ih =>
    intro n k hn
    by_cases gp : p ≤ k
    · have e : l.drop k = (l.drop p).drop (k - p) := by rw [List.drop_drop]; congr 1; omega
      have := ih n (k - p) (by rw [← e]; exact hn)
      rw [e]; omega
    · by_cases hne : l.drop k = []
      · rw [hne, cutN_nil]; simp
      · rw [cutN_next hne]
        have hlong : p - k ≤ (firstD (l.drop k)).n := by
          refine first_long (v := v) (by rw [List.length_drop]; omega) (h3.sub ?_)
          intro b hb
          have e : (l.drop k).take (p - k) = (l.take p).drop k := by rw [List.drop_take]
          rw [e] at hb
          exact List.mem_of_mem_drop hb
        have e : (l.drop k).drop (firstD (l.drop k)).n = (l.drop p).drop (k + (firstD (l.drop k)).n - p) := by
          rw [List.drop_drop, List.drop_drop]; congr 1; omega
        have := ih n (k + (firstD (l.drop k)).n - p) (by
          rw [← e, List.length_drop]; omega)
        rw [e, List.length_cons]
        omega
theorem least_cut {l : List Bd} {m : Nat} (h : Cov l m) : (cutN l).length ≤ m := by
  have := cut_least h l.length 0 (by simp)
  simpa using this
theorem cut_cov : ∀ (n : Nat) (l : List Bd), l.length ≤ n → (∀ b ∈ l, BdOk b) → Cov l (cutN l).length
  | _, [], _, _ => by rw [cutN_nil]; exact .nil
  | 0, _ :: _, h, _ => by simp at h
  | n + 1, b :: l, h, hR => by
    have hne : b :: l ≠ [] := by simp
    obtain ⟨h1, h2⟩ := first_n hne
    obtain ⟨_, h3, _⟩ := first_le hR hne
    rw [cutN_next hne, List.length_cons]
    refine .cons (firstD (b :: l)).n (firstD (b :: l)).lo h1 h2 ((first_thru hne _).1 ⟨Int.le_refl _, h3⟩) ?_
    exact cut_cov n _ (by rw [List.length_drop, List.length_cons] at *; omega) (fun c hc => hR c (List.mem_of_mem_drop hc))
theorem cov_cut {l : List Bd} (hR : ∀ b ∈ l, BdOk b) : Cov l (cutN l).length := cut_cov l.length l (Nat.le_refl _) hR
end Go.Proofs.YtoephkglpbophaaGreat.P8

/-
  Layer 8: the laws' first line: does the layer do anything? Conditions: none.
-/
namespace Go.Proofs.YtoephkglpbophaaGreat.P8
open Go.RowKit Go.Shelf

theorem com_le (l : List Bd) : comLo l ≤ comHi l ∧ -2305844108725321728 ≤ comLo l ∧ comHi l ≤ 2305844108725321728 := by
  unfold comLo comHi
  by_cases g : codeC l = 0
  · rw [if_pos g, if_pos g]
    have hk : okD l = true := by
      unfold codeC at g
      cases h : okD l
      · rw [h] at g; simp at g
      · rfl
    obtain ⟨h1, h2, h3⟩ := first_le (okD_facts hk).2.2 (okD_ne hk)
    exact ⟨h2, h1, h3⟩
  · rw [if_neg g, if_neg g]; omega
theorem fitA_any (l : List Bd) (hl : l.length ≤ 9223372036854775807) (v : Value) (w : World) (h : ReadsD w v l) :
    Calls Tryz.prog 108 #[v] w (Ret w (.tuple #[.int .i64 (fitD l), .int .i64 (codeC l)])) := by
  obtain ⟨h1, h2, h3⟩ := com_le l
  exact fit_any l hl h1 (by omega) (by omega) v w h
end Go.Proofs.YtoephkglpbophaaGreat.P8

/-
  Layer 8: bands that are cut elsewhere, joined, or narrower; each two of them. Conditions: those written at each fact.
-/
namespace Go.Proofs.YtoephkglpbophaaGreat.P8
open Go.RowKit

theorem Cov.zero {l : List Bd} (h : l = []) : Cov l 0 := by subst h; exact .nil
/-- Narrower bands. -/
def Nar (l m : List Bd) : Prop := l.length = m.length ∧ ∀ (i : Nat) (b c : Bd), l[i]? = some b → m[i]? = some c → b.lo ≤ c.lo ∧ c.hi ≤ b.hi
theorem Nar.take {l m : List Bd} (h : Nar l m) (k : Nat) : Nar (l.take k) (m.take k) := by
  refine ⟨by rw [List.length_take, List.length_take, h.1], fun i b c h1 h2 => ?_⟩
  rw [List.getElem?_take] at h1 h2
  split at h1
  · rename_i hi
    rw [if_pos hi] at h2
    exact h.2 i b c h1 h2
  · cases h1
theorem Nar.drop {l m : List Bd} (h : Nar l m) (k : Nat) : Nar (l.drop k) (m.drop k) := by
  refine ⟨by rw [List.length_drop, List.length_drop, h.1], fun i b c h1 h2 => ?_⟩
  rw [List.getElem?_drop] at h1 h2
  exact h.2 _ b c h1 h2
theorem Nar.thru {l m : List Bd} (h : Nar l m) {v : Int} (hm : Thru m v) : Thru l v := by
  intro b hb
  obtain ⟨i, hi⟩ := List.mem_iff_getElem?.1 hb
  have hl : i < m.length := by rw [← h.1]; exact (List.getElem?_eq_some_iff.1 hi).1
  have h2 := h.2 i b _ hi (List.getElem?_eq_getElem hl)
  have h3 := hm m[i] (List.getElem_mem hl)
  omega
end Go.Proofs.YtoephkglpbophaaGreat.P8

/-
  Layer 8: bands from some place on, and up to it, may be; Cut of bands that may be. Conditions: those written at each fact.
-/
namespace Go.Proofs.YtoephkglpbophaaGreat.P8
open Go.RowKit Go.Shelf

theorem restD_iff : ∀ (l : List Bd) (p : Option Int), restD p l = true ↔ (∀ a, p = some a → ∀ b ∈ l, a < b.t) ∧ (∀ b ∈ l, BdOk b) ∧ l.Pairwise (fun x y => x.t < y.t)
  | [], p => by simp [restD]
  | b :: l, p => by
    have ih := restD_iff l (some b.t)
    have e : restD p (b :: l) = true ↔ bandB b = true ∧ (∀ a, p = some a → a < b.t) ∧ restD (some b.t) l = true := by
      cases p <;> simp [restD]
    rw [e, ih, bandB_iff, List.pairwise_cons]
    constructor
    · rintro ⟨h1, h2, h3, h4, h5⟩
      refine ⟨fun a ha x hx => ?_, fun x hx => ?_, h3 b.t rfl, h5⟩
      · rcases List.mem_cons.1 hx with rfl | hx
        · exact h2 a ha
        · exact Int.lt_trans (h2 a ha) (h3 b.t rfl x hx)
      · rcases List.mem_cons.1 hx with rfl | hx
        · exact h1
        · exact h4 x hx
    · rintro ⟨h1, h2, h3, h4⟩
      exact ⟨h2 b (by simp), fun a ha => h1 a ha b (by simp), fun a ha => by cases ha; exact h3, fun x hx => h2 x (by simp [hx]), h4⟩
theorem okD_iff (l : List Bd) : okD l = true ↔ 1 ≤ l.length ∧ l.length ≤ 256 ∧ (∀ b ∈ l, BdOk b) ∧ l.Pairwise (fun x y => x.t < y.t) := by
  unfold okD
  simp only [Bool.and_eq_true, decide_eq_true_eq, restD_iff]
  constructor
  · rintro ⟨h1, h2, _, h3, h4⟩; exact ⟨h1, h2, h3, h4⟩
  · rintro ⟨h1, h2, h3, h4⟩; exact ⟨h1, h2, ⟨fun a ha => (by cases ha), h3, h4⟩⟩
theorem okD_take {l : List Bd} (h : okD l = true) {k : Nat} (h1 : 1 ≤ k) : okD (l.take k) = true := by
  obtain ⟨g1, g2, g3, g4⟩ := (okD_iff l).1 h
  exact (okD_iff _).2 ⟨by rw [List.length_take]; omega, by rw [List.length_take]; omega, fun b hb => g3 b (List.mem_of_mem_take hb), g4.sublist (List.take_sublist k l)⟩
theorem okD_drop {l : List Bd} (h : okD l = true) {k : Nat} (h1 : k < l.length) : okD (l.drop k) = true := by
  obtain ⟨g1, g2, g3, g4⟩ := (okD_iff l).1 h
  exact (okD_iff _).2 ⟨by rw [List.length_drop]; omega, by rw [List.length_drop]; omega, fun b hb => g3 b (List.mem_of_mem_drop hb), g4.sublist (List.drop_sublist k l)⟩
/-- What Cut leaves of bands that may be: a row of numbers. -/
theorem CutEnd.open {w w' : World} {l : List Int} {code : Int} {e : Ending} (h : CutEnd w l code e w') : Below w.heap.size w w' ∧ ∃ A c, e = .returned (.tuple #[.slice A l.length c, .int .i64 code]) ∧ Reads .i64 w' (.slice A l.length c) l := by
  obtain ⟨h1, A, n, c, h2, h3⟩ := h
  have hr := reads_own h3
  obtain ⟨e5, _, _⟩ := hr.at
  subst e5
  exact ⟨h1, A, c, h2, hr⟩
/-- A part of a slice of bands. -/
theorem ReadsD.front {w : World} {A : Option Addr} {n c : Nat} {l : List Bd} (h : ReadsD w (.slice A n c) l) (k : Nat) (hk : k ≤ l.length) : ReadsD w (.slice A k c) (l.take k) := by
  have e : n = l.length := by obtain ⟨_, _, e, _⟩ := h; cases e; rfl
  subst e
  exact readsD_take h k hk
theorem ReadsD.back {w : World} {bb off n c : Nat} {l : List Bd} (h : ReadsD w (.slice (some ⟨bb, off, none⟩) n c) l) (k : Nat) (hk : k ≤ l.length) : ReadsD w (.slice (some ⟨bb, off + k * 3, none⟩) (n - k) (c - k)) (l.drop k) := by
  have e : n = l.length := by obtain ⟨_, _, e, _⟩ := h; cases e; rfl
  subst e
  exact h.drop k hk
/-- A row of bands of the call's own is a slice that reads. -/
theorem LaidD.open {w w' : World} {l : List Bd} {e : Ending} (h : LaidD w l e w') : Below w.heap.size w w' ∧ ∃ A c, e = .returned (.slice A l.length c) ∧ l.length ≤ c ∧ ReadsD w' (.slice A l.length c) l := by
  obtain ⟨v, h1, h2, h3⟩ := h
  have hr := readsD_own h3
  have hr2 := hr
  obtain ⟨A, c, e2, hc, _⟩ := hr
  subst e2
  exact ⟨h2, A, c, h1, hc, hr2⟩
end Go.Proofs.YtoephkglpbophaaGreat.P8

/-
  Layer 8: what is left of bands, behind some of them; what is told of parts. Conditions: those written at each fact.
-/
namespace Go.Proofs.YtoephkglpbophaaGreat.P8
open Go.RowKit Go.Shelf

/-- What is left of a slice of bands, behind X of them: nothing, or the others. -/
theorem ReadsD.rest {w : World} {A : Option Addr} {n c : Nat} {m : List Bd} {k X : Nat} (h : ReadsD w (.slice A n c) (m.drop k)) (hn : n = m.length - k) (hX : X ≤ n) (h1 : 1 ≤ X) :
    ∃ bb off, A = some ⟨bb, off, none⟩ ∧ ReadsD w (.slice (some ⟨bb, off + X * 3, none⟩) (n - X) (c - X)) (m.drop (k + X)) ∧ (c = X → ReadsD w (.slice (some ⟨bb, off, none⟩) (n - X) 0) (m.drop (k + X))) := by
  have hne : m.drop k ≠ [] := by
    intro e
    have := congrArg List.length e
    rw [List.length_drop] at this
    simp at this
    omega
  obtain ⟨A', c', e, hc, hk⟩ := id h
  cases e
  obtain ⟨bb, off, e⟩ := readsD_some h hne
  subst e
  refine ⟨bb, off, rfl, ?_, fun hcx => ?_⟩
  · have := h.back X (by rw [List.length_drop]; omega)
    rwa [List.drop_drop] at this
  · have e0 : m.drop (k + X) = [] := List.drop_eq_nil_of_le (by rw [List.length_drop] at hc; omega)
    rw [e0]
    exact ⟨_, _, by rw [List.length_nil, show (m.drop k).length - X = 0 by rw [List.length_drop] at hc ⊢; omega], Nat.zero_le _, fun i r hi => by simp at hi⟩
theorem places {m : List Bd} {k X n : Nat} (hn : n = m.length - k) (hX : X ≤ n) (hk : k ≤ m.length) : n - X = m.length - (k + X) ∧ k + X ≤ m.length := ⟨by omega, by omega⟩
end Go.Proofs.YtoephkglpbophaaGreat.P8
