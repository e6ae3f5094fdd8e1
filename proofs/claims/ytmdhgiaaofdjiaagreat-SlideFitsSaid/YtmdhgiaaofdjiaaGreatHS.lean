/-
  Bands: as values, in memory, cut and copied; rows of them. Conditions: those written at each fact.
-/
import Derived.Maps.RangeWalk
import Derived.Test.YtmdhgiaaofdjiaaGreatBdB
import Derived.Test.YtmdhgiaaofdjiaaGreatRgC
import Derived.WalkMore
import Derived.Shelf.RegionOpen
import Derived.Laws.AppendOwn
import Derived.Lib.SliceRun
namespace Go.Proofs.YtmdhgiaaofdjiaaGreat.P8
open Go.RowKit Go.Shelf


theorem drop_of {l : List Bd} {k : Nat} {r : Bd} (hx : l[k]? = some r) : l.drop k = r :: l.drop (k + 1) := by
  obtain ⟨hlt, e⟩ := List.getElem?_eq_some_iff.1 hx
  rw [List.drop_eq_getElem_cons hlt, e]
/-- The world of a range over the parts of bands: what it needs lies on. -/
structure Stand (X : World → Nat → Prop) (bb off c : Nat) (l : List Bd) (Bl : Nat) (W : World) : Prop where
  reads : ReadsD W (.slice (some ⟨bb, off, none⟩) l.length c) l
  low : bb < W.heap.size
  cells : ∃ o, W.heap[bb]? = some o ∧ o.isCells = true
  lies : ¬ X W bb
  box : Boxed W Bl 24 (.slice (some ⟨bb, off, none⟩) l.length c)
  boxes : ¬ X W Bl
theorem Stand.next {X : World → Nat → Prop} {bb off c Bl : Nat} {l : List Bd} {W W' : World} (h : Stand X bb off c l Bl W) (k : KeepsC X W W') : Stand X bb off c l Bl W' := by
  obtain ⟨o, ho, hoc⟩ := h.cells
  have hb := k.2.2 bb o ho hoc h.lies
  refine ⟨?_, Nat.lt_of_lt_of_le h.low k.1, ⟨o, hb, hoc⟩, fun hx => ?_, k.2.2 Bl _ h.box rfl h.boxes, fun hx => ?_⟩
  · obtain ⟨A', c', e, hc, hk⟩ := h.reads
    cases e
    refine ⟨_, c, rfl, hc, fun i r hi => ?_⟩
    obtain ⟨b, off', e1, e2, e3, e4, e5⟩ := hk i r hi
    cases e1
    have hb2 := hb.trans ho.symm
    exact ⟨bb, off, rfl, Nat.lt_of_lt_of_le e2 k.1, (World.cell?_of_block (w := W) hb2).trans e3, (World.cell?_of_block (w := W) hb2).trans e4, (World.cell?_of_block (w := W) hb2).trans e5⟩
  · rcases k.2.1 bb hx with h1 | h1
    · exact h.lies h1
    · have := h.low; omega
  · rcases k.2.1 Bl hx with h1 | h1
    · exact h.boxes h1
    · have := h.box.lt; omega
theorem ReadsD.drop {W : World} {bb off c : Nat} {l : List Bd} (h : ReadsD W (.slice (some ⟨bb, off, none⟩) l.length c) l) (k : Nat) (hk : k ≤ l.length) : ReadsD W (.slice (some ⟨bb, off + k * 3, none⟩) (l.length - k) (c - k)) (l.drop k) := by
  obtain ⟨A', c', e, hc, hr⟩ := h
  cases e
  refine ⟨_, c - k, by rw [List.length_drop], by rw [List.length_drop]; omega, fun i r hi => ?_⟩
  rw [List.getElem?_drop] at hi
  obtain ⟨b, off', e1, e2, e3, e4, e5⟩ := hr _ r hi
  cases e1
  have e : off + k * 3 + i * 3 = off + (k + i) * 3 := by omega
  exact ⟨bb, off + k * 3, rfl, e2, by rw [e]; exact e3, by rw [e]; exact e4, by rw [e]; exact e5⟩
theorem infoInt : (Tryz.prog.info? 3).map (fun i => (i.zero, i.size, i.bytes)) = some (some (.int .i64 0), 1, 8) := by kernel_rfl
theorem info_parts8 {t : TypeId} {z : Value} {s b : Nat} (h : (Tryz.prog.info? t).map (fun i => (i.zero, i.size, i.bytes)) = some (some z, s, b)) : ∃ i : TypeInfo, Tryz.prog.info? t = some i ∧ i.zero = some z ∧ i.size = s ∧ i.bytes = b := by
  cases e : Tryz.prog.info? t with
  | none => rw [e] at h; cases h
  | some i =>
    rw [e] at h
    simp only [Option.map_some, Option.some.injEq, Prod.mk.injEq] at h
    exact ⟨i, rfl, h.1, h.2.1, h.2.2⟩
theorem infoBand : (Tryz.prog.info? 50).map (fun i => (i.zero, i.size, i.bytes)) = some (some (.agg #[.int .i64 0, .int .i64 0, .int .i64 0]), 3, 24) := by kernel_rfl

/-- The cells of runs. -/
def flatD : List Bd → List Value
  | [] => []
  | r :: l => .int .i64 r.t :: .int .i64 r.lo :: .int .i64 r.hi :: flatD l

theorem flatD_app : ∀ l m : List Bd, flatD (l ++ m) = flatD l ++ flatD m
  | [], _ => rfl
  | s :: l, m => by simp [flatD, flatD_app l m]

theorem flatD_length : ∀ l : List Bd, (flatD l).length = l.length * 3
  | [] => rfl
  | s :: l => by simp [flatD, flatD_length l]; omega

theorem flatD_at : ∀ (l : List Bd) (i : Nat) (r : Bd), l[i]? = some r → (flatD l)[i * 3]? = some (.int .i64 r.t) ∧ (flatD l)[i * 3 + 1]? = some (.int .i64 r.lo) ∧ (flatD l)[i * 3 + 2]? = some (.int .i64 r.hi)
  | [], i, s, h => by simp at h
  | x :: l, 0, s, h => by simp at h; subst h; exact ⟨rfl, rfl, rfl⟩
  | x :: l, i + 1, s, h => by
    have := flatD_at l i s (by simpa using h)
    rw [show (i + 1) * 3 = i * 3 + 3 by omega]
    exact this

theorem flatD_one (l : List Bd) : ∀ u ∈ flatD l, u.oneCell' = true := by
  induction l with
  | nil => intro u hu; simp [flatD] at hu
  | cons a l ih =>
    intro u hu
    simp only [flatD, List.mem_cons] at hu
    rcases hu with rfl | rfl | rfl | hu
    · rfl
    · rfl
    · rfl
    · exact ih u hu

/-- Runs in a row of the call's own read. -/
theorem readsD_own {w : World} {B : Nat} {t : TypeId} {v : Value} {l : List Bd} (h : w.ownsRow B t 3 v l.length (flatD l)) : ReadsD w v l := by
  obtain ⟨hl, h⟩ := h
  rcases h with ⟨rfl, h0⟩ | ⟨g, cap, cur, rfl, hB, hg, hn, _, hs, ht⟩
  · rw [List.eq_nil_of_length_eq_zero h0]
    exact ⟨none, 0, rfl, Nat.le_refl _, fun i r hi => by simp at hi⟩
  · refine ⟨_, _, rfl, hn, fun i r hi => ⟨g, 0, rfl, (Array.getElem?_eq_some_iff.1 hg).1, ?_⟩⟩
    have hi' : i < l.length := (List.getElem?_eq_some_iff.1 hi).1
    obtain ⟨e1, e2, e3⟩ := flatD_at l i r hi
    rw [← ht, List.getElem?_take, if_pos (by omega)] at e1
    rw [← ht, List.getElem?_take, if_pos (by omega)] at e2
    rw [← ht, List.getElem?_take, if_pos (by omega)] at e3
    refine ⟨?_, ?_, ?_⟩
    · simp [World.cell?, hg]; simpa using e1
    · simp [World.cell?, hg]; simpa using e2
    · simp [World.cell?, hg]; simpa using e3

/-- The cells of some runs of a row, from one on. -/
theorem reads_flat {W : World} {b off : Nat} : ∀ {m : List Bd}, (∀ i r, m[i]? = some r → W.cell? ⟨b, off + i * 3, none⟩ = some (.int .i64 r.t) ∧ W.cell? ⟨b, off + i * 3 + 1, none⟩ = some (.int .i64 r.lo) ∧ W.cell? ⟨b, off + i * 3 + 2, none⟩ = some (.int .i64 r.hi)) →
    ∀ (j : Nat) (u : Value), (flatD m)[j]? = some u → W.cell? ((⟨b, off, none⟩ : Addr).add j) = some u := by
  intro m h j u hj
  have hadd : (⟨b, off, none⟩ : Addr).add j = ⟨b, off + j, none⟩ := by unfold Addr.add; split <;> simp_all
  rw [hadd]
  have hlt : j < m.length * 3 := by rw [← flatD_length]; exact (List.getElem?_eq_some_iff.1 hj).1
  obtain ⟨r, hr⟩ : ∃ r, m[j / 3]? = some r := ⟨_, List.getElem?_eq_getElem (by omega)⟩
  obtain ⟨a1, a2, a3⟩ := flatD_at m (j / 3) r hr
  obtain ⟨b1, b2, b3⟩ := h (j / 3) r hr
  have h3 : j % 3 = 0 ∨ j % 3 = 1 ∨ j % 3 = 2 := by omega
  rcases h3 with h3 | h3 | h3
  · rw [show j / 3 * 3 = j by omega] at a1 b1
    rw [b1, ← hj, a1]
  · rw [show j / 3 * 3 + 1 = j by omega] at a2
    rw [show off + j / 3 * 3 + 1 = off + j by omega] at b2
    rw [b2, ← hj, a2]
  · rw [show j / 3 * 3 + 2 = j by omega] at a3
    rw [show off + j / 3 * 3 + 2 = off + j by omega] at b3
    rw [b3, ← hj, a3]

theorem readsD_take {w : World} {A : Option Addr} {c : Nat} {l : List Bd} (h : ReadsD w (.slice A l.length c) l) (m : Nat) (hm : m ≤ l.length) : ReadsD w (.slice A m c) (l.take m) := by
  obtain ⟨A', c', e, hc, hk⟩ := h
  cases e
  refine ⟨A, c, by rw [List.length_take, Nat.min_eq_left hm], by rw [List.length_take, Nat.min_eq_left hm]; omega, fun i r hi => hk i r ?_⟩
  rw [List.getElem?_take] at hi
  split at hi
  · exact hi
  · cases hi

theorem reads_flatD {W : World} {ad : Addr} {n c : Nat} {l : List Bd} (h : ReadsD W (.slice (some ad) n c) l) : ∀ (j : Nat) (u : Value), (flatD l)[j]? = some u → W.cell? (ad.add j) = some u := by
  intro j u hj
  obtain ⟨A', c', e, hc, hk⟩ := h
  cases e
  cases l with
  | nil => simp [flatD] at hj
  | cons r l =>
    obtain ⟨b, off, e1, _⟩ := hk 0 r rfl
    cases e1
    exact reads_flat (fun i r2 hi => by obtain ⟨b', off', e2, _, e3⟩ := hk i r2 hi; cases e2; exact e3) j u hj

/-- A row of runs that fills its block. -/
def RowAt (W : World) (g : Nat) (m : List Bd) : Prop := W.heap[g]? = some (.cells (flatD m).toArray 50 (0, 0))

theorem RowAt.cells {W : World} {g : Nat} {m : List Bd} (h : RowAt W g m) {k : Nat} {r : Bd} (hk : m[k]? = some r) :
    g < W.heap.size ∧ W.cell? ⟨g, k * 3, none⟩ = some (.int .i64 r.t) ∧ W.cell? ⟨g, k * 3 + 1, none⟩ = some (.int .i64 r.lo) ∧ W.cell? ⟨g, k * 3 + 2, none⟩ = some (.int .i64 r.hi) ∧ ∀ j, W.frozen? ⟨g, j, none⟩ = false := by
  obtain ⟨a1, a2, a3⟩ := flatD_at m k r hk
  have e : W.heap[g]? = _ := h
  refine ⟨(Array.getElem?_eq_some_iff.1 e).1, ?_, ?_, ?_, fun j => ?_⟩
  · simp [World.cell?, e]; exact a1
  · simp [World.cell?, e]; exact a2
  · simp [World.cell?, e]; exact a3
  · simp [World.frozen?, e]

theorem new_cells3 {W : World} {a b c : Value} {t : TypeId} {n : Nat} (hn : n = W.heap.size) : ∀ (j : Nat) (u : Value), [a, b, c][j]? = some u → (W.alloc (.cells #[a, b, c] t)).cell? ((⟨n, 0, none⟩ : Addr).add j) = some u := by
  subst hn
  intro j u h
  match j, h with
  | 0, h => cases h; simp [Addr.add, go_sem]
  | 1, h => cases h; simp [Addr.add, go_sem]
  | 2, h => cases h; simp [Addr.add, go_sem]
  | j + 3, h => simp at h

/-- A row of bands of the call's own. -/
def LaidD (w : World) (l : List Bd) (e : Ending) (w' : World) : Prop := ∃ v, e = .returned v ∧ Below w.heap.size w w' ∧ w'.ownsRow w.heap.size 50 3 v l.length (flatD l)
theorem okD_ne {l : List Bd} (h : okD l = true) : l ≠ [] := by
  rintro rfl
  simp [okD] at h
/-- A slice of bands that may be has a place. -/
theorem readsD_some {w : World} {A : Option Addr} {c : Nat} {l : List Bd} (h : ReadsD w (.slice A l.length c) l) (hne : l ≠ []) : ∃ bb off, A = some ⟨bb, off, none⟩ := by
  obtain ⟨_, _, e, _, hk⟩ := h
  cases e
  obtain ⟨r, l', rfl⟩ := List.exists_cons_of_ne_nil hne
  obtain ⟨bb, off, e1, _⟩ := hk 0 r rfl
  exact ⟨bb, off, e1⟩
set_option maxRecDepth 100000 in
set_option maxHeartbeats 2000000 in
theorem equalD (l : List Bd) (hl : l.length ≤ 10000000) (v v2 : Value) (w : World) (h : ReadsD w v l) (h2 : ReadsD w v2 l) : Calls Tryz.prog 28 #[v, v2] w (Ret w (.bool true)) := by
  obtain ⟨A, c, rfl, _, hk⟩ := h
  obtain ⟨A2, c2, rfl, _, hk2⟩ := h2
  have HK := Lib.hid hk
  have HK2 := Lib.hid hk2
  clear hk hk2
  have t' : ((l.length : Int) != (l.length : Int)) = false := by simp
  go_enter Tryz.func28, Tryz.ntmps28
  go_wp2_with fail
  go_loopw [13] (fun i wr => ∃ k : Nat, i = .int .i64 k ∧ k ≤ l.length ∧ Below w.heap.size w wr) (fun i _ => l.length - (intOf i).toNat)
  case atStart => exact ⟨0, rfl, by omega, Below.refl _ _⟩
  case round =>
    obtain ⟨k, rfl, hkl, hB⟩ := hrel
    by_cases gk : k < l.length
    · obtain ⟨⟨x, y, z⟩, hx⟩ : ∃ s, l[k]? = some s := ⟨_, List.getElem?_eq_getElem gk⟩
      obtain ⟨b, off, rfl, hbw, d1, d2, d5⟩ := HK.out k _ hx
      obtain ⟨b2, off2, rfl, hbw2, d3, d4, d6⟩ := HK2.out k _ hx
      have c1 := (hB.cell (p := ⟨b, off + k * 3, none⟩) hbw).trans d1
      have c2 := (hB.cell (p := ⟨b, off + k * 3 + 1, none⟩) hbw).trans d2
      have c5 := (hB.cell (p := ⟨b, off + k * 3 + 2, none⟩) hbw).trans d5
      have c3 := (hB.cell (p := ⟨b2, off2 + k * 3, none⟩) hbw2).trans d3
      have c4 := (hB.cell (p := ⟨b2, off2 + k * 3 + 1, none⟩) hbw2).trans d4
      have c6 := (hB.cell (p := ⟨b2, off2 + k * 3 + 2, none⟩) hbw2).trans d6
      simp only at c1 c2 c3 c4 c5 c6
      have i1 : (k : Int) < (l.length : Int) := by omega
      have i0 : (0 : Int) ≤ (k : Int) := by omega
      clear d1 d2 d3 d4 d5 d6 hx
      go_wp2_with fail
      go_quiet (fail)
      go_wp2_with fail
      go_roundw
      case rel => exact ⟨k + 1, by simp, by omega, below_drewN hB _⟩
      case measure => simp [intOf]; omega
    · have i1 : ¬ (k : Int) < (l.length : Int) := by omega
      go_wp2_with fail
      go_ret
      exact ⟨rfl, hB⟩
set_option maxRecDepth 100000 in
set_option maxHeartbeats 2000000 in
theorem equalN (l : List Int) (hl : l.length ≤ 10000000) (v v2 : Value) (w : World) (h : Reads .i64 w v l) (h2 : Reads .i64 w v2 l) : Calls Tryz.prog 21 #[v, v2] w (Ret w (.bool true)) := by
  obtain ⟨A, c, rfl, _, hk⟩ := h
  obtain ⟨A2, c2, rfl, _, hk2⟩ := h2
  have HK := Lib.hid hk
  have HK2 := Lib.hid hk2
  clear hk hk2
  have t' : ((l.length : Int) != (l.length : Int)) = false := by simp
  go_enter Tryz.func21, Tryz.ntmps21
  go_wp2_with fail
  go_loopw [13] (fun i wr => ∃ k : Nat, i = .int .i64 k ∧ k ≤ l.length ∧ Below w.heap.size w wr) (fun i _ => l.length - (intOf i).toNat)
  case atStart => exact ⟨0, rfl, by omega, Below.refl _ _⟩
  case round =>
    obtain ⟨k, rfl, hkl, hB⟩ := hrel
    by_cases gk : k < l.length
    · obtain ⟨x, hx⟩ : ∃ s, l[k]? = some s := ⟨_, List.getElem?_eq_getElem gk⟩
      obtain ⟨b, off, rfl, hbw, d1⟩ := HK.out k _ hx
      obtain ⟨b2, off2, rfl, hbw2, d3⟩ := HK2.out k _ hx
      have c1 := (hB.cell (p := ⟨b, off + k, none⟩) hbw).trans d1
      have c3 := (hB.cell (p := ⟨b2, off2 + k, none⟩) hbw2).trans d3
      have i1 : (k : Int) < (l.length : Int) := by omega
      have i0 : (0 : Int) ≤ (k : Int) := by omega
      have t1 : (x != x) = false := by simp
      clear d1 d3 hx
      go_wp2_with fail
      go_quiet (fail)
      go_wp2_with fail
      go_roundw
      case rel => exact ⟨k + 1, by simp, by omega, below_drewN hB _⟩
      case measure => simp [intOf]; omega
    · have i1 : ¬ (k : Int) < (l.length : Int) := by omega
      go_wp2_with fail
      go_ret
      exact ⟨rfl, hB⟩
set_option maxRecDepth 100000 in
set_option maxHeartbeats 1000000 in
theorem cloneD (l : List Bd) (hl : l.length ≤ 1000000) (v : Value) (w : World) (h : ReadsD w v l) : Calls Tryz.prog 57 #[v] w (LaidD w l) := by
  obtain ⟨i0, hi, hz0, hz1, hz2⟩ := info_parts8 infoBand
  have hh := h
  obtain ⟨A, c, rfl, hc, hk⟩ := h
  have HK := Lib.hid hk
  have HH := Lib.hid hh
  clear hk hh
  have q : ∀ (w : World) (a : Option Addr) (n c n' c' : Nat), (binOp .eql 24 (.slice a n c) (.slice none n' c')).run Tryz.prog w = .ok (.bool a.isNone) w := fun w a n c n' c' => Lib.run_eql_slice_nil w _ _ a n c n' c' Tryz.underlying24
  cases A with
  | none =>
    have e : l = [] := by
      cases l with
      | nil => rfl
      | cons x l' =>
        obtain ⟨b, off, e1, _⟩ := HK.out 0 x rfl
        cases e1
    subst e
    go_enter Tryz.func57, Tryz.ntmps57
    go_wp2_with fail
    go_ret
    exact ⟨_, rfl, Below.refl _ _, World.ownsRow_nil _ _ _ _⟩
  | some ad =>
    have FL := Lib.hid (flatD_length l)
    go_enter Tryz.func57, Tryz.ntmps57
    go_wp2_with (at_builtin; refine wpList_append_own _ rfl _ _ 24 rfl w.heap.size 50 i0 (.agg #[.int .i64 0, .int .i64 0, .int .i64 0]) 3 24 Tryz.underlying24 hi hz0 hz1 hz2 rfl (by decide) _ _ _ rfl (World.ownsRow_made w #[] 0 (Nat.le_refl _) (Nat.zero_le _) rfl) ad l.length c (flatD l) rfl ?qc1 ?qc2 ?qc3 ?qc4 ?qc5 ?qc6 ?_)
    case qc1 => exact FL.out
    case qc2 => exact reads_flatD (HH.out.below (below_alloc w _))
    case qc3 => exact flatD_one l
    case qc4 => unfold maxLen; omega
    case qc5 => omega
    case qc6 => simp
    intro v' w1 hown hgrow _
    clear HH HK q
    go_wp2_with fail
    go_ret
    exact ⟨v', rfl, ((Below.refl _ w).alloc (Nat.le_refl _) _).grown hgrow (by simp) (by intro k hk; simp [Value.ownBlock] at hk; omega), by simpa using hown⟩
theorem if_wanted {o : Oper} {ops : Array Oper} {tm : Array Value} {A B : Prop} (hg : o.guard = none) (h : A) : if Region.wanted o (yielded ops tm) = true then A else B := by
  rw [if_pos (by simp [Region.wanted, hg])]; exact h

theorem wp_append_own_at {P : Program} (w : World) {o : Oper} {a : Act} {K : Act → World → Prop} {Q : Exit → Act → World → Prop} (s x : Operand) (t : TypeId)
    (ho : o.op = .call { callee := .builtin .append, args := #[s, x], argTypes := #[t, t] })
    (base : Nat) (e : TypeId) (i : TypeInfo) (z : Value) (size bytes : Nat) (ht : P.underlying t = some (.slice e)) (hi : P.info? e = some i) (hz : i.zero = some z)
    (hsize : i.size = size) (hby : i.bytes = bytes) (hzs : z.cells.size = size) (hsz : 0 < size)
    (v : Value) (n : Nat) (xs : List Value) (hs : a.eval s = v) (hown : w.ownsRow base e size v n xs)
    (ad : Addr) (m c : Nat) (news : List Value) (hx : a.eval x = .slice (some ad) m c) (hl : news.length = m * size) (hnews : ∀ j u, news[j]? = some u → w.cell? (ad.add j) = some u) (h1 : ∀ u ∈ news, u.oneCell' = true)
    (h63 : n + m ≤ maxLen) (hbytes : (n + m) * bytes ≤ 140737488355328) (hbase : base ≤ w.heap.size)
    (h : ∀ v' w', w'.ownsRow base e size v' (n + m) (xs ++ news) → w.grownBy w' v.ownBlock → (v'.ownBlock = v.ownBlock ∨ v'.ownBlock = some w.heap.size) → K (a.put o.dst v') w') : o.wp P a w K Q := by
  obtain ⟨v', w', hr, h2, h3, _, h5⟩ := run_append_own_at (P := P) w base t o.type e i z size bytes ht hi hz hsize hby hzs hsz v n xs hown ad m c news hl hnews h1 h63 hbytes hbase
  unfold Oper.wp execOp
  simp only [ho, resolve, invoke, builtin, Sem.run_bind, Sem.run_pure, Result.andThen_ok, List.map_toArray, List.map_cons, List.map_nil, hs, hx, hr]
  exact h v' w' h2 h3 h5

/-- Bands at k, k + 1 and so on, of ends. -/
def atF : Nat → List Int → List Bd
  | k, a :: d :: l => ⟨k, a, d⟩ :: atF (k + 1) l
  | _, _ => []
theorem atF_next {l : List Int} {n k : Nat} {a d : Int} (h1 : l[n]? = some a) (h2 : l[n + 1]? = some d) : atF k (l.drop n) = ⟨k, a, d⟩ :: atF (k + 1) (l.drop (n + 2)) := by
  obtain ⟨g1, e1⟩ := List.getElem?_eq_some_iff.1 h1
  obtain ⟨g2, e2⟩ := List.getElem?_eq_some_iff.1 h2
  rw [List.drop_eq_getElem_cons g1, List.drop_eq_getElem_cons g2, e1, e2, atF]
theorem atF_end {l : List Int} {n k : Nat} (h : l.length ≤ n + 1) : atF k (l.drop n) = [] := by
  have hl : (l.drop n).length ≤ 1 := by rw [List.length_drop]; omega
  match l.drop n, hl with
  | [], _ => rfl
  | [_], _ => rfl
theorem half_two (k : Nat) : (2 * (k : Int)) / 2 = (k : Int) ∧ Int.tdiv (2 * (k : Int)) 2 = (k : Int) := ⟨by omega, Int.mul_tdiv_cancel_left _ (by decide)⟩
theorem turn2_less {n L : Nat} (h : n + 1 < L) : L + 1 - (intOf (Value.int .i64 ((n : Int) + 2))).toNat < L + 1 - (intOf (Value.int .i64 (n : Int))).toNat := by simp [intOf]; omega
set_option maxRecDepth 100000 in
set_option maxHeartbeats 2000000 in
theorem at_any (l : List Int) (hl : l.length ≤ 1000) (v : Value) (w : World) (h : Reads .i64 w v l) : Calls Tryz.prog 56 #[v] w (LaidD w (atF 0 l)) := by
  obtain ⟨A, c, rfl, _, hk⟩ := h
  have HK := Lib.hid hk
  obtain ⟨i0, hi, hz0, hz1, hz2⟩ := info_parts8 infoBand
  obtain ⟨R, hR⟩ : ∃ R, R = atF 0 l := ⟨_, rfl⟩
  rw [← hR]
  have AS : Hid ([] ++ atF 0 (l.drop 0) = R) := Lib.hid (by simpa using hR.symm)
  clear hk hR
  go_enter Tryz.func56, Tryz.ntmps56
  go_wp2_with fail
  go_loopw [3, 4] (fun o i wr => ∃ (k n : Nat) (done : List Bd), i = .int .i64 n ∧ Hid (n = 2 * k) ∧ n ≤ l.length + 1 ∧ k ≤ 1000 ∧ Hid (done ++ atF k (l.drop n) = R) ∧ Hid (done.length = k) ∧ Hid (wr.ownsRow w.heap.size 50 3 o k (flatD done)) ∧ Below w.heap.size w wr) (fun _ i _ => l.length + 1 - (intOf i).toNat)
  case atStart => exact ⟨0, 0, [], rfl, Lib.hid rfl, by omega, by omega, AS, Lib.hid rfl, Lib.hid (World.ownsRow_nil _ _ _ _), Below.refl _ _⟩
  case round =>
    obtain ⟨k, n, done, rfl, hn, hnl, hk0, hD, hL, hO, hB⟩ := hrel
    clear AS
    by_cases gk : n + 1 < l.length
    · obtain ⟨a, hx⟩ : ∃ s, l[n]? = some s := ⟨_, List.getElem?_eq_getElem (by omega)⟩
      obtain ⟨d, hy⟩ : ∃ s, l[n + 1]? = some s := ⟨_, List.getElem?_eq_getElem gk⟩
      obtain ⟨bb, off, rfl, hbw, hc1⟩ := HK.out n _ hx
      obtain ⟨bb', off', e', hbw', hc2⟩ := HK.out (n + 1) _ hy
      cases e'
      have i1 : (n : Int) + 1 < (l.length : Int) := by omega
      have i0' : (0 : Int) ≤ (n : Int) := by omega
      have i2 : (n : Int) < (l.length : Int) := by omega
      obtain ⟨m, hm⟩ : ∃ m, m = n + 1 := ⟨_, rfl⟩
      have em : IntKind.i64.wrap ((n : Int) + 1) = (m : Int) := (by rw [IntKind.wrap_i64]; omega)
      have im : (m : Int) < (l.length : Int) := by omega
      have im0 : (0 : Int) ≤ (m : Int) := by omega
      have ekk : IntKind.i64.wrap (k : Int) = (k : Int) := (by rw [IntKind.wrap_i64]; omega)
      rw [← hm] at hc2
      have q1 : Int.tdiv (n : Int) 2 = (k : Int) := by rw [show (n : Int) = 2 * (k : Int) by rw [hn.out]; omega]; exact (half_two k).2
      have q2 : (n : Int) / 2 = (k : Int) := by rw [hn.out]; have := (half_two k).1; omega
      have hD2 := hD.out
      rw [atF_next hx hy] at hD2
      have HD2 := Lib.hid hD2
      have HLN := Lib.hid (fun j hj => (hO.out.lt j hj).1)
      have HP := Lib.hid (And.intro hc1 hc2)
      clear hD2 hD hx hy hc1 hc2 hm
      go_wp2_with fail
      refine region_keeps (w0 := w) (L := []) (by kernel_rfl) ⟨hB, trivial⟩ (fun hHeld0 => ?_)
      refine wpAnyH_take (i := 0) (oi := ⟨some 12, _, _, _, _, _⟩) (v := ?_) rfl (by kernel_rfl) (by kernel_rfl) (by kernel_rfl) (fun _ _ _ h => h) (Or.inl ⟨by rfl, ?_⟩) (by assumption) ?_
      rotate_left
      · intro wq hSw; go_simp; (try with_reducible rfl)
      try go_frame
      refine wpAnyH_take (i := 1) (oi := ⟨some 13, _, _, _, _, _⟩) (v := ?_) rfl (by kernel_rfl) (by kernel_rfl) (by kernel_rfl) (fun _ _ _ h => h) (Or.inl ⟨by rfl, ?_⟩) (by assumption) ?_
      rotate_left
      · intro wq hSw; go_simp; (try with_reducible rfl)
      try go_frame
      refine wpAnyH_take (i := 2) (oi := ⟨some 14, _, _, _, _, _⟩) (v := ?_) rfl (by kernel_rfl) (by kernel_rfl) (by kernel_rfl) (fun _ _ _ h => h) (Or.inl ⟨by rfl, ?_⟩) (by assumption) ?_
      rotate_left
      · intro wq hSw; go_simp; (try with_reducible rfl)
      try go_frame
      refine wpAnyH_take (i := 3) (oi := ⟨some 15, _, _, _, _, _⟩) (v := ?_) rfl (by kernel_rfl) (by kernel_rfl) (by kernel_rfl) (fun _ _ _ h => h) (Or.inl ⟨by rfl, ?_⟩) (by assumption) ?_
      rotate_left
      · intro wq hSw; go_simp; (try with_reducible rfl)
      try go_frame
      refine wpAnyH_take (i := 4) (oi := ⟨some 16, _, _, _, _, _⟩) (v := ?_) rfl (by kernel_rfl) (by kernel_rfl) (by kernel_rfl) (fun _ _ _ h => h) (Or.inl ⟨by rfl, ?_⟩) (by assumption) ?_
      rotate_left
      · intro wq hSw; go_simp; (try with_reducible rfl)
      try go_frame
      refine wpAnyH_take (i := 5) (oi := ⟨some 17, _, _, _, _, _⟩) (v := ?_) rfl (by kernel_rfl) (by kernel_rfl) (by kernel_rfl) (fun _ _ _ h => h) (Or.inl ⟨by rfl, ?_⟩) (by assumption) ?_
      rotate_left
      · intro wq hSw; go_simp; (try with_reducible rfl)
      try go_frame
      refine wpAnyH_take (i := 6) (oi := ⟨some 18, _, _, _, _, _⟩) (v := ?_) rfl (by kernel_rfl) (by kernel_rfl) (by kernel_rfl) (fun _ _ _ h => h) (Or.inl ⟨by rfl, ?_⟩) (by assumption) ?_
      rotate_left
      · intro wq hSw; obtain _ := hSw.2; have hp4 := (hSw.1.cell (p := ⟨bb, off + n, none⟩) hbw).trans HP.out.1; have hp5 := (hSw.1.cell (p := ⟨bb, off + m, none⟩) hbw).trans HP.out.2; go_simp; (try with_reducible rfl)
      try go_frame
      refine wpAnyH_take (i := 7) (oi := ⟨some 19, _, _, _, _, _⟩) (v := ?_) rfl (by kernel_rfl) (by kernel_rfl) (by kernel_rfl) (fun _ _ _ h => h) (Or.inl ⟨by rfl, ?_⟩) (by assumption) ?_
      rotate_left
      · intro wq hSw; go_simp; (try with_reducible rfl)
      try go_frame
      refine wpAnyH_take (i := 8) (oi := ⟨some 20, _, _, _, _, _⟩) (v := ?_) rfl (by kernel_rfl) (by kernel_rfl) (by kernel_rfl) (fun _ _ _ h => h) (Or.inl ⟨by rfl, ?_⟩) (by assumption) ?_
      rotate_left
      · intro wq hSw; go_simp; (try with_reducible rfl)
      try go_frame
      refine wpAnyH_take (i := 9) (oi := ⟨some 21, _, _, _, _, _⟩) (v := ?_) rfl (by kernel_rfl) (by kernel_rfl) (by kernel_rfl) (fun _ _ _ h => h) (Or.inl ⟨by rfl, ?_⟩) (by assumption) ?_
      rotate_left
      · intro wq hSw; go_simp; (try with_reducible rfl)
      try go_frame
      refine wpAnyH_take (i := 10) (oi := ⟨some 22, _, _, _, _, _⟩) (v := ?_) rfl (by kernel_rfl) (by kernel_rfl) (by kernel_rfl) (fun _ _ _ h => h) (Or.inl ⟨by rfl, ?_⟩) (by assumption) ?_
      rotate_left
      · intro wq hSw; go_simp; (try with_reducible rfl)
      try go_frame
      refine wpAnyH_take (i := 11) (oi := ⟨some 23, _, _, _, _, _⟩) (v := ?_) rfl (by kernel_rfl) (by kernel_rfl) (by kernel_rfl) (fun _ _ _ h => h) (Or.inl ⟨by rfl, ?_⟩) (by assumption) ?_
      rotate_left
      · intro wq hSw; obtain _ := hSw.2; have hp4 := (hSw.1.cell (p := ⟨bb, off + n, none⟩) hbw).trans HP.out.1; have hp5 := (hSw.1.cell (p := ⟨bb, off + m, none⟩) hbw).trans HP.out.2; go_simp; (try with_reducible rfl)
      try go_frame
      refine wpAnyH_take (i := 12) (oi := ⟨some 24, _, _, _, _, _⟩) (v := ?_) rfl (by kernel_rfl) (by kernel_rfl) (by kernel_rfl) (fun _ _ _ h => h) (Or.inl ⟨by rfl, ?_⟩) (by assumption) ?_
      rotate_left
      · intro wq hSw; go_simp; (try with_reducible rfl)
      try go_frame
      refine wpAnyH_ready (rs := [13]) (by kernel_rfl) (by simp) ?_
      refine AllReadyH.cons (o := ⟨some 25, _, _, _, _, _⟩) rfl (fun K hK => ?_) AllReadyH.nil
      go_simp
      refine hK.out _ _ (by first | exact hHeld0.alloc _ | exact (hHeld0.alloc _).drew) (fun hHeld1 => ?_)
      clear hK K
      try clear hb
      try go_frame
      refine wpAnyH_ready (rs := [14]) (by kernel_rfl) (by simp) ?_
      refine AllReadyH.cons (o := ⟨some 26, _, _, _, _, _⟩) rfl (fun K hK => ?_) AllReadyH.nil
      (refine if_wanted rfl ?_; refine wp_append_own_at _ (.tmp 12) (.tmp 25) 24 rfl w.heap.size 50 i0 (.agg #[.int .i64 0, .int .i64 0, .int .i64 0]) 3 24 Tryz.underlying24 hi hz0 hz1 hz2 rfl (by decide) u3 _ _ rfl (owns_below hO.out (below_alloc wr _).drew) ⟨wr.heap.size, 0, none⟩ 1 1 [.int .i64 (k : Int), .int .i64 a, .int .i64 d] rfl rfl (new_cells3 rfl) (by intro u hu; simp at hu; rcases hu with rfl | rfl | rfl <;> rfl) (by unfold maxLen; omega) (by omega) (hHeld1).1.size (fun v8 w8 hown8 hgrow8 h8 => ?_))
      refine hK.out _ _ (⟨((hHeld1).1).grown hgrow8 (hHeld1).1.size (fun j hj => HLN.out j hj), trivial⟩) (fun hHeld2 => ?_)
      clear hK K
      try clear hb
      try go_frame
      refine wpAnyH_take (i := 15) (oi := ⟨some 3, _, _, _, _, _⟩) (v := ?_) rfl (by kernel_rfl) (by kernel_rfl) (by kernel_rfl) (fun _ _ _ h => h) (Or.inl ⟨by rfl, ?_⟩) (by assumption) ?_
      rotate_left
      · intro wq hSw; go_simp; (try with_reducible rfl)
      try go_frame
      refine wpAnyH_done (by kernel_rfl) ?_ _
      have hHeld := hHeld2
      all_goals
        obtain ⟨g8, cap8, rfl⟩ := ownsRow_succ hown8
        have HO8 := Lib.hid hown8
        have HB8 := Lib.hid hHeld.1
        have e2 : wrap64 ((n : Int) + 2) = (n : Int) + 2 := i64_keeps (by omega) (by omega)
        clear hgrow8 h8 hown8 em ekk q1 q2 im im0 e2
        go_wp2_with fail
        go_roundw
        case rel => exact ⟨k + 1, n + 2, done ++ [⟨(k : Int), a, d⟩], by simp, Lib.hid (by rw [hn.out]; omega), by omega, by have := hn.out; omega, Lib.hid (by rw [List.append_assoc]; exact HD2.out), Lib.hid (by rw [List.length_append, hL.out]; rfl), Lib.hid (by rw [flatD_app]; exact HO8.out), HB8.out⟩
        case measure => exact turn2_less gk
    · have i1 : (l.length : Int) ≤ (n : Int) + 1 := by omega
      have E : Hid (done = R) := Lib.hid (by have := hD.out; rwa [atF_end (by omega), List.append_nil] at this)
      clear hD
      go_wp2_with fail
      go_ret
      exact ⟨_, rfl, hB, by rw [← E.out, hL.out]; exact hO.out⟩
theorem restD_iff : ∀ (l : List Bd) (p : Option Int), restD p l = true ↔ (∀ a, p = some a → ∀ b ∈ l, a < b.t) ∧ (∀ b ∈ l, BdOk b) ∧ l.Pairwise (fun x y => x.t < y.t)
  | [], p => by simp [restD]
  | b :: l, p => by
    have ih := restD_iff l (some b.t)
    have e : restD p (b :: l) = true ↔ bandB b = true ∧ (∀ a, p = some a → a < b.t) ∧ restD (some b.t) l = true := by
      cases p <;> simp [restD]
    rw [e, ih, bandB_iff, List.pairwise_cons]
    constructor
    · rintro ⟨h1, h2, h3, h4, h5⟩
      refine ⟨fun a ha x hx => ?_, fun x hx => ?_, h3 b.t rfl, h5⟩
      · rcases List.mem_cons.1 hx with rfl | hx
        · exact h2 a ha
        · exact Int.lt_trans (h2 a ha) (h3 b.t rfl x hx)
      · rcases List.mem_cons.1 hx with rfl | hx
        · exact h1
        · exact h4 x hx
    · rintro ⟨h1, h2, h3, h4⟩
      exact ⟨h2 b (by simp), fun a ha => h1 a ha b (by simp), fun a ha => by cases ha; exact h3, fun x hx => h2 x (by simp [hx]), h4⟩
theorem okD_iff (l : List Bd) : okD l = true ↔ 1 ≤ l.length ∧ l.length ≤ 256 ∧ (∀ b ∈ l, BdOk b) ∧ l.Pairwise (fun x y => x.t < y.t) := by
  unfold okD
  simp only [Bool.and_eq_true, decide_eq_true_eq, restD_iff]
  constructor
  · rintro ⟨h1, h2, _, h3, h4⟩; exact ⟨h1, h2, h3, h4⟩
  · rintro ⟨h1, h2, h3, h4⟩; exact ⟨h1, h2, ⟨fun a ha => (by cases ha), h3, h4⟩⟩
/-- A part of a slice of bands. -/
theorem ReadsD.front {w : World} {A : Option Addr} {n c : Nat} {l : List Bd} (h : ReadsD w (.slice A n c) l) (k : Nat) (hk : k ≤ l.length) : ReadsD w (.slice A k c) (l.take k) := by
  have e : n = l.length := by obtain ⟨_, _, e, _⟩ := h; cases e; rfl
  subst e
  exact readsD_take h k hk
theorem ReadsD.back {w : World} {bb off n c : Nat} {l : List Bd} (h : ReadsD w (.slice (some ⟨bb, off, none⟩) n c) l) (k : Nat) (hk : k ≤ l.length) : ReadsD w (.slice (some ⟨bb, off + k * 3, none⟩) (n - k) (c - k)) (l.drop k) := by
  have e : n = l.length := by obtain ⟨_, _, e, _⟩ := h; cases e; rfl
  subst e
  exact h.drop k hk
/-- A row of bands of the call's own is a slice that reads. -/
theorem LaidD.open {w w' : World} {l : List Bd} {e : Ending} (h : LaidD w l e w') : Below w.heap.size w w' ∧ ∃ A c, e = .returned (.slice A l.length c) ∧ l.length ≤ c ∧ ReadsD w' (.slice A l.length c) l := by
  obtain ⟨v, h1, h2, h3⟩ := h
  have hr := readsD_own h3
  have hr2 := hr
  obtain ⟨A, c, e2, hc, _⟩ := hr
  subst e2
  exact ⟨h2, A, c, h1, hc, hr2⟩
/-- What is left of a slice of bands, behind X of them: nothing, or the others. -/
theorem ReadsD.rest {w : World} {A : Option Addr} {n c : Nat} {m : List Bd} {k X : Nat} (h : ReadsD w (.slice A n c) (m.drop k)) (hn : n = m.length - k) (hX : X ≤ n) (h1 : 1 ≤ X) :
    ∃ bb off, A = some ⟨bb, off, none⟩ ∧ ReadsD w (.slice (some ⟨bb, off + X * 3, none⟩) (n - X) (c - X)) (m.drop (k + X)) ∧ (c = X → ReadsD w (.slice (some ⟨bb, off, none⟩) (n - X) 0) (m.drop (k + X))) := by
  have hne : m.drop k ≠ [] := by
    intro e
    have := congrArg List.length e
    rw [List.length_drop] at this
    simp at this
    omega
  obtain ⟨A', c', e, hc, hk⟩ := id h
  cases e
  obtain ⟨bb, off, e⟩ := readsD_some h hne
  subst e
  refine ⟨bb, off, rfl, ?_, fun hcx => ?_⟩
  · have := h.back X (by rw [List.length_drop]; omega)
    rwa [List.drop_drop] at this
  · have e0 : m.drop (k + X) = [] := List.drop_eq_nil_of_le (by rw [List.length_drop] at hc; omega)
    rw [e0]
    exact ⟨_, _, by rw [List.length_nil, show (m.drop k).length - X = 0 by rw [List.length_drop] at hc ⊢; omega], Nat.zero_le _, fun i r hi => by simp at hi⟩
theorem places {m : List Bd} {k X n : Nat} (hn : n = m.length - k) (hX : X ≤ n) (hk : k ≤ m.length) : n - X = m.length - (k + X) ∧ k + X ≤ m.length := ⟨by omega, by omega⟩
end Go.Proofs.YtmdhgiaaofdjiaaGreat.P8
