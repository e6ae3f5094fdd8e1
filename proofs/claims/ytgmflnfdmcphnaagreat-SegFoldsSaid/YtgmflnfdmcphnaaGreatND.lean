/-
  Layer 7: runs: Join, with the error by which it is left. Conditions: those written at each fact.
-/
import Derived.Test.YtgmflnfdmcphnaaGreatNC
import Derived.Test.YtgmflnfdmcphnaaGreatEq
import Derived.Lib.SliceRun
namespace Go.Proofs.YtgmflnfdmcphnaaGreat.P7
open Go.RowKit Go.Shelf

/-- May the runs m come behind the runs l? -/
def behindL (l m : List Rn) : Bool := match l[l.length - 1]?, m[0]? with | some a, some b => decide (a.f + (a.c - 1) * a.s < b.f) | _, _ => false
def codeJ (l m : List Rn) : Int := if okB l && okB m then (if behindL l m && decide (totalR l + totalR m ≤ 256) then 0 else 2) else 170

end Go.Proofs.YtgmflnfdmcphnaaGreat.P7

/-
  Layer 7: the law's helpers: equal rows, a row of the law's own. Conditions: those written at each fact.
-/
namespace Go.Proofs.YtgmflnfdmcphnaaGreat.P7
open Go.RowKit Go.Shelf

set_option maxRecDepth 100000 in
set_option maxHeartbeats 2000000 in
theorem equalR (l : List Rn) (hl : l.length ≤ 10000000) (v v2 : Value) (w : World) (h : ReadsR w v l) (h2 : ReadsR w v2 l) : Calls Tryz.prog 45 #[v, v2] w (Ret w (.bool true)) := by
  obtain ⟨A, c, rfl, _, hk⟩ := h
  obtain ⟨A2, c2, rfl, _, hk2⟩ := h2
  have HK := Lib.hid hk
  have HK2 := Lib.hid hk2
  clear hk hk2
  have t' : ((l.length : Int) != (l.length : Int)) = false := by simp
  go_enter Tryz.func45, Tryz.ntmps45
  go_wp2_with fail
  go_loopw [13] (fun i wr => ∃ k : Nat, i = .int .i64 k ∧ k ≤ l.length ∧ Below w.heap.size w wr) (fun i _ => l.length - (intOf i).toNat)
  case atStart => exact ⟨0, rfl, by omega, Below.refl _ _⟩
  case round =>
    obtain ⟨k, rfl, hkl, hB⟩ := hrel
    by_cases gk : k < l.length
    · obtain ⟨⟨x, y, z⟩, hx⟩ : ∃ s, l[k]? = some s := ⟨_, List.getElem?_eq_getElem gk⟩
      obtain ⟨b, off, rfl, hbw, d1, d2, d5⟩ := HK.out k _ hx
      obtain ⟨b2, off2, rfl, hbw2, d3, d4, d6⟩ := HK2.out k _ hx
      have c1 := (hB.cell (p := ⟨b, off + k * 3, none⟩) hbw).trans d1
      have c2 := (hB.cell (p := ⟨b, off + k * 3 + 1, none⟩) hbw).trans d2
      have c5 := (hB.cell (p := ⟨b, off + k * 3 + 2, none⟩) hbw).trans d5
      have c3 := (hB.cell (p := ⟨b2, off2 + k * 3, none⟩) hbw2).trans d3
      have c4 := (hB.cell (p := ⟨b2, off2 + k * 3 + 1, none⟩) hbw2).trans d4
      have c6 := (hB.cell (p := ⟨b2, off2 + k * 3 + 2, none⟩) hbw2).trans d6
      simp only at c1 c2 c3 c4 c5 c6
      have i1 : (k : Int) < (l.length : Int) := by omega
      have i0 : (0 : Int) ≤ (k : Int) := by omega
      clear d1 d2 d3 d4 d5 d6 hx
      go_wp2_with fail
      go_quiet (fail)
      go_wp2_with fail
      go_roundw
      case rel => exact ⟨k + 1, by simp, by omega, below_drewN hB _⟩
      case measure => simp [intOf]; omega
    · have i1 : ¬ (k : Int) < (l.length : Int) := by omega
      go_wp2_with fail
      go_ret
      exact ⟨rfl, hB⟩
theorem readsR_take {w : World} {A : Option Addr} {c : Nat} {l : List Rn} (h : ReadsR w (.slice A l.length c) l) (m : Nat) (hm : m ≤ l.length) : ReadsR w (.slice A m c) (l.take m) := by
  obtain ⟨A', c', e, hc, hk⟩ := h
  cases e
  refine ⟨A, c, by rw [List.length_take, Nat.min_eq_left hm], by rw [List.length_take, Nat.min_eq_left hm]; omega, fun i r hi => hk i r ?_⟩
  rw [List.getElem?_take] at hi
  split at hi
  · exact hi
  · cases hi
theorem reads_flatR {W : World} {ad : Addr} {n c : Nat} {l : List Rn} (h : ReadsR W (.slice (some ad) n c) l) : ∀ (j : Nat) (u : Value), (flatR l)[j]? = some u → W.cell? (ad.add j) = some u := by
  intro j u hj
  obtain ⟨A', c', e, hc, hk⟩ := h
  cases e
  cases l with
  | nil => simp [flatR] at hj
  | cons r l =>
    obtain ⟨b, off, e1, _⟩ := hk 0 r rfl
    cases e1
    exact reads_flat (fun i r2 hi => by obtain ⟨b', off', e2, _, e3⟩ := hk i r2 hi; cases e2; exact e3) j u hj
end Go.Proofs.YtgmflnfdmcphnaaGreat.P7

/-
  Layer 7: the law's first line: does the layer do anything? Conditions: none.
-/
namespace Go.Proofs.YtgmflnfdmcphnaaGreat.P7
open Go.RowKit Go.Shelf

theorem laid_six : laidR [3, 5, 7, 20, 21, 50] = [⟨3, 2, 3⟩, ⟨20, 1, 2⟩, ⟨50, 0, 1⟩] := by simp [laidR, goR, takeR, iniR]
theorem ok_six : okB [⟨3, 2, 3⟩, ⟨20, 1, 2⟩, ⟨50, 0, 1⟩] = true := by simp [okB, restB, runB, timeR, behindB]
theorem times_six : timesR [⟨3, 2, 3⟩, ⟨20, 1, 2⟩, ⟨50, 0, 1⟩] = [3, 5, 7, 20, 21, 50] := by simp [timesR, stepsR]
theorem res_ok {w w' : World} {c : Int} {l : List Rn} {e : Ending} (h : Res w c l e w') (hc : c = 0) : GotR w l e w' := by unfold Res at h; rwa [if_pos hc] at h
theorem res_err {w w' : World} {c : Int} {l : List Rn} {e : Ending} (h : Res w c l e w') (hc : ¬ c = 0) : ErrR w c e w' := by unfold Res at h; rwa [if_neg hc] at h
/-- Runs that are written out. -/
theorem readsR_new {w : World} {l : List Rn} (n : Nat) (hn : l.length = n) : ReadsR (w.alloc (.cells (flatR l).toArray 44)) (.slice (some ⟨w.heap.size, 0, none⟩) n n) l := by
  subst hn
  refine ⟨_, _, rfl, Nat.le_refl _, fun i r hi => ⟨w.heap.size, 0, rfl, by simp, ?_⟩⟩
  have h : RowAt (w.alloc (.cells (flatR l).toArray 44)) w.heap.size l := World.alloc_heap_new w _
  obtain ⟨_, a1, a2, a3, _⟩ := h.cells hi
  rw [Nat.zero_add]
  exact ⟨a1, a2, a3⟩
end Go.Proofs.YtgmflnfdmcphnaaGreat.P7

/-
  Layer 7: sorted rows, and rows without what stands twice. Conditions: those written at each fact.
-/
namespace Go.Proofs.YtgmflnfdmcphnaaGreat.P7
open Go.RowKit Go.Shelf

/-- Does no number stand above the next one, from place k on? -/
def SortedFrom (k : Nat) (l : List Int) : Prop := ∀ (i : Nat) (x y : Int), k ≤ i → l[i]? = some x → l[i + 1]? = some y → x ≤ y
/-- n numbers that may be written lie at block g. -/
def Ints (W : World) (g n : Nat) : Prop := g < W.heap.size ∧ ∀ j, j < n → (∃ z, W.cell? ⟨g, j, none⟩ = some (.int .i64 z)) ∧ W.frozen? ⟨g, j, none⟩ = false
theorem Ints.below {W W' : World} {g n : Nat} (h : Ints W g n) (hb : Below W.heap.size W W') : Ints W' g n :=
  ⟨Nat.lt_of_lt_of_le h.1 hb.size, fun j hj => by
    obtain ⟨⟨z, h1⟩, h2⟩ := h.2 j hj
    exact ⟨⟨z, (hb.cell (p := ⟨g, j, none⟩) h.1).trans h1⟩, (hb.frozen (p := ⟨g, j, none⟩) h.1).trans h2⟩⟩
theorem Ints.set {W : World} {g n m : Nat} {x : Int} (h : Ints W g n) : Ints (W.setCell ⟨g, m, none⟩ (.int .i64 x)) g n :=
  ⟨by simpa [World.setCell] using h.1, fun j hj => by
    obtain ⟨⟨z, h1⟩, h2⟩ := h.2 j hj
    refine ⟨?_, by rw [World.frozen?_setCell]; exact h2⟩
    by_cases e : m = j
    · subst e; exact ⟨x, World.cell?_setCell_same' _ _ _ (by rw [h1]; rfl)⟩
    · exact ⟨z, (World.cell?_setCell_other _ _ _ _ (by intro e2; cases e2; exact e rfl)).trans h1⟩⟩
def Shorter (B n : Nat) (w : World) (e : Ending) (w' : World) : Prop := ∃ A m c, e = .returned (.slice A m c) ∧ m < n ∧ Below B w w'
end Go.Proofs.YtgmflnfdmcphnaaGreat.P7

/-
  Layer 7: the law RunsClipped holds of every input. Conditions: those of the law's row.
-/
namespace Go.Proofs.YtgmflnfdmcphnaaGreat.P7
open Go.RowKit Go.Shelf

theorem below_iff : ∀ {l : List Int} {k : Nat} {t a : Int}, l.Pairwise (· < ·) → l[k]? = some t → (t < a ↔ k < belowN l a)
  | [], k, t, a, _, h => by simp at h
  | x :: l, k, t, a, hp, h => by
    obtain ⟨h1, h2⟩ := List.pairwise_cons.1 hp
    by_cases g : x < a
    · have e : belowN (x :: l) a = belowN l a + 1 := by unfold belowN; rw [List.filter_cons, if_pos (by simpa using g)]; rfl
      cases k with
      | zero => simp at h; subst h; rw [e]; exact ⟨fun _ => Nat.succ_pos _, fun _ => g⟩
      | succ k => rw [e]; have := below_iff (a := a) h2 (by simpa using h); omega
    · have e : belowN (x :: l) a = 0 := by
        unfold belowN
        rw [List.length_eq_zero_iff, List.filter_eq_nil_iff]
        intro y hy
        rcases List.mem_cons.1 hy with rfl | hy
        · simpa using g
        · have := h1 y hy
          simp; omega
      rw [e]
      have hx : x ≤ t := by
        rcases List.mem_cons.1 (List.mem_of_getElem? h) with rfl | ht
        · exact Int.le_refl _
        · have := h1 t ht; omega
      omega
theorem upto_iff : ∀ {l : List Int} {k : Nat} {t b : Int}, l.Pairwise (· < ·) → l[k]? = some t → (t ≤ b ↔ k < uptoN l b)
  | [], k, t, a, _, h => by simp at h
  | x :: l, k, t, b, hp, h => by
    obtain ⟨h1, h2⟩ := List.pairwise_cons.1 hp
    by_cases g : x ≤ b
    · have e : uptoN (x :: l) b = uptoN l b + 1 := by unfold uptoN; rw [List.filter_cons, if_pos (by simpa using g)]; rfl
      cases k with
      | zero => simp at h; subst h; rw [e]; exact ⟨fun _ => Nat.succ_pos _, fun _ => g⟩
      | succ k => rw [e]; have := upto_iff (b := b) h2 (by simpa using h); omega
    · have e : uptoN (x :: l) b = 0 := by
        unfold uptoN
        rw [List.length_eq_zero_iff, List.filter_eq_nil_iff]
        intro y hy
        rcases List.mem_cons.1 hy with rfl | hy
        · simpa using g
        · have := h1 y hy
          simp; omega
      rw [e]
      have hx : x ≤ t := by
        rcases List.mem_cons.1 (List.mem_of_getElem? h) with rfl | ht
        · exact Int.le_refl _
        · have := h1 t ht; omega
      omega
theorem take_len {α : Type} {l : List α} {n : Nat} : (l.take n).length ≤ n := by rw [List.length_take]; omega
end Go.Proofs.YtgmflnfdmcphnaaGreat.P7

/-
  Layer 7: rows of numbers that are copied; what an asked row tells. Conditions: those written at each fact.
-/
namespace Go.Proofs.YtgmflnfdmcphnaaGreat.P7
open Go.RowKit Go.Shelf

theorem reads_takeI {w : World} {A : Option Addr} {c : Nat} {l : List Int} (h : Reads .i64 w (.slice A l.length c) l) (m : Nat) (hm : m ≤ l.length) : Reads .i64 w (.slice A m c) (l.take m) := by
  obtain ⟨A', c', e, hc, hk⟩ := h
  cases e
  refine ⟨A, c, by rw [List.length_take, Nat.min_eq_left hm], by rw [List.length_take, Nat.min_eq_left hm]; omega, fun i r hi => hk i r ?_⟩
  rw [List.getElem?_take] at hi
  split at hi
  · exact hi
  · cases hi
theorem reads_addI {w : World} {ad : Addr} {n c : Nat} {l : List Int} (h : Reads .i64 w (.slice (some ad) n c) l) (j : Nat) (u : Value) (hj : (l.map (Value.int .i64))[j]? = some u) : w.cell? (ad.add j) = some u := by
  obtain ⟨A', c', e, hc, hk⟩ := h
  cases e
  rw [List.getElem?_map] at hj
  cases hz : l[j]? with
  | none => rw [hz] at hj; cases hj
  | some z =>
    rw [hz] at hj
    obtain ⟨b, off, e1, _, e3⟩ := hk j z hz
    cases e1
    cases hj
    by_cases g0 : j = 0
    · subst g0; simpa [Addr.add] using e3
    · simpa [Addr.add, g0] using e3
theorem ints_one (l : List Int) : ∀ u ∈ l.map (Value.int .i64), u.oneCell' = true := by
  intro u hu; obtain ⟨x, _, rfl⟩ := List.mem_map.1 hu; rfl
/-- A copy: a row of the call's own. -/
def CopyI (w : World) (l : List Int) (e : Ending) (w' : World) : Prop := ∃ g cap, e = .returned (.slice (some ⟨g, 0, none⟩) l.length cap) ∧ Below w.heap.size w w' ∧ RowI w.heap.size l (.slice (some ⟨g, 0, none⟩) l.length cap) w'
theorem rowI_some {W : World} {B : Nat} {l : List Int} {v : Value} (h : RowI B l v W) (hne : l ≠ []) : ∃ g cap, v = .slice (some ⟨g, 0, none⟩) l.length cap ∧ l.length ≤ cap ∧ B ≤ g ∧ Ints W g l.length ∧ ∀ i x, l[i]? = some x → W.cell? ⟨g, i, none⟩ = some (.int .i64 x) := by
  obtain ⟨hl, h⟩ := h
  rcases h with ⟨rfl, h0⟩ | ⟨g, cap, cur, rfl, hB, hg, hn, _, hs, ht⟩
  · exact absurd (List.eq_nil_of_length_eq_zero h0) hne
  · have hcell : ∀ i x, l[i]? = some x → W.cell? ⟨g, i, none⟩ = some (.int .i64 x) := fun i z hi => by
      have hi' : i < l.length := (List.getElem?_eq_some_iff.1 hi).1
      have e : cur[i]? = some (.int .i64 z) := by
        have e1 : (cur.toList.take (l.length * 1))[i]? = (l.map (Value.int .i64))[i]? := by rw [ht]
        rw [List.getElem?_take, if_pos (by omega), List.getElem?_map, hi] at e1
        simpa using e1
      simp [World.cell?, hg, e]
    refine ⟨g, cap, rfl, hn, hB, ⟨(Array.getElem?_eq_some_iff.1 hg).1, fun j hj => ⟨⟨l[j], hcell j _ (List.getElem?_eq_getElem hj)⟩, by simp [World.frozen?, hg]⟩⟩, hcell⟩
set_option maxRecDepth 100000 in
set_option maxHeartbeats 1000000 in
theorem cloneI (l : List Int) (hl : l.length ≤ 1000000) (hne : l ≠ []) (ad : Addr) (c : Nat) (w : World) (h : Reads .i64 w (.slice (some ad) l.length c) l) : Calls Tryz.prog 89 #[.slice (some ad) l.length c] w (CopyI w l) := by
  obtain ⟨i0, hi, hz0, hz1, hz2⟩ := info_parts infoI64
  have HH := Lib.hid h
  have HN := Lib.hid hne
  clear h hne
  have q : ∀ (w : World) (a : Option Addr) (n c n' c' : Nat), (binOp .eql 25 (.slice a n c) (.slice none n' c')).run Tryz.prog w = .ok (.bool a.isNone) w := fun w a n c n' c' => Lib.run_eql_slice_nil w _ _ a n c n' c' Tryz.underlying25
  go_enter Tryz.func89, Tryz.ntmps89
  go_wp2_with (at_builtin; refine wpList_append_own _ rfl _ _ 25 rfl w.heap.size 2 i0 (.int .i64 0) 1 8 Tryz.underlying25 hi hz0 hz1 hz2 rfl (by decide) _ _ _ rfl (World.ownsRow_made w #[] 0 (Nat.le_refl _) (Nat.zero_le _) rfl) ad l.length c (l.map (Value.int .i64)) rfl ?qc1 ?qc2 ?qc3 ?qc4 ?qc5 ?qc6 ?_)
  case qc1 => simp
  case qc2 => exact reads_addI (HH.out.below (below_alloc w _))
  case qc3 => exact ints_one l
  case qc4 => unfold maxLen; omega
  case qc5 => omega
  case qc6 => simp
  intro v' w1 hown hgrow _
  have ho : RowI w.heap.size l v' w1 := by simpa [RowI] using hown
  obtain ⟨g, cap, e, _⟩ := rowI_some ho HN.out
  have HO := Lib.hid ho
  have hB : Below w.heap.size w w1 := ((Below.refl _ w).alloc (Nat.le_refl _) _).grown hgrow (by simp) (by intro k hk; simp [Value.ownBlock] at hk; omega)
  subst e
  clear HH q hown hgrow ho
  go_wp2_with fail
  go_ret
  exact ⟨g, cap, rfl, hB, HO.out⟩
theorem find_at : ∀ {l : List Int} {k i : Nat} {t : Int}, l.Pairwise (· < ·) → l[i]? = some t → findF k l t = some (k + i)
  | [], _, _, _, _, h => by simp at h
  | x :: l, k, 0, t, _, h => by
    simp at h; subst h
    rw [findF, if_pos rfl]; rfl
  | x :: l, k, i + 1, t, hp, h => by
    obtain ⟨h1, h2⟩ := List.pairwise_cons.1 hp
    have hx := h1 t (List.mem_of_getElem? (by simpa using h))
    rw [findF, if_neg (by omega), if_neg (by omega), find_at (k := k + 1) h2 (by simpa using h)]
    congr 1
    omega
/-- What stands first in its way, where numbers are no times. -/
theorem not_are {l : List Int} (h : areB l = false) (h1 : 1 ≤ l.length) (h2 : l.length ≤ 256) {x y : Int} (hx : l[0]? = some x) (hy : l[l.length - 1]? = some y) (h3 : 0 ≤ x) (h4 : y ≤ 281474976710656) (hs : SortedFrom 0 l) : ∃ i z, l[i]? = some z ∧ l[i + 1]? = some z := by
  by_cases hd : ∃ i z, l[i]? = some z ∧ l[i + 1]? = some z
  · exact hd
  · exfalso
    have hlt : ∀ (d i : Nat) (a b : Int), l[i]? = some a → l[i + d + 1]? = some b → a < b := by
      intro d
      induction d with
      | zero =>
        intro i a b ha hb
        have := hs i a b (Nat.zero_le _) ha hb
        by_cases e : a = b
        · subst e; exact absurd ⟨i, a, ha, hb⟩ hd
        · omega
      | succ d ih =>
        intro i a b ha hb
        have hl := (List.getElem?_eq_some_iff.1 hb).1
        obtain ⟨c, hc⟩ : ∃ c, l[i + d + 1]? = some c := ⟨_, List.getElem?_eq_getElem (by omega)⟩
        have h5 := ih i a c ha hc
        have h6 := hs (i + d + 1) c b (Nat.zero_le _) hc (by rw [← hb]; congr 1)
        omega
    have hlt2 : ∀ (i j : Nat) (a b : Int), i < j → l[i]? = some a → l[j]? = some b → a < b := fun i j a b hij ha hb =>
      hlt (j - i - 1) i a b ha (by rw [← hb]; congr 1; omega)
    have hU : Up l := by
      refine ⟨fun t ht => ?_, List.pairwise_iff_getElem.2 (fun i j hi hj hij => hlt2 i j _ _ hij (List.getElem?_eq_getElem hi) (List.getElem?_eq_getElem hj))⟩
      obtain ⟨i, hi⟩ := List.mem_iff_getElem?.1 ht
      have hil := (List.getElem?_eq_some_iff.1 hi).1
      constructor
      · by_cases e : i = 0
        · subst e; rw [hx] at hi; cases hi; exact h3
        · have := hlt2 0 i x t (by omega) hx hi; omega
      · by_cases e : i = l.length - 1
        · subst e; rw [hy] at hi; cases hi; exact h4
        · have := hlt2 i (l.length - 1) t y (by omega) hi hy; omega
    have := (areB_iff l).2 ⟨h1, h2, hU⟩
    rw [h] at this
    cases this
end Go.Proofs.YtgmflnfdmcphnaaGreat.P7
