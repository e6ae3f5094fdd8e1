/-
  The document's own answers, seventh part: two sizes, multiplied. Conditions: those written at each fact.
-/
import Derived.Test.YtinppckjolkhpaaRefF
import Derived.Laws.AppendOwnNone
namespace Go.Proofs.Ytinppckjolkhpaa
open Go.RowKit

theorem valB_size (x : Nat) : valB (sizeL x) = x := by
  induction x using Nat.strongRecOn with
  | _ x ih =>
    by_cases g : x = 0
    · subst g; rw [sizeL_zero]; rfl
    · rw [sizeL_pos g, valB, ih (x / 2) (by omega)]
      omega
theorem size_digits (x : Nat) : ∀ d ∈ sizeL x, d = 0 ∨ d = 1 := by
  induction x using Nat.strongRecOn with
  | _ x ih =>
    by_cases g : x = 0
    · subst g; rw [sizeL_zero]; simp
    · rw [sizeL_pos g]
      intro d hd
      rcases List.mem_cons.1 hd with e | e
      · omega
      · exact ih (x / 2) (by omega) d e
theorem own_new {w : World} {B : Nat} {t : TypeId} {x : Value} (hB : B ≤ w.heap.size) : (w.alloc (.cells #[x] t)).ownsRow B t 1 (.slice (some ⟨w.heap.size, 0, none⟩) 1 1) 1 [x] :=
  ⟨rfl, Or.inr ⟨w.heap.size, 1, #[x], rfl, hB, heap_alloc_new w _, Nat.le_refl _, by unfold maxLen; omega, rfl, rfl⟩⟩
theorem num_cells {w : World} {ad : Addr} {n c x : Nat} (h : Num w (.slice (some ad) n c) x) : n = (sizeL x).length ∧ ∀ (j : Nat) (u : Value), ((sizeL x).map (Value.int .i64))[j]? = some u → w.cell? (ad.add j) = some u := by
  obtain ⟨A, c', e, _, hk⟩ := h
  injection e with e1 e2 e3
  subst e1 e2 e3
  refine ⟨rfl, fun j u hu => ?_⟩
  have hj : j < (sizeL x).length := by
    rcases Nat.lt_or_ge j (sizeL x).length with g | g
    · exact g
    · rw [List.getElem?_eq_none (by simpa using g)] at hu; cases hu
  obtain ⟨b, off, e1, _, e3⟩ := hk j hj
  injection e1 with e1
  subst e1
  rw [List.getElem?_map, bit_at j x hj] at hu
  injection hu with hu
  have e : (⟨b, off, none⟩ : Addr).add j = ⟨b, off + j, none⟩ := by unfold Addr.add; split <;> simp_all
  rw [e, e3, ← hu]
theorem ints_one {l : List Int} : ∀ u ∈ l.map (Value.int .i64), u.oneCell' = true := by
  intro u hu
  obtain ⟨z, _, rfl⟩ := List.mem_map.1 hu
  rfl
theorem num_nil {w : World} {v : Value} {x : Nat} (h : Num w v x) : v = .slice none 0 0 ∧ sizeL x = [] ∨ ∃ ad n c, v = .slice (some ad) n c := by
  obtain ⟨A, c, rfl, hc, hk⟩ := h
  cases A with
  | none =>
    have hl : (sizeL x).length = 0 := by
      rcases Nat.eq_zero_or_pos (sizeL x).length with e | e
      · exact e
      · obtain ⟨_, _, e1, _⟩ := hk 0 e
        cases e1
    rw [hc.2 rfl, hl]
    exact Or.inl ⟨rfl, List.eq_nil_of_length_eq_zero hl⟩
  | some ad => exact Or.inr ⟨ad, _, c, rfl⟩
theorem times_step (x y s : Nat) : 2 * (y / 2 ^ (s + 1) * x) + y / 2 ^ s % 2 * x = y / 2 ^ s * x := by
  rw [pow_half]
  generalize y / 2 ^ s = Y
  rw [← Nat.mul_assoc, ← Nat.add_mul]
  congr 1
  omega

set_option maxRecDepth 100000 in
set_option maxHeartbeats 3200000 in
theorem times_row (x y : Nat) (hxy : (sizeL x).length + (sizeL y).length ≤ 4000) (v v' : Value) (w : World) (h : Num w v x) (h' : Num w v' y) :
    Calls Try.prog 51 #[v, v'] w (Gave w (x * y)) := by
  have HX := h
  obtain ⟨B, cb, rfl, hcb, HB⟩ := h'
  obtain ⟨A, ca, rfl, hca, HA⟩ := h
  have bound : ∀ s, (sizeL (y / 2 ^ s * x)).length ≤ 4000 := fun s => by
    have a1 : y / 2 ^ s ≤ y := Nat.div_le_self _ _
    have a2 := size_mono (Nat.mul_le_mul_right x a1)
    have a3 := size_mul y x
    omega
  have bound2 : ∀ s, (sizeL (2 * (y / 2 ^ (s + 1) * x))).length ≤ 4000 := fun s => by
    have a2 := size_mono (show 2 * (y / 2 ^ (s + 1) * x) ≤ y / 2 ^ s * x by rw [← times_step x y s]; exact Nat.le_add_right _ _)
    have a3 := bound s
    omega
  have LB : (sizeL y).length ≤ 4000 := by omega
  have PLX := Lib.hid (fun (z : Nat) (hz : (sizeL z).length ≤ 4000) (u u' : Value) (W : World) (k : Num W u z) (k' : Num W u' x) => plusN_any z x hz (show (sizeL x).length ≤ 4000 by omega) u u' W k k')
  have ty := top_zero y
  generalize (sizeL y).length = lb at *
  replace HB := Lib.hid HB
  replace HX := Lib.hid HX
  have HW := Lib.hid bound
  have HW2 := Lib.hid bound2
  have HT := Lib.hid ty
  clear hxy bound bound2 ty HA hca
  generalize (sizeL x).length = la at *
  obtain ⟨i0, hi, hz0, hz1, hz2⟩ := info_parts infoInt
  go_enter Try.func51, Try.ntmps51
  go_wp2_with fail
  go_loopw [5, 6] (fun v i wr => ∃ (s : Nat) (j : Int), i = .int .i64 j ∧ j = (s : Int) - 1 ∧ s ≤ lb ∧ Hid (Num wr v (y / 2 ^ s * x)) ∧ Below w.heap.size w wr) (fun _ i _ => (intOf i + 1).toNat)
  case atStart => exact ⟨lb, _, rfl, by omega, Nat.le_refl _, Lib.hid (by rw [HT.out, Nat.zero_mul]; exact ⟨none, 0, by rw [sizeL_zero]; rfl, ⟨by rw [sizeL_zero]; simp, fun _ => rfl⟩, fun k hk => by rw [sizeL_zero] at hk; simp at hk⟩), Below.refl _ _⟩
  case round =>
    obtain ⟨s, j, rfl, hj, hs, hN, hnx⟩ := hrel
    cases s with
    | zero =>
      have gj : ¬ (0 : Int) ≤ j := by omega
      clear hj
      have R := hN.out
      rw [Nat.pow_zero, Nat.div_one, Nat.mul_comm] at R
      have R := Lib.hid R
      clear hN
      go_wp2_with fail
      go_ret
      exact ⟨_, rfl, hnx, R.out⟩
    | succ s =>
      obtain rfl : j = (s : Int) := by omega
      have ST := Lib.hid (times_step x y s)
      have BX := Lib.hid (HW2.out s)
      have LX := HW.out (s + 1)
      generalize y / 2 ^ (s + 1) * x = X at *
      have ga : s < lb := by omega
      obtain ⟨b, off, rfl, hbw, hcell⟩ := HB.out s ga
      have r1 := bit_range y s
      have pp : bitI y s = 0 ∨ bitI y s = 1 := by omega
      have eb : ((y / 2 ^ s % 2 : Nat) : Int) = bitI y s := rfl
      have E0 : Hid (bitI y s = 0 → 2 * X = y / 2 ^ s * x) := Lib.hid fun g => by
        have := ST.out
        rw [show y / 2 ^ s % 2 = 0 by omega, Nat.zero_mul] at this
        exact this
      have E1 : Hid (bitI y s = 1 → 2 * X + x = y / 2 ^ s * x) := Lib.hid fun g => by
        have := ST.out
        rw [show y / 2 ^ s % 2 = 1 by omega, Nat.one_mul] at this
        exact this
      have DG := Lib.hid (size_digits X)
      have VB := Lib.hid (valB_size X)
      clear r1 eb ST hj
      generalize bitI y s = p at *
      rcases num_nil hN.out with ⟨rfl, e0⟩ | ⟨ad, n, c, rfl⟩
      · have x0 : X = 0 := sizeL_nil e0
        have TR := Lib.hid (trim_any [0] (by simp) _ _ (rowL_of_own (l := [0]) (own_new (x := .int .i64 0) (t := 3) hnx.size)) (by simp))
        rw [show valB [0] = 2 * X by rw [x0]; rfl] at TR
        have hB1 := below_thru hnx (below_alloc wr (.cells #[.int .i64 0] 3))
        have OW := Lib.hid (own_new (w := wr) (B := w.heap.size) (x := .int .i64 0) (t := 3) hnx.size)
        clear hN hnx x0 e0 DG VB
        rcases pp with rfl | rfl
        · skip
          go_wp2_with (at_builtin; refine wpList_append_own_none rfl _ _ 41 rfl w.heap.size 3 i0 1 Try.underlying41 hi _ 1 [.int .i64 0] rfl OW.out rfl ?_)
          refine TR.out.mono ?_
          rintro e w2 ⟨v2, rfl, hb2, hnum2⟩
          have hB2 := below_thru hB1 hb2
          have hc2 := (hB2.cell (p := ⟨b, off + s, none⟩) (by exact hbw)).trans hcell
          clear hB1 hb2 hcell TR
          have R := Lib.hid (E0.out (by trivial) ▸ hnum2)
          clear hnum2
          go_wp2_with fail
          go_roundw
          case rel => exact ⟨s, _, rfl, by simp, by omega, R, hB2⟩
          case measure => simp [intOf]
        · skip
          go_wp2_with (at_builtin; refine wpList_append_own_none rfl _ _ 41 rfl w.heap.size 3 i0 1 Try.underlying41 hi _ 1 [.int .i64 0] rfl OW.out rfl ?_)
          refine TR.out.mono ?_
          rintro e w2 ⟨v2, rfl, hb2, hnum2⟩
          have hB2 := below_thru hB1 hb2
          have hc2 := (hB2.cell (p := ⟨b, off + s, none⟩) (by exact hbw)).trans hcell
          clear hB1 hb2 hcell TR
          have PL := Lib.hid (PLX.out (2 * X) BX.out v2 _ w2 hnum2 (HX.out.below hB2))
          clear hnum2
          go_wp2_with fail
          refine PL.out.mono ?_
          rintro e w3 ⟨v3, rfl, hb3, hown3⟩
          have R := Lib.hid (E1.out (by trivial) ▸ num_of_own hown3)
          have hB3 := below_thru hB2 hb3
          clear hown3 hb3 PL hc2 hB2
          go_wp2_with fail
          go_roundw
          case rel => exact ⟨s, _, rfl, by simp, by omega, R, hB3⟩
          case measure => simp [intOf]
      · obtain ⟨hn, hcells⟩ := num_cells (hN.out.below (below_alloc wr (.cells #[.int .i64 0] 3)))
        subst hn
        have OW := Lib.hid (own_new (w := wr) (B := w.heap.size) (x := .int .i64 0) (t := 3) hnx.size)
        have HC := Lib.hid hcells
        clear hN hcells
        rcases pp with rfl | rfl
        · skip
          go_wp2_with (at_builtin; refine wpList_append_own _ rfl _ _ 41 rfl w.heap.size 3 i0 (.int .i64 0) 1 8 Try.underlying41 hi hz0 hz1 hz2 rfl (by decide) _ 1 [.int .i64 0] rfl OW.out ad _ c ((sizeL X).map (Value.int .i64)) rfl (by simp) HC.out ints_one ?c3 ?c4 ?c5 ?_)
          case c3 => unfold maxLen; omega
          case c4 => omega
          case c5 => have := hnx.size; simp; omega
          intro v1 w1 hown' hgrow _
          have TR := Lib.hid (trim_any (0 :: sizeL X) (fun d hd => (List.mem_cons.1 hd).elim Or.inl (DG.out d)) v1 w1 (rowL_of_own (B := w.heap.size) (by simpa [Nat.add_comm] using hown')) (by simp; omega))
          rw [show valB (0 :: sizeL X) = 2 * X by rw [valB, VB.out]; simp] at TR
          have hB1 : Below w.heap.size w w1 := (below_thru hnx (below_alloc wr (.cells #[.int .i64 0] 3))).grown hgrow (by have := hnx.size; simp; omega) (fun g hg => by have := (OW.out.lt g hg).1; omega)
          clear hown' hgrow hnx
          go_wp2_with fail
          refine TR.out.mono ?_
          rintro e w2 ⟨v2, rfl, hb2, hnum2⟩
          have hB2 := below_thru hB1 hb2
          have hc2 := (hB2.cell (p := ⟨b, off + s, none⟩) (by exact hbw)).trans hcell
          clear hB1 hb2 hcell TR
          have R := Lib.hid (E0.out (by trivial) ▸ hnum2)
          clear hnum2
          go_wp2_with fail
          go_roundw
          case rel => exact ⟨s, _, rfl, by simp, by omega, R, hB2⟩
          case measure => simp [intOf]
        · skip
          go_wp2_with (at_builtin; refine wpList_append_own _ rfl _ _ 41 rfl w.heap.size 3 i0 (.int .i64 0) 1 8 Try.underlying41 hi hz0 hz1 hz2 rfl (by decide) _ 1 [.int .i64 0] rfl OW.out ad _ c ((sizeL X).map (Value.int .i64)) rfl (by simp) HC.out ints_one ?c3 ?c4 ?c5 ?_)
          case c3 => unfold maxLen; omega
          case c4 => omega
          case c5 => have := hnx.size; simp; omega
          intro v1 w1 hown' hgrow _
          have TR := Lib.hid (trim_any (0 :: sizeL X) (fun d hd => (List.mem_cons.1 hd).elim Or.inl (DG.out d)) v1 w1 (rowL_of_own (B := w.heap.size) (by simpa [Nat.add_comm] using hown')) (by simp; omega))
          rw [show valB (0 :: sizeL X) = 2 * X by rw [valB, VB.out]; simp] at TR
          have hB1 : Below w.heap.size w w1 := (below_thru hnx (below_alloc wr (.cells #[.int .i64 0] 3))).grown hgrow (by have := hnx.size; simp; omega) (fun g hg => by have := (OW.out.lt g hg).1; omega)
          clear hown' hgrow hnx
          go_wp2_with fail
          refine TR.out.mono ?_
          rintro e w2 ⟨v2, rfl, hb2, hnum2⟩
          have hB2 := below_thru hB1 hb2
          have hc2 := (hB2.cell (p := ⟨b, off + s, none⟩) (by exact hbw)).trans hcell
          clear hB1 hb2 hcell TR
          have PL := Lib.hid (PLX.out (2 * X) BX.out v2 _ w2 hnum2 (HX.out.below hB2))
          clear hnum2
          go_wp2_with fail
          refine PL.out.mono ?_
          rintro e w3 ⟨v3, rfl, hb3, hown3⟩
          have R := Lib.hid (E1.out (by trivial) ▸ num_of_own hown3)
          have hB3 := below_thru hB2 hb3
          clear hown3 hb3 PL hc2 hB2
          go_wp2_with fail
          go_roundw
          case rel => exact ⟨s, _, rfl, by simp, by omega, R, hB3⟩
          case measure => simp [intOf]
end Go.Proofs.Ytinppckjolkhpaa
