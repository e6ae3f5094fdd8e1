/-
  The document's own answers, tenth part: one digit ahead of a row; how often a size has another one, and what is left. Conditions: those written at each fact.
-/
import Derived.Test.YtmkminaipeodnaaRefI
namespace Go.Proofs.Ytmkminaipeodnaa
open Go.RowKit

theorem RowL.below {w w' : World} {v : Value} {l : List Int} (h : RowL w v l) (hb : Below w.heap.size w w') : RowL w' v l := by
  obtain ⟨A, c, e, hc, hk⟩ := h
  refine ⟨A, c, e, hc, fun k hl => ?_⟩
  obtain ⟨b, off, e1, e2, e3⟩ := hk k hl
  exact ⟨b, off, e1, Nat.lt_of_lt_of_le e2 hb.size, (hb.cell (by exact e2)).trans e3⟩
theorem bitI_at {x k : Nat} (h : k < (sizeL x).length) : (sizeL x).getD k 0 = bitI x k := by
  rw [List.getD_eq_getElem?_getD, bit_at k x h]; rfl
/-- A number's row is a row. -/
theorem Num.row {w : World} {v : Value} {x : Nat} (h : Num w v x) : RowL w v (sizeL x) := by
  obtain ⟨A, c, e, hc, hk⟩ := h
  refine ⟨A, c, e, hc, fun k hl => ?_⟩
  obtain ⟨b, off, e1, e2, e3⟩ := hk k hl
  exact ⟨b, off, e1, e2, by rw [bitI_at hl]; exact e3⟩
theorem rowL_nil {w : World} : RowL w (.slice none 0 0) [] := ⟨none, 0, rfl, ⟨Nat.le_refl _, fun _ => rfl⟩, fun k hk => by simp at hk⟩
theorem rowL_num {w : World} {v : Value} {x : Nat} (h : RowL w v (sizeL x)) : Num w v x := by
  obtain ⟨A, c, e, hc, hk⟩ := h
  refine ⟨A, c, e, hc, fun k hl => ?_⟩
  obtain ⟨b, off, e1, e2, e3⟩ := hk k hl
  exact ⟨b, off, e1, e2, by rw [bitI_at hl] at e3; exact e3⟩
theorem num_zero {w : World} : Num w (.slice none 0 0) 0 := rowL_num (by rw [sizeL_zero]; exact rowL_nil)

set_option maxRecDepth 100000 in
/-- One digit ahead of a row: append([]int{d}, row...). -/
theorem wpList_front {ops : Array Oper} {rest : List Oper} {o : Oper} {a : Act} {Q : Exit → Act → World → Prop} {wr : World} (hgd : o.guard = none) (s x : Operand)
    (ho : o.op = .call { callee := .builtin .append, args := #[s, x], argTypes := #[43, 43] }) (d : Int) (hs : a.eval s = .slice (some ⟨wr.heap.size, 0, none⟩) 1 1) (v : Value) (hx : a.eval x = v) (l : List Int) (hr : RowL wr v l) (hl : l.length ≤ 9000)
    (h : ∀ v' w', Below wr.heap.size wr w' → w'.ownsRow wr.heap.size 3 1 v' (d :: l).length ((d :: l).map (Value.int .i64)) → wpList Try.prog ops Q rest (a.put o.dst v') w') :
    wpList Try.prog ops Q (o :: rest) a (wr.alloc (.cells #[.int .i64 d] 3)) := by
  obtain ⟨i0, hi, hz0, hz1, hz2⟩ := info_parts infoInt
  have OW := own_new (w := wr) (B := wr.heap.size) (x := .int .i64 d) (t := 3) (Nat.le_refl _)
  have hr' := hr.below (below_alloc wr (.cells #[.int .i64 d] 3))
  obtain ⟨A, c, rfl, hc, hk⟩ := hr'
  cases A with
  | none =>
    have hl0 : l = [] := by
      rcases l with _ | ⟨e, l⟩
      · rfl
      · obtain ⟨_, _, e1, _⟩ := hk 0 (by simp)
        cases e1
    subst hl0
    have hc0 := hc.2 rfl
    subst hc0
    exact wpList_append_own_none hgd s x 43 ho wr.heap.size 3 i0 1 Try.underlying43 hi _ 1 [.int .i64 d] hs OW hx (h _ _ (below_alloc wr _) OW)
  | some ad =>
    refine wpList_append_own _ hgd s x 43 ho wr.heap.size 3 i0 (.int .i64 0) 1 8 Try.underlying43 hi hz0 hz1 hz2 rfl (by decide) _ 1 [.int .i64 d] hs OW ad _ c (l.map (Value.int .i64)) hx (by simp) ?_ ints_one (by unfold maxLen; omega) (by omega) (by simp) ?_
    · intro j u hu
      have hj : j < l.length := by
        rcases Nat.lt_or_ge j l.length with g | g
        · exact g
        · rw [List.getElem?_eq_none (by simpa using g)] at hu; cases hu
      obtain ⟨b, off, e1, _, e3⟩ := hk j hj
      injection e1 with e1
      subst e1
      rw [List.getElem?_map, List.getElem?_eq_getElem hj] at hu
      injection hu with hu
      have e : (⟨b, off, none⟩ : Addr).add j = ⟨b, off + j, none⟩ := by unfold Addr.add; split <;> simp_all
      rw [e, e3, ← hu, List.getD_eq_getElem?_getD, List.getElem?_eq_getElem hj]
      rfl
    · intro v' w' hown hgrow _
      refine h v' w' ((below_alloc wr (.cells #[.int .i64 d] 3)).grown hgrow (by simp) (fun g hg => (OW.lt g hg).1)) ?_
      simpa [Nat.add_comm] using hown

theorem digits_front {d : Int} {l : List Int} (hd : d = 0 ∨ d = 1) (h : ∀ e ∈ l, e = 0 ∨ e = 1) : ∀ e ∈ d :: l, e = 0 ∨ e = 1 := fun e he => (List.mem_cons.1 he).elim (fun q => q ▸ hd) (h e)
/-- One digit more of the quotient. -/
theorem parts_step {X y p : Nat} (hy : 0 < y) : 2 * (X % y) + p < 2 * y → (2 * X + p) / y = 2 * (X / y) + (if 2 * (X % y) + p < y then 0 else 1) ∧ (2 * X + p) % y = if 2 * (X % y) + p < y then 2 * (X % y) + p else 2 * (X % y) + p - y := by
  intro h
  have dm := Nat.div_add_mod X y
  have hr := Nat.mod_lt X hy
  generalize X / y = q at *
  generalize X % y = r at *
  subst dm
  split
  · have e : 2 * (y * q + r) + p = (2 * r + p) + y * (2 * q) := by rw [Nat.mul_add, Nat.mul_left_comm]; omega
    rw [e, Nat.add_mul_div_left _ _ hy, Nat.add_mul_mod_self_left, Nat.div_eq_of_lt (by assumption), Nat.mod_eq_of_lt (by assumption)]
    exact ⟨by omega, rfl⟩
  · have e : 2 * (y * q + r) + p = (2 * r + p - y) + y * (2 * q + 1) := by rw [Nat.mul_add, Nat.mul_left_comm, Nat.mul_add, Nat.mul_one]; omega
    rw [e, Nat.add_mul_div_left _ _ hy, Nat.add_mul_mod_self_left, Nat.div_eq_of_lt (by omega), Nat.mod_eq_of_lt (by omega)]
    exact ⟨by omega, rfl⟩

/-- What parts hands back. -/
def GaveP (w : World) (q r : Nat) (e : Ending) (w' : World) : Prop := ∃ u v, e = .returned (.tuple #[u, v]) ∧ Below w.heap.size w w' ∧ Num w' u q ∧ Num w' v r
def PartsRel (w : World) (x y la : Nat) (q r i : Value) (wr : World) : Prop :=
  ∃ (s : Nat) (j : Int) (l : List Int), i = .int .i64 j ∧ j = (s : Int) - 1 ∧ s ≤ la ∧ RowL wr q l ∧ (∀ d ∈ l, d = 0 ∨ d = 1) ∧ l.length + s = la ∧ valB l = x / 2 ^ s / y ∧ Num wr r (x / 2 ^ s % y) ∧ Below w.heap.size w wr
set_option maxRecDepth 100000 in
set_option maxHeartbeats 3200000 in
theorem parts_any (x y : Nat) (hy0 : 0 < y) (hx : (sizeL x).length ≤ 3990) (hy : (sizeL y).length ≤ 3990) (v v' : Value) (w : World) (h : Num w v x) (h' : Num w v' y) :
    Calls Try.prog 53 #[v, v'] w (GaveP w (x / y) (x % y)) := by
  have HX := Lib.hid h
  have HY := Lib.hid h'
  have ty := Lib.hid (top_zero x)
  obtain ⟨A, ca, rfl, hca, HA⟩ := h
  have HA := Lib.hid HA
  have RB : Hid (∀ z, z < 2 * y → (sizeL z).length ≤ 3991) := Lib.hid fun z hz => by
    have a1 := size_mono (show z ≤ y + y by omega)
    have a2 := size_add y y
    omega
  have LS := Lib.hid (fun z (hz : z < 2 * y) u W (k : Num W u z) (hb : Below w.heap.size w W) => less_any z y (by have := RB.out z hz; omega) (by omega) u v' W k (HY.out.below hb))
  have MN := Lib.hid (fun z (hz : z < 2 * y) (hle : y ≤ z) u W (k : Num W u z) (hb : Below w.heap.size w W) => minus_any z y (by have := RB.out z hz; omega) hle u v' W k (HY.out.below hb))
  have HY0 := Lib.hid hy0
  clear hca h' hy hy0
  generalize (sizeL x).length = la at *
  go_enter Try.func53, Try.ntmps53
  go_wp2_with fail
  go_loopw [6, 7, 8] (fun q r i wr => PartsRel w x y la q r i wr) (fun _ _ i _ => (intOf i + 1).toNat)
  case atStart => exact ⟨la, _, [], rfl, by omega, Nat.le_refl _, rowL_nil, by simp, by simp, by rw [ty.out, Nat.zero_div]; rfl, by rw [ty.out, Nat.zero_mod]; exact num_zero, Below.refl _ _⟩
  case round =>
    obtain ⟨s, j, l, rfl, hj, hs, hq, hd, hll, hv, hr, hb⟩ := hrel
    replace hq := Lib.hid hq
    replace hd := Lib.hid hd
    replace hv := Lib.hid hv
    replace hr := Lib.hid hr
    replace hb := Lib.hid hb
    replace hll := Lib.hid hll
    cases s with
    | zero =>
      have gj : ¬ (0 : Int) ≤ j := by omega
      clear hj
      have T := Lib.hid (trim_any l hd.out _ wr hq.out (by have := hll.out; omega))
      rw [hv.out, Nat.pow_zero, Nat.div_one] at T
      have R0 := hr.out
      rw [Nat.pow_zero, Nat.div_one] at R0
      replace R0 := Lib.hid R0
      go_wp2_with fail
      refine T.out.mono ?_
      rintro e w2 ⟨v2, rfl, hb2, hn2⟩
      replace hb2 := Lib.hid hb2
      replace hn2 := Lib.hid hn2
      go_wp2_with fail
      go_ret2
      exact ⟨_, _, rfl, below_thru hb.out hb2.out, hn2.out, R0.out.below hb2.out⟩
    | succ s =>
      obtain rfl : j = (s : Int) := by omega
      have ga : s < la := by omega
      obtain ⟨b, off, rfl, hbw, hcell⟩ := HA.out s ga
      have hcw := (hb.out.cell (p := ⟨b, off + s, none⟩) hbw).trans hcell
      have hP2 : x / 2 ^ s % 2 < 2 := Nat.mod_lt _ (by decide)
      have hX : x / 2 ^ s = 2 * (x / 2 ^ (s + 1)) + x / 2 ^ s % 2 := by rw [pow_half]; omega
      have hbit : bitI x s = ((x / 2 ^ s % 2 : Nat) : Int) := rfl
      rw [hbit] at hcw hcell
      clear hbit
      have PS := fun h => parts_step (X := x / 2 ^ (s + 1)) (p := x / 2 ^ s % 2) HY0.out h
      have hRlt : x / 2 ^ (s + 1) % y < y := Nat.mod_lt _ HY0.out
      rw [← hX] at PS
      replace hX := Lib.hid hX
      generalize x / 2 ^ s % 2 = P at *
      generalize x / 2 ^ (s + 1) = X at *
      generalize hRd : X % y = R at *
      obtain ⟨R', hR'⟩ : ∃ R', 2 * R + P = R' := ⟨_, rfl⟩
      rw [hR'] at PS
      have hR2 : R' < 2 * y := by omega
      obtain ⟨HQ, HM⟩ := PS hR2
      replace HQ := Lib.hid HQ
      replace HM := Lib.hid HM
      have DG : Hid (∀ d ∈ sizeL R, d = 0 ∨ d = 1) := Lib.hid (size_digits R)
      have VB : Hid (valB ((P : Int) :: sizeL R) = R') := Lib.hid (by rw [valB, valB_size]; simp; omega)
      replace hRd := Lib.hid hRd
      have hR' := Lib.hid hR'
      have LR : Hid ((sizeL R).length ≤ 3991) := Lib.hid (RB.out R (by omega))
      have hP01 : Hid ((P : Int) = 0 ∨ (P : Int) = 1) := Lib.hid (by omega)
      have hy1 : 0 < y := HY0.out
      clear hP2 hRlt PS hj hcell
      go_wp2_with (at_builtin; refine wpList_front rfl _ _ rfl (P : Int) rfl u7 rfl (sizeL R) hr.out.row (by have := LR.out; omega) ?_)
      intro v1 w1 hb1 hown1
      have T := Lib.hid (trim_any ((P : Int) :: sizeL R) (digits_front hP01.out DG.out) v1 w1 (rowL_of_own hown1) (by have := LR.out; simp; omega))
      rw [VB.out] at T
      clear hown1 hcw
      replace hb1 := Lib.hid hb1
      go_wp2_with fail
      refine T.out.mono ?_
      rintro e w2 ⟨v2, rfl, hb2, hn2⟩
      replace hb1 := hb1.out
      have hB2 := below_thru (below_thru hb.out hb1) hb2
      clear T
      by_cases g : R' < y
      · rw [if_pos g] at HQ HM
        have LT := Lib.hid (LS.out R' hR2 v2 w2 hn2 hB2)
        rw [decide_eq_true g] at LT
        have hq2 := Lib.hid (hq.out.below (below_thru hb1 hb2))
        replace hB2 := Lib.hid hB2
        replace hn2 := Lib.hid hn2
        clear hb1 hb2
        go_wp2_with fail
        refine LT.out.mono ?_
        rintro e w3 ⟨rfl, hb3⟩
        have hq3 := Lib.hid (hq2.out.below hb3)
        have hB3 := Lib.hid (below_thru hB2.out hb3)
        have hn3 := Lib.hid (hn2.out.below hb3)
        clear hb3 LT hq2 hB2 hn2
        go_wp2_with (at_builtin; refine wpList_front rfl _ _ rfl 0 rfl u6 rfl l hq3.out (by have := hll.out; omega) ?_)
        intro v5 w5 hb5 hown5
        have RQ := Lib.hid (rowL_of_own (l := 0 :: l) hown5)
        have RN := Lib.hid (hn3.out.below hb5)
        have hB5 := Lib.hid (below_thru hB3.out hb5)
        clear hb5 hown5 hq3 hB3 hn3
        go_wp2_with fail
        go_roundw
        case rel => exact ⟨s, _, _, rfl, by simp, by omega, RQ.out, digits_front (Or.inl rfl) hd.out, by have := hll.out; simp; omega, by rw [valB, hv.out, HQ.out]; simp, by have := RN.out; rw [HM.out]; exact this, hB5.out⟩
        case measure => simp [intOf]
      · rw [if_neg g] at HQ HM
        have LT := Lib.hid (LS.out R' hR2 v2 w2 hn2 hB2)
        rw [decide_eq_false g] at LT
        have MT := Lib.hid (fun W (hw : Below w2.heap.size w2 W) => MN.out R' hR2 (by omega) v2 W (hn2.below hw) (below_thru hB2 hw))
        have hq2 := Lib.hid (hq.out.below (below_thru hb1 hb2))
        replace hB2 := Lib.hid hB2
        clear hn2 hb1 hb2
        go_wp2_with fail
        refine LT.out.mono ?_
        rintro e w3 ⟨rfl, hb3⟩
        have MU := Lib.hid (MT.out w3 hb3)
        have hq3 := Lib.hid (hq2.out.below hb3)
        have hB3 := Lib.hid (below_thru hB2.out hb3)
        clear hb3 LT MT hq2 hB2
        go_wp2_with fail
        refine MU.out.mono ?_
        rintro e w4 ⟨v4, rfl, hb4, hn4⟩
        have hq4 := Lib.hid (hq3.out.below hb4)
        have hB4 := Lib.hid (below_thru hB3.out hb4)
        replace hn4 := Lib.hid hn4
        clear hb4 MU hq3 hB3
        go_wp2_with (at_builtin; refine wpList_front rfl _ _ rfl 1 rfl u6 rfl l hq4.out (by have := hll.out; omega) ?_)
        intro v5 w5 hb5 hown5
        have RQ := Lib.hid (rowL_of_own (l := 1 :: l) hown5)
        have RN := Lib.hid (hn4.out.below hb5)
        have hB5 := Lib.hid (below_thru hB4.out hb5)
        clear hb5 hown5 hq4 hB4 hn4
        go_wp2_with fail
        go_roundw
        case rel => exact ⟨s, _, _, rfl, by simp, by omega, RQ.out, digits_front (Or.inr rfl) hd.out, by have := hll.out; simp; omega, by rw [valB, hv.out, HQ.out]; simp; omega, by have := RN.out; rw [HM.out]; exact this, hB5.out⟩
        case measure => simp [intOf]
end Go.Proofs.Ytmkminaipeodnaa
