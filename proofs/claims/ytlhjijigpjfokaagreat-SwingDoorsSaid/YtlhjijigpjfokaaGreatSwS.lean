/-
  Layer 9: swing: Door. Conditions: those written at each fact.
-/
import Derived.Test.YtlhjijigpjfokaaGreatSwO
namespace Go.Proofs.YtlhjijigpjfokaaGreat.P9
open Go.RowKit Go.Shelf Go.Proofs.YtlhjijigpjfokaaGreat.P8

theorem fD_next {l : List Bd} {k : Nat} {b : Bd} (h : l[k]? = some b) (x : Dr) : fD x (l.take (k + 1)) = stepD (fD x (l.take k)) b := by
  rw [List.take_add_one, h]
  unfold fD
  rw [List.foldl_append]
  rfl
theorem run_field_agg {P : Program} (w : World) (t : TypeId) (fields : Array Field) (cs : Array Value) (i s : Nat) (f : Field) (vs : Array Value) (h : P.underlying t = some (.struct fields)) (hf : fields[i]? = some f) (ha : (isAgg f.type).run P w = .ok true w) (hs : (sizeOf f.type).run P w = .ok s w)
    (hv : cs.extract f.offset (f.offset + s) = vs) : (Instr.field t (.agg cs) i).run P w = .ok (.agg vs) w := by
  simp [Instr.field, run_underlying h, hf, asAgg, part, ha, hs, hv, go_sem]
theorem field_ends (x : Dr) (W : World) : (Instr.field 64 (drV x) 1).run Tryz.prog W = .ok (arV x.a x.b x.c x.d) W :=
  run_field_agg W _ _ _ 1 4 _ _ Tryz.underlying64 rfl (Tryz.isAgg60 W) (Tryz.sizeOf60 W) rfl
set_option maxRecDepth 100000 in
set_option maxHeartbeats 4000000 in
theorem doorOf_any (b0 : Bd) (l : List Bd) (hl : (b0 :: l).length ≤ 1000000) (hR : ∀ b ∈ b0 :: l, BdOk b) (v : Value) (w : World) (h : ReadsD w v (b0 :: l)) :
    Calls Tryz.prog 30 #[v] w (Ret w (drV (fD (open0 b0) (b0 :: l)))) := by
  have OP := Lib.hid (fun W (hb : Below w.heap.size w W) => opened_any b0 l (hR b0 (List.mem_cons_self ..)) v W (h.below hb))
  have HX0 := Lib.hid (open_ok (hR b0 (List.mem_cons_self ..)))
  generalize open0 b0 = x0 at *
  have hne : b0 :: l ≠ [] := by simp
  generalize b0 :: l = m at *
  have hr := h
  obtain ⟨A, c, rfl, hc, hk⟩ := h
  obtain ⟨bb, off, rfl⟩ := readsD_some hr hne
  have HK := Lib.hid hk
  have HR := Lib.hid hR
  have HT := Lib.hid (fun (T : Nat) (x : Dr) (b : Bd) (hx : DrOk x) (hb : BdOk b) (W : World) (hT : DrAt W T x) => take_any T x b hx hb W hT)
  clear hr hk hR
  go_enter Tryz.func30, Tryz.ntmps30
  go_wp2_with fail
  refine (OP.out _ (below_alloc w _)).mono ?_
  rintro en w1 ⟨rfl, hb1⟩
  have hHeld : Keeps w [(w.heap.size, 0, .int .i64 0), (w.heap.size, 1, .int .i64 0), (w.heap.size, 2, .int .i64 0), (w.heap.size, 3, .int .i64 0), (w.heap.size, 4, .int .i64 0), (w.heap.size, 5, .int .i64 0)] w1 := Keeps.next (by refine ⟨below_alloc w _, ?_⟩; simp [Cells, go_sem]) hb1
  have hz1 : w.heap.size < w1.heap.size := by have := hb1.size; simp at this; omega
  have HS0 := Lib.hid (hHeld.alloc (.cells #[.int .i64 x0.t, .int .i64 x0.v, .int .i64 x0.a, .int .i64 x0.b, .int .i64 x0.c, .int .i64 x0.d] 64))
  have HD0 : Hid (DrAt (w1.alloc (.cells #[.int .i64 x0.t, .int .i64 x0.v, .int .i64 x0.a, .int .i64 x0.b, .int .i64 x0.c, .int .i64 x0.d] 64)) w1.heap.size (fD x0 (m.take 0))) := Lib.hid (by
    rw [List.take_zero]
    show DrAt _ _ x0
    simp [Cells, go_sem])
  clear hHeld hb1 OP
  go_wp2_with fail
  go_loopw [10] (fun i wr => ∃ (k : Nat), i = .int .i64 k ∧ k ≤ m.length ∧ Hid (Keeps w [(w.heap.size, 0, .int .i64 0), (w.heap.size, 1, .int .i64 0), (w.heap.size, 2, .int .i64 0), (w.heap.size, 3, .int .i64 0), (w.heap.size, 4, .int .i64 0), (w.heap.size, 5, .int .i64 0)] wr) ∧ Hid (DrAt wr w1.heap.size (fD x0 (m.take k)))) (fun i _ => m.length - (intOf i).toNat)
  case atStart => exact ⟨0, rfl, by omega, HS0, HD0⟩
  case round =>
    obtain ⟨k, rfl, hkl, hS, hD⟩ := hrel
    clear HS0 HD0
    by_cases gk : k < m.length
    · obtain ⟨⟨t, lo, hi⟩, hx⟩ : ∃ s, m[k]? = some s := ⟨_, List.getElem?_eq_getElem gk⟩
      obtain ⟨_, _, e1, hbw, hc1, hc2, hc3⟩ := HK.out k _ hx
      cases e1
      have c1 := (hS.out.1.cell (p := ⟨bb, off + k * 3, none⟩) hbw).trans hc1
      have c2 := (hS.out.1.cell (p := ⟨bb, off + k * 3 + 1, none⟩) hbw).trans hc2
      have c3 := (hS.out.1.cell (p := ⟨bb, off + k * 3 + 2, none⟩) hbw).trans hc3
      simp only at c1 c2 c3
      have i1 : (k : Int) < (m.length : Int) := by omega
      have i0 : (0 : Int) ≤ (k : Int) := by omega
      have hb := HR.out _ (List.mem_of_getElem? hx)
      have hok := fD_ok (m.take k) HX0.out (fun b hb => HR.out b (List.mem_of_mem_take hb))
      have TK := Lib.hid (HT.out w1.heap.size (fD x0 (m.take k)) ⟨t, lo, hi⟩ hok hb _ (hD.out.next (below_alloc wr (.cells #[.int .i64 t, .int .i64 lo, .int .i64 hi] 38))))
      have en := fD_next hx x0
      rw [← en] at TK
      clear hc1 hc2 hc3 hx hb hok en
      go_wp2_with fail
      refine TK.out.mono ?_
      rintro e w5 ⟨rfl, hN, hX⟩
      have HB5 := Lib.hid (near_below hN (hS.out.1.alloc hS.out.1.size _) (by omega))
      have HC5 := Lib.hid (((hS.out.2.alloc (.cells #[.int .i64 t, .int .i64 lo, .int .i64 hi] 38)).near hN (by simp; omega)))
      have HX5 := Lib.hid hX
      clear hN hX hS hD
      go_wp2_with fail
      go_roundw
      case rel => exact ⟨k + 1, by simp, gk, Lib.hid ⟨HB5.out, HC5.out⟩, HX5⟩
      case measure => exact index_less gk
    · have hkk : k = m.length := by omega
      have i1 : ¬ (k : Int) < (m.length : Int) := by omega
      have hS2 := hS.out
      have hD2 := hD.out
      rw [hkk, List.take_length] at hD2
      clear hkk hS hD
      generalize fD x0 m = y at *
      obtain ⟨⟨jz0, jc0, jf0⟩, ⟨jz1, jc1, jf1⟩, ⟨jz2, jc2, jf2⟩, ⟨jz3, jc3, jf3⟩, ⟨jz4, jc4, jf4⟩, ⟨jz5, jc5, jf5⟩, _⟩ := hD2
      obtain ⟨⟨kz0, kc0, kf0⟩, ⟨kz1, kc1, kf1⟩, ⟨kz2, kc2, kf2⟩, ⟨kz3, kc3, kf3⟩, ⟨kz4, kc4, kf4⟩, ⟨kz5, kc5, kf5⟩, _⟩ := hS2.2
      go_wp2_with fail
      obtain ⟨d0, d1, d2, d3, d4, d5⟩ := set6 (W := wr) (B := w.heap.size) (u0 := .int .i64 y.t) (u1 := .int .i64 y.v) (u2 := .int .i64 y.a) (u3 := .int .i64 y.b) (u4 := .int .i64 y.c) (u5 := .int .i64 y.d) kc0 kc1 kc2 kc3 kc4 kc5
      refine bodyPost_ret (v := drV y) ?_ rfl ⟨rfl, below_put6 hS2.1 (Nat.le_refl _) _ _ _ _ _ _⟩
      unfold put6 at d0 d1 d2 d3 d4 d5
      simp [results, Tryz.results30, go_sem, d0, d1, d2, d3, d4, d5]
/-- What Door tells. -/
def allD : List Bd → Dr
  | [] => ⟨0, 0, 0, 0, 0, 0⟩
  | b :: l => fD (open0 b) (b :: l)
def dorE (m : List Bd) : Int := if okD m then (if m.length = 1 then 9 else 0) else 180
def dorX (m : List Bd) : Dr := if dorE m = 0 then allD m else ⟨0, 0, 0, 0, 0, 0⟩
section
attribute [local go_sem] field_ends
set_option maxHeartbeats 2000000 in
theorem door1_any (l : List Bd) (hk : okD l = true) (v : Value) (W : World) (B : Nat) (hb : Boxed W B 22 v) (h : ReadsD W v l) :
    Calls Tryz.prog 29 #[.pointer (some ⟨B, 0, none⟩)] W (Ret W (.tuple #[arV (dorX l).a (dorX l).b (dorX l).c (dorX l).d, .int .i64 (dorE l)])) := by
  obtain ⟨h1, h2, hR⟩ := okD_facts hk
  have hc := hb.cell
  have hbl := hb.lt
  by_cases g : l.length = 1
  · have e : dorE l = 9 := by simp [dorE, hk, g]
    have E : dorX l = ⟨0, 0, 0, 0, 0, 0⟩ := by simp [dorX, e]
    rw [E, e]
    obtain ⟨A, c, rfl, _, _⟩ := h
    have i1 : (l.length : Int) = 1 := by omega
    clear hb e E hR hk h1 h2 g
    go_enter Tryz.func29, Tryz.ntmps29
    go_wp2_with fail
    refine bodyPost_ret (v := .tuple #[arV 0 0 0 0, .int .i64 9]) (by simp [results, Tryz.results29, go_sem]) rfl ?_
    exact ⟨rfl, below_alloc W _⟩
  · have e : dorE l = 0 := by simp [dorE, hk, g]
    have E : dorX l = allD l := by simp [dorX, e]
    rw [E, e]
    obtain ⟨b0, l', hl'⟩ := List.exists_cons_of_ne_nil (okD_ne hk)
    have DA := Lib.hid (fun W' (hb' : Below W.heap.size W W') => doorOf_any b0 l' (by rw [← hl']; omega) (by rw [← hl']; exact hR) v W' (by rw [← hl']; exact h.below hb'))
    have ea : allD l = fD (open0 b0) (b0 :: l') := by rw [hl']; rfl
    rw [← ea] at DA
    generalize allD l = y at *
    obtain ⟨A, c, rfl, _, _⟩ := h
    have i1 : ¬ (l.length : Int) = 1 := by omega
    clear hb e E hR hk h1 h2 g hl' ea
    go_enter Tryz.func29, Tryz.ntmps29
    go_wp2_with fail
    refine (DA.out _ (below_alloc W _)).mono ?_
    rintro en w1 ⟨rfl, hb1⟩
    have hHeld : Keeps W [(W.heap.size, 0, .int .i64 0), (W.heap.size, 1, .int .i64 0), (W.heap.size, 2, .int .i64 0), (W.heap.size, 3, .int .i64 0)] w1 := Keeps.next (by refine ⟨below_alloc W _, ?_⟩; simp [Cells, go_sem]) hb1
    clear hb1
    obtain ⟨⟨kz0, kc0, kf0⟩, ⟨kz1, kc1, kf1⟩, ⟨kz2, kc2, kf2⟩, ⟨kz3, kc3, kf3⟩, _⟩ := hHeld.2
    go_wp2_with fail
    obtain ⟨d0, d1, d2, d3⟩ := set4 (W := w1) (B := W.heap.size) (u0 := .int .i64 y.a) (u1 := .int .i64 y.b) (u2 := .int .i64 y.c) (u3 := .int .i64 y.d) kc0 kc1 kc2 kc3
    refine bodyPost_ret (v := .tuple #[arV y.a y.b y.c y.d, .int .i64 0]) (by simp [results, Tryz.results29, go_sem, d0, d1, d2, d3]) rfl ?_
    exact ⟨rfl, below_set4 hHeld.1 (Nat.le_refl _) _ _ _ _⟩
end
set_option maxHeartbeats 1000000 in
theorem ofA_any (l : List Bd) (hl : l.length ≤ 9223372036854775807) (K : Nat) (caps : Array Value) (eK : ∀ args w, (callFunc K args).run Tryz.prog w = .ok (.enter K args) w) (x0 x1 x2 x3 code : Int) (v : Value) (w : World) (h : ReadsD w v l)
    (hF : okD l = true → ∀ W, Below w.heap.size w W → Calls Tryz.prog K caps W (Ret W (.tuple #[arV x0 x1 x2 x3, .int .i64 code]))) :
    Calls Tryz.prog 28 #[v, .func (.func K) #[] caps] w (Ret w (if okD l then .tuple #[arV x0 x1 x2 x3, .int .i64 code] else .tuple #[arV 0 0 0 0, .int .i64 180])) := by
  have hr := h
  obtain ⟨A, c, rfl, _, _⟩ := h
  have BC := Lib.hid (fun W (hb : Below w.heap.size w W) => bcheck_any l hl _ W (hr.below hb))
  clear hr
  cases gk : okD l
  · rw [gk] at BC
    clear hF gk
    simp only [Bool.false_eq_true, if_false] at BC ⊢
    go_enter Tryz.func28, Tryz.ntmps28
    go_wp2_with fail
    refine (BC.out _ (below_alloc w _)).mono ?_
    rintro en w1 ⟨rfl, hb1⟩
    have hHeld : Keeps w [(w.heap.size, 0, .int .i64 0), (w.heap.size, 1, .int .i64 0), (w.heap.size, 2, .int .i64 0), (w.heap.size, 3, .int .i64 0)] w1 := Keeps.next (by refine ⟨below_alloc w _, ?_⟩; simp [Cells, go_sem]) hb1
    clear hb1
    obtain ⟨⟨kz0, kc0, kf0⟩, ⟨kz1, kc1, kf1⟩, ⟨kz2, kc2, kf2⟩, ⟨kz3, kc3, kf3⟩, _⟩ := hHeld.2
    go_wp2_with fail
    obtain ⟨d0, d1, d2, d3⟩ := set4a (W := w1) (B := w.heap.size) (u0 := .int .i64 0) (u1 := .int .i64 0) (u2 := .int .i64 0) (u3 := .int .i64 0) kz0 kc0 kc1 kc2 kc3 (.cells #[.int .i64 0, .int .i64 0, .int .i64 0, .int .i64 0] 60)
    refine bodyPost_ret (v := .tuple #[arV 0 0 0 0, .int .i64 180]) (by simp [results, Tryz.results28, go_sem, d0, d1, d2, d3]) rfl ?_
    exact ⟨rfl, (below_set4 hHeld.1 (Nat.le_refl _) _ _ _ _).alloc (by simp; omega) _⟩
  · have HF := Lib.hid (hF gk)
    rw [gk] at BC
    simp only [if_true] at BC ⊢
    clear hF gk
    go_enter Tryz.func28, Tryz.ntmps28
    go_wp2_with fail
    refine (BC.out _ (below_alloc w _)).mono ?_
    rintro en w1 ⟨rfl, hb1⟩
    have hHeld : Keeps w [(w.heap.size, 0, .int .i64 0), (w.heap.size, 1, .int .i64 0), (w.heap.size, 2, .int .i64 0), (w.heap.size, 3, .int .i64 0)] w1 := Keeps.next (by refine ⟨below_alloc w _, ?_⟩; simp [Cells, go_sem]) hb1
    have HF1 := Lib.hid (HF.out w1 hHeld.1)
    clear hb1 HF
    go_wp2_with fail
    refine HF1.out.mono ?_
    rintro en w2 ⟨rfl, hb2⟩
    replace hHeld := hHeld.next hb2
    clear hb2
    obtain ⟨⟨kz0, kc0, kf0⟩, ⟨kz1, kc1, kf1⟩, ⟨kz2, kc2, kf2⟩, ⟨kz3, kc3, kf3⟩, _⟩ := hHeld.2
    go_wp2_with fail
    obtain ⟨d0, d1, d2, d3⟩ := set4 (W := w2) (B := w.heap.size) (u0 := .int .i64 x0) (u1 := .int .i64 x1) (u2 := .int .i64 x2) (u3 := .int .i64 x3) kc0 kc1 kc2 kc3
    refine bodyPost_ret (v := .tuple #[arV x0 x1 x2 x3, .int .i64 code]) (by simp [results, Tryz.results28, go_sem, d0, d1, d2, d3]) rfl ?_
    exact ⟨rfl, below_set4 hHeld.1 (Nat.le_refl _) _ _ _ _⟩
theorem set22a {W : World} {B C : Nat} {u0 u1 v0 v1 a0 a1 b0 b1 : Value} (hne : B ≠ C) (hB : B < W.heap.size) (hC : C < W.heap.size) (h0 : W.cell? ⟨B, 0, none⟩ = some a0) (h1 : W.cell? ⟨B, 1, none⟩ = some a1) (k0 : W.cell? ⟨C, 0, none⟩ = some b0) (k1 : W.cell? ⟨C, 1, none⟩ = some b1) (o : Obj) :
    (((((W.setCell ⟨B, 0, none⟩ u0).setCell ⟨B, 1, none⟩ u1).setCell ⟨C, 0, none⟩ v0).setCell ⟨C, 1, none⟩ v1).alloc o).cell? ⟨B, 0, none⟩ = some u0 ∧ (((((W.setCell ⟨B, 0, none⟩ u0).setCell ⟨B, 1, none⟩ u1).setCell ⟨C, 0, none⟩ v0).setCell ⟨C, 1, none⟩ v1).alloc o).cell? ⟨B, 1, none⟩ = some u1 ∧
      (((((W.setCell ⟨B, 0, none⟩ u0).setCell ⟨B, 1, none⟩ u1).setCell ⟨C, 0, none⟩ v0).setCell ⟨C, 1, none⟩ v1).alloc o).cell? ⟨C, 0, none⟩ = some v0 ∧ (((((W.setCell ⟨B, 0, none⟩ u0).setCell ⟨B, 1, none⟩ u1).setCell ⟨C, 0, none⟩ v0).setCell ⟨C, 1, none⟩ v1).alloc o).cell? ⟨C, 1, none⟩ = some v1 := by
  obtain ⟨d0, d1⟩ := set2 (u0 := u0) (u1 := u1) h0 h1
  have j0 : ((W.setCell ⟨B, 0, none⟩ u0).setCell ⟨B, 1, none⟩ u1).cell? ⟨C, 0, none⟩ = some b0 := off_cell (by simp <;> omega) (off_cell (by simp <;> omega) k0)
  have j1 : ((W.setCell ⟨B, 0, none⟩ u0).setCell ⟨B, 1, none⟩ u1).cell? ⟨C, 1, none⟩ = some b1 := off_cell (by simp <;> omega) (off_cell (by simp <;> omega) k1)
  obtain ⟨e0, e1⟩ := set2 (u0 := v0) (u1 := v1) j0 j1
  have hin := below_alloc ((((W.setCell ⟨B, 0, none⟩ u0).setCell ⟨B, 1, none⟩ u1).setCell ⟨C, 0, none⟩ v0).setCell ⟨C, 1, none⟩ v1) o
  exact ⟨(hin.cell (by simpa using hB)).trans (off_cell (by simp <;> omega) (off_cell (by simp <;> omega) d0)), (hin.cell (by simpa using hB)).trans (off_cell (by simp <;> omega) (off_cell (by simp <;> omega) d1)), (hin.cell (by simpa using hC)).trans e0, (hin.cell (by simpa using hC)).trans e1⟩
set_option maxRecDepth 100000 in
set_option maxHeartbeats 4000000 in
theorem dor_any (l : List Bd) (hl : l.length ≤ 9223372036854775807) (v : Value) (w : World) (h : ReadsD w v l) :
    Calls Tryz.prog 9 #[v] w (Ret w (.tuple #[slV (dorX l).a (dorX l).b, slV (dorX l).c (dorX l).d, .int .i64 (dorE l)])) := by
  have hr := h
  obtain ⟨A, c, rfl, _, _⟩ := h
  have hmf := makes_func
  have HF := Lib.hid (fun W (hb : Below w.heap.size w W) (hbx : Boxed W w.heap.size 22 (.slice A l.length c)) => ofA_any l hl 29 #[.pointer (some ⟨w.heap.size, 0, none⟩)] (enters_of Tryz.func29 (by kernel_rfl) rfl) (dorX l).a (dorX l).b (dorX l).c (dorX l).d (dorE l) (.slice A l.length c) W (hr.below hb)
    (fun gk W' hb' => door1_any l gk (.slice A l.length c) W' w.heap.size ((hb'.block _ hbx.lt).trans hbx) ((hr.below hb).below hb')))
  have HE : Hid ((if okD l then Value.tuple #[arV (dorX l).a (dorX l).b (dorX l).c (dorX l).d, .int .i64 (dorE l)] else .tuple #[arV 0 0 0 0, .int .i64 180]) = .tuple #[arV (dorX l).a (dorX l).b (dorX l).c (dorX l).d, .int .i64 (dorE l)]) := Lib.hid (by
    cases gk : okD l
    · have e : dorE l = 180 := by simp [dorE, gk]
      have e2 : dorX l = ⟨0, 0, 0, 0, 0, 0⟩ := by simp [dorX, e]
      rw [e, e2]
      rfl
    · rfl)
  clear hr
  generalize dorX l = x at *
  generalize dorE l = e at *
  obtain ⟨t, v, a, b, c', d⟩ := x
  simp only at HF HE ⊢
  go_enter Tryz.func9, Tryz.ntmps9
  go_wp2_with fail
  have hb : Below w.heap.size w (((w.alloc (.cells #[.slice A l.length c] 22)).alloc (.cells #[.int .i64 0, .int .i64 0] 29)).alloc (.cells #[.int .i64 0, .int .i64 0] 29)) := (((Below.refl _ w).alloc (Nat.le_refl _) _).alloc (by simp) _).alloc (by simp; omega) _
  have HF1 := HF.out _ hb (((Boxed.new w _ _).alloc _).alloc _)
  rw [HE.out] at HF1
  refine HF1.mono ?_
  rintro en w1 ⟨rfl, hb1⟩
  have hHeld : Keeps w [(w.heap.size + 1, 0, .int .i64 0), (w.heap.size + 1, 1, .int .i64 0), (w.heap.size + 2, 0, .int .i64 0), (w.heap.size + 2, 1, .int .i64 0)] w1 := Keeps.next (by refine ⟨hb, ?_⟩; simp [Cells, go_sem]) hb1
  clear hb1 HF1 HF HE hb
  obtain ⟨⟨kz0, kc0, kf0⟩, ⟨kz1, kc1, kf1⟩, ⟨kz2, kc2, kf2⟩, ⟨kz3, kc3, kf3⟩, _⟩ := hHeld.2
  go_wp2_with fail
  go_region
  all_goals
    go_wp2_with fail
    obtain ⟨d0, d1, d2, d3⟩ := set22a (W := w1) (B := w.heap.size + 1) (C := w.heap.size + 2) (u0 := .int .i64 a) (u1 := .int .i64 b) (v0 := .int .i64 c') (v1 := .int .i64 d) (by omega) kz0 kz2 kc0 kc1 kc2 kc3 (.cells #[.int .i64 a, .int .i64 b, .int .i64 c', .int .i64 d] 60)
    refine bodyPost_ret (v := .tuple #[slV a b, slV c' d, .int .i64 e]) (by simp [results, Tryz.results9, go_sem, d0, d1, d2, d3]) rfl ?_
    exact ⟨rfl, Below.drew (((((hHeld.1.setCell (p := ⟨w.heap.size + 1, 0, none⟩) (by simp) _).setCell (p := ⟨w.heap.size + 1, 1, none⟩) (by simp) _).setCell (p := ⟨w.heap.size + 2, 0, none⟩) (by simp) _).setCell (p := ⟨w.heap.size + 2, 1, none⟩) (by simp) _).alloc (by simp; omega) _)⟩
end Go.Proofs.YtlhjijigpjfokaaGreat.P9
