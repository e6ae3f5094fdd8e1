/-
  Layer 2: a number's bytes, one by one. Conditions: those written at each fact.
-/
import Derived.Test.YtahfopednhmbiaaIter
import Derived.Lib.Zigzag
namespace Go.Proofs.Ytahfopednhmbiaa
open Go.RowKit Go.Shelf
attribute [local go_sem] Oper.semAt_some

/-- A number's bytes. -/
def digs (u : Nat) : List Int := if h : u < 128 then [(u : Int)] else ((u : Int) % 128 + 128) :: digs (u / 128)
termination_by u
decreasing_by omega
theorem digs_end {u : Nat} (h : u < 128) : digs u = [(u : Int)] := by rw [digs, dif_pos h]
theorem digs_more {u : Nat} (h : ¬ u < 128) : digs u = ((u : Int) % 128 + 128) :: digs (u / 128) := by rw [digs, dif_neg h]

set_option maxRecDepth 100000 in
set_option maxHeartbeats 1000000 in
theorem digits1_stops (x : Nat) (hx : x < 18446744073709551616) (Bn n₀ : Nat) (w : World) (hBn : Bn < w.heap.size) (hc : w.cell? ⟨Bn, 0, none⟩ = some (.int .u64 x)) :
    SeqStopsK Fence.wide 8 Try.prog 46 #[.pointer (some ⟨Bn, 0, none⟩)] (fun z : Int => #[Value.int .u8 z]) (Below n₀) (fun ys => ys = digs x) (fun pre => pre <+: digs x) (digs x).length w := by
  intro l J Jx W hW _ _ hY h0
  have hc' : W.cell? ⟨Bn, 0, none⟩ = some (.int .u64 x) := (hW.cell (p := ⟨Bn, 0, none⟩) hBn).trans hc
  refine callsIn_of_wp Try.func46 rfl trivial ?_ rfl
  simp only [Try.ntmps46, List.size_toArray, List.length_cons, List.length_nil, Nat.reduceAdd, Nat.reduceSub, Array.replicate_succ, Array.replicate_zero, List.push_toArray, List.append_toArray, List.nil_append, List.cons_append]
  clear hc hBn
  gi_wp2
  gi_loopw [3] (fun r wr => ∃ (y : Nat) (pre : List Int), r = .int .u64 y ∧ y < 18446744073709551616 ∧ Hid (pre ++ digs y = digs x) ∧ J pre wr)
    (fun r _ => (intOf r).toNat)
  case atStart => exact ⟨x, [], rfl, hx, Lib.hid rfl, h0⟩
  case round =>
    obtain ⟨y, pre, rfl, hy, hp, hJ⟩ := hrel
    clear hc' h0 hW
    by_cases g : y < 128
    · have e := hp.out
      rw [digs_end g] at e
      obtain ⟨fn, tmps, assign, body, hyl, hR⟩ := hY pre (y : Int) wr hJ (by rw [← e]; simp)
      have E := Lib.hid e
      clear e hp hY
      gi_wp2
      refine hR.mono ?_
      rintro e W3 (⟨rfl, hJ3, hk3⟩ | ⟨rfl, hJx3⟩)
      · gi_wp2
        go_end0
        exact ⟨⟨_, rfl⟩, .inl ⟨_, E.out, hJ3⟩⟩
      · gi_wp2
        go_end0
        exact ⟨⟨_, rfl⟩, .inr ⟨_, ⟨[], by simpa using E.out⟩, hJx3⟩⟩
    · have e := hp.out
      rw [digs_more g] at e
      obtain ⟨fn, tmps, assign, body, hyl, hR⟩ := hY pre ((y : Int) % 128 + 128) wr hJ (by rw [← e]; simp)
      have e2 : (pre ++ [(y : Int) % 128 + 128]) ++ digs (y / 128) = digs x := by rw [List.append_assoc]; exact e
      have E := Lib.hid e2
      clear e hp hY e2
      gi_wp2
      refine hR.mono ?_
      rintro e W3 (⟨rfl, hJ3, hk3⟩ | ⟨rfl, hJx3⟩)
      · gi_wp2
        go_roundw
        case rel => exact ⟨y / 128, _, by simp, by omega, E, hJ3⟩
        case measure => simp [intOf]; omega
      · gi_wp2
        refine bodyPost_ret (results_none rfl _ _ _) rfl ?_
        exact ⟨⟨_, rfl⟩, .inr ⟨_, ⟨_, E.out⟩, hJx3⟩⟩

theorem digs_len : ∀ (k u : Nat), u < 128 ^ (k + 1) → 1 ≤ (digs u).length ∧ (digs u).length ≤ k + 1
  | 0, u, h => by rw [digs_end (by simpa using h)]; simp
  | k + 1, u, h => by
    by_cases g : u < 128
    · rw [digs_end g]; simp
    · rw [digs_more g, List.length_cons]
      have := digs_len k (u / 128) (by rw [Nat.pow_succ] at h; omega)
      omega
theorem digs_ten {u : Nat} (h : u < 18446744073709551616) : 1 ≤ (digs u).length ∧ (digs u).length ≤ 10 := digs_len 9 u (by omega)

set_option maxHeartbeats 1000000 in
theorem digits_any (x : Nat) (w : World) :
    Calls Try.prog 38 #[.int .u64 x] w fun e w' => e = .returned (.func (.func 46) #[] #[.pointer (some ⟨w.heap.size, 0, none⟩)]) ∧ w' = w.alloc (.cells #[.int .u64 x] 23) := by
  go_enter Try.func38, Try.ntmps38
  go_wp2
  go_ret
  exact ⟨rfl, rfl⟩

/-- Numbers and their boxes speak of cells alone. -/
theorem boxed_below_own {β : Type} {w : World} {B C : Nat} {t : TypeId} {f : β → Value} (hC : w.heap.size ≤ C) : OwnFrom C (fun s W => Boxed W B t (f s) ∧ Below w.heap.size w W) :=
  OwnFrom.and (Own.from (fun s X Y row hv hg hr => hv.kept hg (fun e' => by
    obtain ⟨o, ho, hc⟩ := hr B e'.symm
    rw [show X.heap[B]? = _ from hv] at ho; cases ho; cases hc)) _) (ownFrom_below (Nat.le_refl _) hC)

set_option maxRecDepth 100000 in
set_option maxHeartbeats 1000000 in
theorem sizeU_any (x : Nat) (hx : x < 18446744073709551616) (w : World) : Calls Try.prog 19 #[.int .u64 x] w (Ret w (.int .i64 (digs x).length)) := by
  have hd := digs_ten hx
  refine calls_marks Try.func19 rfl ?_
  simp only [Try.ntmps19, List.size_toArray, List.length_cons, List.length_nil, Nat.reduceAdd, Nat.reduceSub, Array.replicate_succ, Array.replicate_zero, List.push_toArray, List.append_toArray, List.nil_append, List.cons_append]
  go_wp2_with (go_at_call 38; refine (digits_any x _).mono ?_; rintro e w' ⟨rfl, rfl⟩)
  have bO := Boxed.new w 3 (.int .i64 0)
  have bN := Boxed.new (w.alloc (.cells #[.int .i64 0] 3)) 23 (.int .u64 x)
  rw [World.size_alloc] at bN
  have hB0 : Below w.heap.size w ((w.alloc (.cells #[.int .i64 0] 3)).alloc (.cells #[.int .u64 x] 23)) := ((Below.refl _ w).alloc (Nat.le_refl _) _).alloc (by simp) _
  refine wp_range (n₀ := w.heap.size) (gf := 46) (lb := #[.pointer (some ⟨w.heap.size + 1, 0, none⟩)]) rfl (enters_of Try.func46 (by kernel_rfl) rfl)
    (digits1_stops x hx (w.heap.size + 1) w.heap.size _ (by simp) bN.cell) (by simp; omega) (fun _ => rfl)
    (fun pre W => Boxed W w.heap.size 3 (.int .i64 pre.length) ∧ Below w.heap.size w W) (fun _ _ _ => False)
    (boxed_below_own (by simp; omega)) (fun _ _ _ _ _ hs _ _ => hs) ⟨bO.alloc _, hB0⟩
    (fun z => { tmps := #[.int .u64 x, undef, .int .i64 0, .pointer (some ⟨w.heap.size, 0, none⟩), .int .u64 x, .func (.func 46) #[] #[.pointer (some ⟨w.heap.size + 1, 0, none⟩)], .int .u8 z, undef, undef, undef], defers := [] }) ?assign ?body ?done ?stop
  case assign =>
    intro l z W K hK
    gi_wp2
    simpa using hK
  case body =>
    rintro l pre z W ⟨hv, hB⟩ hlt
    have hc := hv.cell
    have hf := hv.frozen
    have hl : pre.length ≤ 10 := by omega
    gi_wp2
    exact ⟨(KeepsOthers.setCell _ _ _).from _, (Below.refl w.heap.size W).setCell (p := ⟨w.heap.size, 0, none⟩) (Nat.le_refl _) _, by simpa using hv.set _, hB.setCell (p := ⟨w.heap.size, 0, none⟩) (Nat.le_refl _) _⟩
  case done =>
    rintro D ys W hD rfl ⟨hv, hB⟩ hK
    have hc := hv.cell
    go_wp2
    refine ⟨by simp, .inl ⟨_, _, rfl, run_takeDeferred hK, ?_⟩⟩
    exact ⟨_, results_tmp rfl _ _ _, rfl, hB.trans (belowK_b (w := w) (Nat.le_refl _) W D _ _ (by simp at hD; omega) hK rfl rfl)⟩
  case stop =>
    rintro D c pre W _ _ h _
    exact h.elim

set_option maxHeartbeats 1000000 in
theorem fold_any (n : Int) (h1 : -9223372036854775808 ≤ n) (h2 : n ≤ 9223372036854775807) (w : World) :
    Calls Try.prog 36 #[.int .i64 n] w (fun e w' => e = .returned (.int .u64 (Lib.zigzag n)) ∧ w = w') := by
  by_cases g : n < 0
  · have E := Lib.hid (Lib.zigzag_neg h1 g)
    go_enter Try.func36, Try.ntmps36
    go_wp2
    go_ret
    exact ⟨by rw [← E.out]; rfl, rfl⟩
  · have E := Lib.hid (Lib.zigzag_nonneg (x := n) (by omega))
    go_enter Try.func36, Try.ntmps36
    go_wp2
    go_ret
    exact ⟨by rw [E.out]; rfl, rfl⟩

set_option maxHeartbeats 1000000 in
theorem size_any (n : Int) (h1 : -9223372036854775808 ≤ n) (h2 : n ≤ 9223372036854775807) (w : World) : Calls Try.prog 20 #[.int .i64 n] w (Ret w (.int .i64 (digs (Lib.zigzag n)).length)) := by
  have hz := Lib.zigzag_lt h1 h2
  go_enter Try.func20, Try.ntmps20
  go_wp2_with (first | (go_at_call 36; refine (fold_any n h1 h2 _).mono ?_; rintro e w' ⟨rfl, rfl⟩) | (go_at_call 19; refine (sizeU_any _ hz _).mono ?_; rintro e w' ⟨rfl, hb⟩))
  go_ret
  exact ⟨rfl, hb⟩
end Go.Proofs.Ytahfopednhmbiaa
