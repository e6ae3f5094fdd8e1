/-
  Layer 10: slide: the iterator over the slopes that a band lets with those ahead of it. Conditions: those written at each fact.
-/
import Derived.Test.YtoephkglpbophaaGreatSlD
import Derived.Test.YtoephkglpbophaaGreatRgT
namespace Go.Proofs.YtoephkglpbophaaGreat.P10
open Go.RowKit Go.Shelf Go.Proofs.YtoephkglpbophaaGreat.P8
open Go.Proofs.YtoephkglpbophaaGreat.P9 (SeqTurns Mild Leaves)
attribute [local go_sem] Oper.semAt_some

abbrev encS (s : Sl) : Array Value := #[arV s]
/-- The block that a round may turn. -/
def XO (L : Nat) : World → Nat → Prop := fun _ k => k = L
theorem keepsO_near {L : Nat} {W W' : World} (h : Near L W W') : KeepsC (XO L) W W' :=
  ⟨h.size, fun _ hk => .inl hk, fun k _ ho _ hx => (h.block k (Array.getElem?_eq_some_iff.1 ho).1 hx).trans ho⟩
theorem keepsO_below {L : Nat} {W W' : World} (h : Below W.heap.size W W') : KeepsC (XO L) W W' := keepsO_near (Near.of h)
/-- A band's block. -/
def BandAt (W : World) (B : Nat) (y : Bd) : Prop := W.heap[B]? = some (.cells #[.int .i64 y.t, .int .i64 y.lo, .int .i64 y.hi] 46 (0, 0))
theorem BandAt.lt {W : World} {B : Nat} {y : Bd} (h : BandAt W B y) : B < W.heap.size := (Array.getElem?_eq_some_iff.1 h).1
theorem BandAt.cells {W : World} {B : Nat} {y : Bd} (h : BandAt W B y) : W.cell? ⟨B, 0, none⟩ = some (.int .i64 y.t) ∧ W.cell? ⟨B, 1, none⟩ = some (.int .i64 y.lo) ∧ W.cell? ⟨B, 2, none⟩ = some (.int .i64 y.hi) := by
  have e : W.heap[B]? = _ := h
  simp [World.cell?, e]
theorem BandAt.below {W W' : World} {B : Nat} {y : Bd} (h : BandAt W B y) (hb : Below W.heap.size W W') : BandAt W' B y := (hb.block B h.lt).trans h
/-- What the iterator stands on. -/
structure PBase (L bb off c : Nat) (l : List Bd) (y : Bd) (Bl By : Nat) (W : World) : Prop where
  st : Stand (XO L) bb off c l Bl W
  ly : BandAt W By y
  fy : By ≠ L
theorem PBase.next {L bb off c : Nat} {l : List Bd} {y : Bd} {Bl By : Nat} {W W' : World} (h : PBase L bb off c l y Bl By W) (k : KeepsC (XO L) W W') : PBase L bb off c l y Bl By W' :=
  ⟨h.st.next k, k.2.2 By _ h.ly rfl h.fy, h.fy⟩
theorem pairs_any (v : Value) (y : Bd) (w : World) (A : Option Addr) (n c : Nat) (hv : v = .slice A n c) :
    Calls Tryz.prog 40 #[v, bandV y] w fun e w' => e = .returned (.func (.func 63) #[] #[.pointer (some ⟨w.heap.size, 0, none⟩), .pointer (some ⟨w.heap.size + 1, 0, none⟩)]) ∧ w' = (w.alloc (.cells #[v] 22)).alloc (.cells #[.int .i64 y.t, .int .i64 y.lo, .int .i64 y.hi] 46) := by
  subst hv
  have hmf : ∀ (fn : Fn) (first cap : Array Value) (w : World), (Instr.makeFunc fn first cap).run Tryz.prog w = .ok (.func fn first cap) w := fun _ _ _ _ => rfl
  go_enter Tryz.func40, Tryz.ntmps40
  go_wp2
  go_ret
  exact ⟨rfl, rfl⟩
theorem band_at {W : World} {bb off c : Nat} {l : List Bd} {v : Value} (h : ReadsD W v l) (hv : v = .slice (some ⟨bb, off, none⟩) l.length c) {k : Nat} {b : Bd} (hk : l[k]? = some b) :
    W.cell? ⟨bb, off + k * 3, none⟩ = some (.int .i64 b.t) ∧ W.cell? ⟨bb, off + k * 3 + 1, none⟩ = some (.int .i64 b.lo) ∧ W.cell? ⟨bb, off + k * 3 + 2, none⟩ = some (.int .i64 b.hi) := by
  obtain ⟨A, c', e, _, hr⟩ := h
  obtain ⟨b', off', e1, _, e3, e4, e5⟩ := hr k b hk
  rw [hv] at e
  cases e
  cases e1
  exact ⟨e3, e4, e5⟩
set_option maxRecDepth 100000 in
set_option maxHeartbeats 2000000 in
theorem pairs1_turns (L T : Nat) (l : List Bd) (hl : l.length ≤ 1000000) (y : Bd) (hy : BdOk y) (hR : ∀ b ∈ l, BdOk b) (bb off c : Nat) (Bl By : Nat) (w : World) (hst : PBase L bb off c l y Bl By w) :
    SeqTurns Fence.wide 8 Tryz.prog 63 #[.pointer (some ⟨Bl, 0, none⟩), .pointer (some ⟨By, 0, none⟩)] encS T (KeepsC (XO L)) (fun ys => ys = l.map (fun x => pairS x y)) (fun pre => pre <+: l.map (fun x => pairS x y)) w := by
  intro g J Jx W hW hJ hY h0
  have hst' : PBase L bb off c l y Bl By W := hst.next (keepsO_below hW)
  clear hst hW
  refine callsIn_of_wp Tryz.func63 rfl trivial ?_ rfl
  simp only [Tryz.ntmps63, List.size_toArray, List.length_cons, List.length_nil, Nat.reduceAdd, Nat.reduceSub, Array.replicate_succ, Array.replicate_zero, List.push_toArray, List.append_toArray, List.nil_append, List.cons_append]
  have HY := Lib.hid hY
  have HJ := Lib.hid hJ
  have HR := Lib.hid hR
  have HOY := Lib.hid hy
  clear hY hJ hR hy
  have hbl := hst'.st.box.cell
  obtain ⟨_, _, e', hcl, _⟩ := hst'.st.reads
  cases e'
  obtain ⟨t, lo, hi⟩ := y
  gi_wp2
  gi_loopw [8] (fun p wr => ∃ (k : Nat) (pre : List Sl), p = .int .i64 k ∧ k ≤ l.length ∧ Hid (pre ++ (l.drop k).map (fun x => pairS x ⟨t, lo, hi⟩) = l.map (fun x => pairS x ⟨t, lo, hi⟩)) ∧ J pre wr ∧ Hid (PBase L bb off c l ⟨t, lo, hi⟩ Bl By wr))
    (fun p _ => l.length - (intOf p).toNat)
  case atStart => exact ⟨0, [], rfl, by omega, Lib.hid (by simp), h0, Lib.hid hst'⟩
  case round =>
    obtain ⟨k, pre, rfl, hkl, hp, hJ, hSt⟩ := hrel
    clear h0 hst' hbl
    by_cases gk : k < l.length
    · obtain ⟨⟨u, a, d⟩, hx⟩ : ∃ s, l[k]? = some s := ⟨_, List.getElem?_eq_getElem gk⟩
      have i1 : (k : Int) < (l.length : Int) := by omega
      have i0 : (0 : Int) ≤ (k : Int) := by omega
      have hok := HR.out _ (List.mem_of_getElem? hx)
      have hp2 := hp.out
      rw [drop_of hx, List.map_cons] at hp2
      have e1 : wrap64 ((k : Int) + 1) = (k : Int) + 1 := i64_keeps (by omega) (by omega)
      obtain ⟨c1, c2, c3⟩ := band_at hSt.out.st.reads rfl hx
      obtain ⟨y1, y2, y3⟩ := hSt.out.ly.cells
      simp only at c1 c2 c3 y1 y2 y3
      have hbb := hSt.out.st.low
      have hbt := hSt.out.ly.lt
      obtain ⟨s, hs⟩ : ∃ s, s = pairS ⟨u, a, d⟩ ⟨t, lo, hi⟩ := ⟨_, rfl⟩
      have TK := Lib.hid (fun W' => between_any ⟨u, a, d⟩ ⟨t, lo, hi⟩ hok HOY.out W')
      rw [← hs] at hp2 TK
      have E : Hid ((pre ++ [s]) ++ (l.drop (k + 1)).map (fun x => pairS x ⟨t, lo, hi⟩) = l.map (fun x => pairS x ⟨t, lo, hi⟩)) := Lib.hid (by rw [List.append_assoc]; exact hp2)
      clear hp hp2 hx hok hs
      gi_wp2_with fail
      refine ⟨trivial, ?_⟩
      have hb3 := below_alloc wr (.cells #[.int .i64 u, .int .i64 a, .int .i64 d] 46)
      refine (callsIn_wide.2 (TK.out _)).mono ?_
      rintro en w3 ⟨rfl, hb4⟩
      have hB := under hb3 hb4
      have hJ3 := HJ.out _ _ _ hJ (Near.of hB)
      have HST := Lib.hid (hSt.out.next (keepsO_below hB))
      obtain ⟨fn, tmps, assign, body, hyl, hR⟩ := HY.out pre s w3 hJ3 ⟨_, E.out⟩
      simp only [encS] at hyl
      clear hSt hJ hJ3 hb3 hb4 hB TK HY HJ c1 c2 c3 y1 y2 y3 hbb hbt
      gi_wp2
      refine hR.mono ?_
      rintro e W5 (⟨rfl, hJ5, hk5⟩ | ⟨rfl, hJx5⟩)
      · have HS5 := Lib.hid (HST.out.next hk5)
        clear hk5 HST
        gi_wp2
        go_roundw
        case rel => exact ⟨k + 1, _, rfl, gk, E, hJ5, HS5⟩
        case measure => simp [intOf]; omega
      · gi_wp2
        refine bodyPost_ret (results_none rfl _ _ _) rfl ?_
        exact ⟨⟨_, rfl⟩, .inr ⟨_, ⟨_, E.out⟩, hJx5⟩⟩
    · have hkk : k = l.length := by omega
      have e := hp.out
      rw [hkk, List.drop_length, List.map_nil, List.append_nil] at e
      have E := Lib.hid e
      have i1 : ¬ (k : Int) < (l.length : Int) := by omega
      clear e hkk hp HY
      gi_wp2
      go_end0
      exact ⟨⟨_, rfl⟩, .inl (E.out ▸ hJ)⟩
end Go.Proofs.YtoephkglpbophaaGreat.P10
