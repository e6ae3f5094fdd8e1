/-
  Layer 8: pmc: the iterator over the parts of bands. Conditions: those written at each fact.
-/
import Derived.Test.YtmkminaipeodnaaBdE
namespace Go.Proofs.Ytmkminaipeodnaa.P8
open Go.RowKit Go.Shelf
attribute [local go_sem] Oper.semAt_some

theorem near_alloc {w w' : World} {o : Obj} (h : Near w.heap.size (w.alloc o) w') : Below w.heap.size w w' :=
  ⟨h.os, h.tape, h.output, Nat.le_trans (by simp) h.size, fun k hk => (h.block k (by simp; omega) (by omega)).trans ((below_alloc w o).block k hk)⟩
theorem part_nums {k n N L c T : Nat} (hN : N = n + 1) (hT : T = k + N) (h1 : k < L) (h2 : n ≤ L - (k + 1)) (h3 : L ≤ c) (h4 : L ≤ 1000000) :
    wrap64 ((k : Int) + (N : Int)) = (T : Int) ∧ (T : Int) ≤ (L : Int) ∧ (T : Int) ≤ (c : Int) ∧ (k : Int) ≤ (T : Int) ∧ (k : Int) ≤ (L : Int) ∧ (k : Int) ≤ (c : Int) := by
  have e : (k : Int) + (N : Int) = (T : Int) := by omega
  rw [e]
  exact ⟨i64_keeps (by omega) (by omega), by omega, by omega, by omega, by omega, by omega⟩
theorem part_turn {k n N L T : Nat} (hN : N = n + 1) (hT : T = k + N) (h1 : k < L) (h2 : n ≤ L - (k + 1)) : k < T ∧ T ≤ L := ⟨by omega, by omega⟩
theorem turn_less {k T n : Nat} (h : k < T) (h2 : T ≤ n) : n - (intOf (Value.int .i64 (T : Int))).toNat < n - (intOf (Value.int .i64 (k : Int))).toNat := by simp [intOf]; omega
set_option maxRecDepth 100000 in
set_option maxHeartbeats 1000000 in
theorem parts1_stops (X : World → Nat → Prop) (b : Nat) (hX : Hangs X b) (l : List Bd) (hl : l.length ≤ 1000000) (hR : ∀ r ∈ l, BdOk r) (bb off c : Nat) (Bl : Nat) (w : World) (hb : b < w.heap.size)
    (hst : Stand X bb off c l Bl w) :
    SeqStopsK Fence.wide 8 Try.prog 48 #[.pointer (some ⟨Bl, 0, none⟩)] (encP bb off) (KeepsC X) (fun ys => ys = partsD 0 l) (fun pre => pre <+: partsD 0 l) (partsD 0 l).length w := by
  intro g J Jx W hW hJa hJxa hY h0
  have hbW : b < W.heap.size := Nat.lt_of_lt_of_le hb hW.size
  have hst' : Stand X bb off c l Bl W := hst.next (KeepsC.of_below hX hb hW)
  have hWs : ∀ W2 : World, W.heap.size ≤ W2.heap.size → b < W2.heap.size := fun W2 h => Nat.lt_of_lt_of_le hbW h
  have hmf : ∀ (fn : Fn) (first cap : Array Value) (w : World), (Instr.makeFunc fn first cap).run Try.prog w = .ok (.func fn first cap) w := fun _ _ _ _ => rfl
  clear hst hW
  refine callsIn_of_wp Try.func48 rfl trivial ?_ rfl
  simp only [Try.ntmps48, List.size_toArray, List.length_cons, List.length_nil, Nat.reduceAdd, Nat.reduceSub, Array.replicate_succ, Array.replicate_zero, List.push_toArray, List.append_toArray, List.nil_append, List.cons_append]
  have HY := Lib.hid hY
  have HJA := Lib.hid hJa
  have HR := Lib.hid hR
  have HWS := Lib.hid hWs
  have MB := Lib.hid (fun W => told_any W)
  clear hY hJa hJxa hR hWs
  gi_wp2
  gi_loopw [3] (fun p wr => ∃ (k : Nat) (pre : List Pt), p = .int .i64 k ∧ k ≤ l.length ∧ Hid (pre ++ partsD k (l.drop k) = partsD 0 l) ∧ J pre wr ∧ Hid (Stand X bb off c l Bl wr) ∧ W.heap.size ≤ wr.heap.size)
    (fun p _ => l.length - (intOf p).toNat)
  case atStart => exact ⟨0, [], rfl, by omega, Lib.hid (by simp), h0, Lib.hid hst', Nat.le_refl _⟩
  case round =>
    obtain ⟨k, pre, rfl, hkl, hp, hJ, hSt, hsz⟩ := hrel
    clear h0 hst'
    have hbx := hSt.out.box.cell
    by_cases gk : k < l.length
    · obtain ⟨⟨t, a, d⟩, hx⟩ : ∃ s, l[k]? = some s := ⟨_, List.getElem?_eq_getElem gk⟩
      have i1 : (k : Int) < (l.length : Int) := by omega
      have i0 : (0 : Int) ≤ (k : Int) := by omega
      have hok := HR.out _ (List.mem_of_getElem? hx)
      have hdr := drop_of hx
      have hp2 := hp.out
      rw [hdr, partsD_cons] at hp2
      have hgf := goM_first (l := l.drop (k + 1)) hok
      rw [← hdr] at hgf
      have hle := goM_le (l.drop (k + 1)) a d
      rw [List.length_drop] at hle
      simp only at hp2 hgf
      rw [List.drop_drop] at hp2
      generalize goM a d (l.drop (k + 1)) = G at hp2 hgf hle
      obtain ⟨n, x, y⟩ := G
      simp only at hp2 hgf hle
      have hrd := hSt.out.reads
      obtain ⟨_, _, e', hcl, _⟩ := hrd
      cases e'
      obtain ⟨N, hN⟩ : ∃ N, N = n + 1 := ⟨_, rfl⟩
      obtain ⟨T, hT⟩ : ∃ T, T = k + N := ⟨_, rfl⟩
      have hTN : N = T - k := by omega
      have E : Hid ((pre ++ [(⟨k, N, x, y⟩ : Pt)]) ++ partsD T (l.drop T) = partsD 0 l) := Lib.hid (by
        rw [List.append_assoc, hT, hN, ← hp2]
        simp only [List.singleton_append]
        rw [show k + (n + 1) = k + 1 + n by omega])
      have hln : pre.length < (partsD 0 l).length := by rw [← hp2]; simp
      have HLN := Lib.hid hln
      obtain ⟨q2, q3, q4, q5, q6, q7⟩ := part_nums hN hT gk hle hcl hl
      rw [← hN] at hgf
      have HTN := Lib.hid hTN
      have HT := Lib.hid (part_turn hN hT gk hle)
      have HD := Lib.hid hgf
      clear hp hp2 hdr hx hok hgf hln hle hN hT hTN
      have hbl := hSt.out.box.lt
      gi_wp2_with (refine ⟨trivial, ?_⟩; refine (callsIn_wide.2 (MB.out _)).mono ?_; rintro en w3 ⟨rfl, hb3⟩; have hb3' := hb3; have hbx3 := (hb3.cell (p := ⟨Bl, 0, none⟩) hbl).trans hbx; have hbl3 := Nat.lt_of_lt_of_le hbl hb3.size)
      refine ⟨trivial, ?_⟩
      have hrd3 := (hSt.out.reads.below hb3').drop k (Nat.le_of_lt gk)
      have TK := taken_any (l.drop k) (by rw [List.length_drop]; omega) (some ⟨bb, off + k * 3, none⟩) (c - k) w3 (by rw [List.length_drop]; exact hrd3) w3.heap.size (-2305844108725321728) 2305844108725321728 _ (below_alloc w3 _) (Nat.le_refl _) (World.alloc_heap_new w3 (.cells #[.int .i64 (-2305844108725321728), .int .i64 2305844108725321728] 89))
      rw [List.length_drop, HD.out] at TK
      refine (callsIn_wide.2 TK).mono ?_
      rintro en w4 ⟨rfl, hN4, hC4⟩
      have hb34 := near_alloc hN4
      have hB4 := under hb3' hb34
      obtain ⟨k0, k1, f0, f1⟩ := hC4.cells
      have hcl4 := hC4.lt
      have hbx4 := (hb34.cell (p := ⟨Bl, 0, none⟩) hbl3).trans hbx3
      have hbl4 := Nat.lt_of_lt_of_le hbl3 hb34.size
      have hJ4 := abides_below HJA.out hJ hB4.drew
      obtain ⟨fn, tmps, assign, body, hyl, hR⟩ := HY.out pre ⟨k, N, x, y⟩ w4.drew hJ4 HLN.out
      simp only [encP] at hyl
      rw [HTN.out] at hyl
      have HST := Lib.hid (hSt.out.next (KeepsC.of_below hX (HWS.out wr hsz) hB4.drew))
      have hsz4 : W.heap.size ≤ w4.drew.heap.size := Nat.le_trans hsz hB4.size
      clear hSt hJ hJ4 hbx hbx3 hb3 hb3' hN4 hC4 hb34 hB4 hrd3 TK HY HJA HLN
      gi_wp2_with fail
      rw [q2]
      clear q2
      have hmx : Try.prog.follows .mixedOrders = true := by kernel_rfl
      have HR := Lib.hid (RoundIn.mono hR (R' := fun e W' => ∃ r, e = .returned (.bool r) ∧ Hid ((r = true ∧ J (pre ++ [(⟨k, N, x, y⟩ : Pt)]) W' ∧ KeepsC X w4.drew W') ∨ (r = false ∧ Jx (pre ++ [(⟨k, N, x, y⟩ : Pt)]) W'))) (fun e W' hh => by
        rcases hh with ⟨h1, h2⟩ | ⟨h1, h2⟩
        · exact ⟨_, h1, Lib.hid (.inl ⟨rfl, h2⟩)⟩
        · exact ⟨_, h1, Lib.hid (.inr ⟨rfl, h2⟩)⟩))
      clear hR
      have q8 : ¬ T = k := Nat.ne_of_gt HT.out.1
      gi_region_with_o (refine HR.out.mono ?_; rintro e W5 ⟨r, rfl, hh⟩)
      all_goals
        rcases hh.out with ⟨rfl, hJ5, hk5⟩ | ⟨rfl, hJx5⟩
        · have HS5 := Lib.hid (HST.out.next hk5)
          have hsz5 := Nat.le_trans hsz4 hk5.1
          clear hk5 HST
          gi_wp2
          go_roundw
          case rel => exact ⟨T, _, rfl, HT.out.2, E, hJ5, HS5, hsz5⟩
          case measure => exact turn_less HT.out.1 HT.out.2
        · gi_wp2
          refine bodyPost_ret (results_none rfl _ _ _) rfl ?_
          exact ⟨⟨_, rfl⟩, .inr ⟨_, ⟨_, E.out⟩, hJx5⟩⟩
    · have hkk : k = l.length := by omega
      have e := hp.out
      rw [hkk, List.drop_length, partsD_nil, List.append_nil] at e
      have E := Lib.hid e
      have i1 : ¬ (k : Int) < (l.length : Int) := by omega
      clear e hkk hp HY
      gi_wp2
      go_end0
      exact ⟨⟨_, rfl⟩, .inl (E.out ▸ hJ)⟩
end Go.Proofs.Ytmkminaipeodnaa.P8
