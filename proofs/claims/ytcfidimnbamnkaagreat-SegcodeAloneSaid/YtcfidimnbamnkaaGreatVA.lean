/-
 Layer 2: bytes from a place on, one by one. Conditions: those written at each fact.
-/
import Derived.Test.YtcfidimnbamnkaaGreatIter
import Derived.Test.YtcfidimnbamnkaaGreatRead
import Derived.Lib.Zigzag
import Derived.Lib.VarintBits
import Derived.RegionTactic
import Derived.ChangeAlike
import Derived.BigRegion
import Derived.Test.YtcfidimnbamnkaaGreatKitX
import Derived.WalkMore
import Derived.Deep.QuietTactic
import Derived.BigQuiet
import Derived.Test.YtcfidimnbamnkaaGreatEq
import Derived.Laws.BytesArg
namespace Go.Proofs.YtcfidimnbamnkaaGreat.P2
open Go.RowKit Go.Shelf
attribute [local go_sem] Oper.semAt_some

abbrev B8 := { z : Int // 0 ≤ z ∧ z < 256 }
theorem bytes_lift : ∀ {l : List Int}, (∀ z ∈ l, 0 ≤ z ∧ z < 256) → ∃ L : List B8, L.map (·.1) = l
 | [], _ => ⟨[], rfl⟩
 | z :: l, h => by
  obtain ⟨L, e⟩ := bytes_lift (l := l) (fun y hy => h y (List.mem_cons_of_mem _ hy))
  exact ⟨⟨z, h z (List.mem_cons_self ..)⟩ :: L, by simp [e]⟩

set_option maxHeartbeats 1000000 in
theorem from_any (v : Value) (at_ : Int) (w : World) (A : Option Addr) (n c : Nat) (hv : v = .slice A n c) :
  Calls Tryz.prog 247 #[v, .int .i64 at_] w fun e w' => e = .returned (.func (.func 257) #[] #[.pointer (some ⟨w.heap.size + 1, 0, none⟩), .pointer (some ⟨w.heap.size, 0, none⟩)]) ∧ w' = (w.alloc (.cells #[v] 76)).alloc (.cells #[.int .i64 at_] 3) := by
 subst hv
 go_enter Tryz.func247, Tryz.ntmps247
 go_wp2
 go_ret
 exact ⟨rfl, rfl⟩

set_option maxRecDepth 100000 in
set_option maxHeartbeats 1000000 in
theorem from1_stops (L : List B8) (hL : L.length ≤ 1000000) (a : Nat) (ha : a ≤ L.length) (Bi Bb n₀ : Nat) (X : Nat → Prop) (w : World) (A : Option Addr) (c : Nat) (hr : Reads .u8 w (.slice A L.length c) (L.map (·.1)))
  (hi : Boxed w Bi 3 (.int .i64 a)) (hb : Boxed w Bb 76 (.slice A L.length c)) (h1 : Bi < n₀ ∧ ¬ X Bi) (h2 : Bb < n₀ ∧ ¬ X Bb) (h3 : ∀ b off, L ≠ [] → A = some ⟨b, off, none⟩ → b < n₀ ∧ ¬ X b) :
  SeqStopsK Fence.wide 8 Tryz.prog 257 #[.pointer (some ⟨Bi, 0, none⟩), .pointer (some ⟨Bb, 0, none⟩)] (fun z : B8 => #[Value.int .u8 z.1]) (KeepsBut n₀ X) (fun ys => ys = L.drop a) (fun pre => pre <+: L.drop a) (L.drop a).length w := by
 intro l J Jx W hW _ _ hY h0
 have hr' : Reads .u8 W (.slice A L.length c) (L.map (·.1)) := hr.below hW
 have hi' : Boxed W Bi 3 (.int .i64 a) := (hW.block Bi hi.lt).trans hi
 have hb' : Boxed W Bb 76 (.slice A L.length c) := (hW.block Bb hb.lt).trans hb
 clear hr hi hb
 refine callsIn_of_wp Tryz.func257 rfl trivial ?_ rfl
 simp only [Tryz.ntmps257, List.size_toArray, List.length_cons, List.length_nil, Nat.reduceAdd, Nat.reduceSub, Array.replicate_succ, Array.replicate_zero, List.push_toArray, List.append_toArray, List.nil_append, List.cons_append]
 have hci := hi'.cell
 have HY := Lib.hid hY
 have H3 := Lib.hid h3
 clear hY h3
 gi_wp2
 gi_loopw [4] (fun r wr => ∃ (k : Nat) (pre : List B8), r = .int .i64 k ∧ k = a + pre.length ∧ k ≤ L.length ∧ Hid (pre ++ L.drop k = L.drop a) ∧ J pre wr ∧ Hid (Reads .u8 wr (.slice A L.length c) (L.map (·.1))) ∧ Boxed wr Bb 76 (.slice A L.length c))
  (fun r _ => L.length - (intOf r).toNat)
 case atStart => exact ⟨a, [], rfl, by simp, ha, Lib.hid rfl, h0, Lib.hid hr', hb'⟩
 case round =>
  obtain ⟨k, pre, rfl, hk, hkl, hp, hJ, hrd, hbx⟩ := hrel
  clear hci h0 hr' hi' hb'
  have hcb := hbx.cell
  have HK := Lib.hid hk
  clear hk
  by_cases g : k < L.length
  ·obtain ⟨x, hx⟩ : ∃ x, L[k]? = some x := ⟨_, List.getElem?_eq_getElem g⟩
   have hcells := hrd.out.at.2.2
   obtain ⟨b, off, rfl, hbw, hcell⟩ := hcells k x.1 (by simp [hx])
   have hne : L ≠ [] := by intro e; subst e; simp at g
   have hb3 := H3.out b off hne rfl
   have hdr : L.drop k = x :: L.drop (k + 1) := by
    obtain ⟨hlt, e⟩ := List.getElem?_eq_some_iff.1 hx
    rw [List.drop_eq_getElem_cons hlt, e]
   have e2 : (pre ++ [x]) ++ L.drop (k + 1) = L.drop a := by rw [List.append_assoc]; have := hp.out; rwa [hdr] at this
   have hlen : pre.length < (L.drop a).length := by rw [← e2]; simp
   obtain ⟨fn, tmps, assign, body, hyl, hR⟩ := HY.out pre x wr hJ hlen
   have E := Lib.hid e2
   have HRD := hrd
   have H1 := Lib.hid h1
   have H2 := Lib.hid h2
   have HB3 := Lib.hid hb3
   have HBX := Lib.hid hbx
   clear hcells e2 hdr hx hp HY hlen hrd hne h1 h2 hb3 hbx
   gi_wp2
   refine hR.mono ?_
   rintro e W3 (⟨rfl, hJ3, hk3⟩ | ⟨rfl, hJx3⟩)
   ·have hbx3 : Boxed W3 Bb 76 (.slice (some ⟨b, off, none⟩) L.length c) := (hk3 Bb H2.out.1 H2.out.2).trans HBX.out
    have hbk : W3.heap[b]? = wr.heap[b]? := hk3 b HB3.out.1 HB3.out.2
    have hrd3 : Hid (Reads .u8 W3 (.slice (some ⟨b, off, none⟩) L.length c) (L.map (·.1))) := Lib.hid (by
     obtain ⟨e1, e2, e3⟩ := HRD.out.at
     refine ⟨some ⟨b, off, none⟩, c, by rw [List.length_map], e2, fun i z hz => ?_⟩
     obtain ⟨b', off', e4, e5, e6⟩ := e3 i z hz
     cases e4
     have hlt3 : b < W3.heap.size := by
      have := (Array.getElem?_eq_some_iff.1 (hbk.trans (Array.getElem?_eq_getElem e5))).1
      exact this
     exact ⟨b, off, rfl, hlt3, (World.cell?_of_block (w := wr) hbk).trans e6⟩)
    have hbk' := Lib.hid hbk
    have hk3' := Lib.hid hk3
    clear hbk hk3 hcell hcb HRD
    gi_wp2
    go_roundw
    case rel => exact ⟨k + 1, pre ++ [x], by simp, by have := HK.out; simp; omega, by omega, E, hJ3, hrd3, hbx3⟩
    case measure => simp [intOf]; omega
   ·gi_wp2
    refine bodyPost_ret (results_none rfl _ _ _) rfl ?_
    exact ⟨⟨_, rfl⟩, .inr ⟨_, ⟨_, E.out⟩, hJx3⟩⟩
  ·have hkk : k = L.length := by omega
   have e := hp.out
   rw [hkk, List.drop_length, List.append_nil] at e
   have E := Lib.hid e
   clear e hkk hp HY
   gi_wp2
   go_end0
   exact ⟨⟨_, rfl⟩, .inl ⟨_, E.out, hJ⟩⟩
end Go.Proofs.YtcfidimnbamnkaaGreat.P2

/-
 Layer 2: a number's bytes, one by one. Conditions: those written at each fact.
-/
namespace Go.Proofs.YtcfidimnbamnkaaGreat.P2
open Go.RowKit Go.Shelf
attribute [local go_sem] Oper.semAt_some

def digs (u : Nat) : List Int := if h : u < 128 then [(u : Int)] else ((u : Int) % 128 + 128) :: digs (u / 128)
termination_by u
decreasing_by omega
theorem digs_end {u : Nat} (h : u < 128) : digs u = [(u : Int)] := by rw [digs, dif_pos h]
theorem digs_more {u : Nat} (h : ¬ u < 128) : digs u = ((u : Int) % 128 + 128) :: digs (u / 128) := by rw [digs, dif_neg h]

set_option maxRecDepth 100000 in
set_option maxHeartbeats 1000000 in
theorem digits1_stops (x : Nat) (hx : x < 18446744073709551616) (Bn n₀ : Nat) (w : World) (hBn : Bn < w.heap.size) (hc : w.cell? ⟨Bn, 0, none⟩ = some (.int .u64 x)) :
  SeqStopsK Fence.wide 8 Tryz.prog 246 #[.pointer (some ⟨Bn, 0, none⟩)] (fun z : Int => #[Value.int .u8 z]) (Below n₀) (fun ys => ys = digs x) (fun pre => pre <+: digs x) (digs x).length w := by
 intro l J Jx W hW _ _ hY h0
 have hc' : W.cell? ⟨Bn, 0, none⟩ = some (.int .u64 x) := (hW.cell (p := ⟨Bn, 0, none⟩) hBn).trans hc
 refine callsIn_of_wp Tryz.func246 rfl trivial ?_ rfl
 simp only [Tryz.ntmps246, List.size_toArray, List.length_cons, List.length_nil, Nat.reduceAdd, Nat.reduceSub, Array.replicate_succ, Array.replicate_zero, List.push_toArray, List.append_toArray, List.nil_append, List.cons_append]
 clear hc hBn
 gi_wp2
 gi_loopw [3] (fun r wr => ∃ (y : Nat) (pre : List Int), r = .int .u64 y ∧ y < 18446744073709551616 ∧ Hid (pre ++ digs y = digs x) ∧ J pre wr)
  (fun r _ => (intOf r).toNat)
 case atStart => exact ⟨x, [], rfl, hx, Lib.hid rfl, h0⟩
 case round =>
  obtain ⟨y, pre, rfl, hy, hp, hJ⟩ := hrel
  clear hc' h0 hW
  by_cases g : y < 128
  ·have e := hp.out
   rw [digs_end g] at e
   obtain ⟨fn, tmps, assign, body, hyl, hR⟩ := hY pre (y : Int) wr hJ (by rw [← e]; simp)
   have E := Lib.hid e
   clear e hp hY
   gi_wp2
   refine hR.mono ?_
   rintro e W3 (⟨rfl, hJ3, hk3⟩ | ⟨rfl, hJx3⟩)
   ·gi_wp2
    go_end0
    exact ⟨⟨_, rfl⟩, .inl ⟨_, E.out, hJ3⟩⟩
   ·gi_wp2
    go_end0
    exact ⟨⟨_, rfl⟩, .inr ⟨_, ⟨[], by simpa using E.out⟩, hJx3⟩⟩
  ·have e := hp.out
   rw [digs_more g] at e
   obtain ⟨fn, tmps, assign, body, hyl, hR⟩ := hY pre ((y : Int) % 128 + 128) wr hJ (by rw [← e]; simp)
   have e2 : (pre ++ [(y : Int) % 128 + 128]) ++ digs (y / 128) = digs x := by rw [List.append_assoc]; exact e
   have E := Lib.hid e2
   clear e hp hY e2
   gi_wp2
   refine hR.mono ?_
   rintro e W3 (⟨rfl, hJ3, hk3⟩ | ⟨rfl, hJx3⟩)
   ·gi_wp2
    go_roundw
    case rel => exact ⟨y / 128, _, by simp, by omega, E, hJ3⟩
    case measure => simp [intOf]; omega
   ·gi_wp2
    refine bodyPost_ret (results_none rfl _ _ _) rfl ?_
    exact ⟨⟨_, rfl⟩, .inr ⟨_, ⟨_, E.out⟩, hJx3⟩⟩

theorem digs_len : ∀ (k u : Nat), u < 128 ^ (k + 1) → 1 ≤ (digs u).length ∧ (digs u).length ≤ k + 1
 | 0, u, h => by rw [digs_end (by simpa using h)]; simp
 | k + 1, u, h => by
  by_cases g : u < 128
  ·rw [digs_end g]; simp
  ·rw [digs_more g, List.length_cons]
   have := digs_len k (u / 128) (by rw [Nat.pow_succ] at h; omega)
   omega
theorem digs_ten {u : Nat} (h : u < 18446744073709551616) : 1 ≤ (digs u).length ∧ (digs u).length ≤ 10 := digs_len 9 u (by omega)

set_option maxHeartbeats 1000000 in
theorem digits_any (x : Nat) (w : World) :
  Calls Tryz.prog 230 #[.int .u64 x] w fun e w' => e = .returned (.func (.func 246) #[] #[.pointer (some ⟨w.heap.size, 0, none⟩)]) ∧ w' = w.alloc (.cells #[.int .u64 x] 55) := by
 go_enter Tryz.func230, Tryz.ntmps230
 go_wp2
 go_ret
 exact ⟨rfl, rfl⟩

set_option maxHeartbeats 1000000 in
theorem fold_any (n : Int) (h1 : -9223372036854775808 ≤ n) (h2 : n ≤ 9223372036854775807) (w : World) :
  Calls Tryz.prog 232 #[.int .i64 n] w (fun e w' => e = .returned (.int .u64 (Lib.zigzag n)) ∧ w = w') := by
 by_cases g : n < 0
 ·have E := Lib.hid (Lib.zigzag_neg h1 g)
  go_enter Tryz.func232, Tryz.ntmps232
  go_wp2
  go_ret
  exact ⟨by rw [← E.out]; rfl, rfl⟩
 ·have E := Lib.hid (Lib.zigzag_nonneg (x := n) (by omega))
  go_enter Tryz.func232, Tryz.ntmps232
  go_wp2
  go_ret
  exact ⟨by rw [E.out]; rfl, rfl⟩

end Go.Proofs.YtcfidimnbamnkaaGreat.P2

/-
 Layer 2: a number is gathered out of its bytes. Conditions: those written at each fact.
-/
namespace Go.Proofs.YtcfidimnbamnkaaGreat.P2
open Go.RowKit Go.Shelf
attribute [local go_sem] Oper.semAt_some

def Gath (w : World) (G : Nat) (n s : Int) : Prop := w.heap[G]? = some (.cells #[.int .u64 n, .int .i64 s] 256 (0, 0))
theorem Gath.lt {w : World} {G : Nat} {n s : Int} (h : Gath w G n s) : G < w.heap.size := (Array.getElem?_eq_some_iff.1 h).1
theorem Gath.cell0 {w : World} {G : Nat} {n s : Int} (h : Gath w G n s) : w.cell? ⟨G, 0, none⟩ = some (.int .u64 n) := by simp [World.cell?, show w.heap[G]? = _ from h]
theorem Gath.cell1 {w : World} {G : Nat} {n s : Int} (h : Gath w G n s) : w.cell? ⟨G, 1, none⟩ = some (.int .i64 s) := by simp [World.cell?, show w.heap[G]? = _ from h]
theorem Gath.froz0 {w : World} {G : Nat} {n s : Int} (h : Gath w G n s) : w.frozen? ⟨G, 0, none⟩ = false := by simp [World.frozen?, show w.heap[G]? = _ from h]
theorem Gath.froz1 {w : World} {G : Nat} {n s : Int} (h : Gath w G n s) : w.frozen? ⟨G, 1, none⟩ = false := by simp [World.frozen?, show w.heap[G]? = _ from h]

theorem Gath.set {w : World} {G : Nat} {n s : Int} (h : Gath w G n s) (n' s' : Int) : Gath ((w.setCell ⟨G, 0, none⟩ (.int .u64 n')).setCell ⟨G, 1, none⟩ (.int .i64 s')).drew G n' s' ∧ w.grownBy ((w.setCell ⟨G, 0, none⟩ (.int .u64 n')).setCell ⟨G, 1, none⟩ (.int .i64 s')).drew (some G) := by
 constructor
 ·have e1 : (w.setCell ⟨G, 0, none⟩ (.int .u64 n')).heap[G]? = some (.cells #[.int .u64 n', .int .i64 s] 256 (0, 0)) := by
   obtain ⟨hlt, hk⟩ := Array.getElem?_eq_some_iff.1 h
   show (w.heap.modify G _)[G]? = _
   rw [Array.getElem?_eq_getElem (by rw [Array.size_modify]; exact hlt), Array.getElem_modify_self, hk]
   rfl
  have e2 : ((w.setCell ⟨G, 0, none⟩ (.int .u64 n')).setCell ⟨G, 1, none⟩ (.int .i64 s')).heap[G]? = some (.cells #[.int .u64 n', .int .i64 s'] 256 (0, 0)) := by
   obtain ⟨hlt, hk⟩ := Array.getElem?_eq_some_iff.1 e1
   show ((w.setCell ⟨G, 0, none⟩ (.int .u64 n')).heap.modify G _)[G]? = _
   rw [Array.getElem?_eq_getElem (by rw [Array.size_modify]; exact hlt), Array.getElem_modify_self, hk]
   rfl
  exact e2
 ·refine ⟨rfl, rfl, rfl, ?_, fun k _ hk => ?_⟩
  ·exact Nat.le_of_eq (by simp [World.setCell, World.drew])
  ·show ((w.setCell ⟨G, 0, none⟩ (.int .u64 n')).setCell ⟨G, 1, none⟩ (.int .i64 s')).heap[k]? = _
   have hne : k ≠ G := fun e => hk (by rw [e])
   exact (Below.heap_setCell _ _ _ k hne).trans (Below.heap_setCell _ _ _ k hne)

def Took (w : World) (G : Nat) (n s d : Int) (e : Ending) (w' : World) : Prop := (∃ v, e = .returned v) ∧ w.grownBy w' (some G) ∧ ∃ n', 0 ≤ n' ∧ n' < 18446744073709551616 ∧ (s ≤ 8 ∨ d ≤ 1 → n' = n + d % 128 * 128 ^ s.toNat) ∧ Gath w' G n' (s + 1)

set_option maxRecDepth 100000 in
set_option maxHeartbeats 2000000 in
theorem take_0 (G : Nat) (n d : Int) (w : World) (hG : Gath w G n 0) (hn0 : 0 ≤ n) (hn : n < 1) (hd0 : 0 ≤ d) (hd : d < 256) :
  Calls Tryz.prog 248 #[.pointer (some ⟨G, 0, none⟩), .int .u8 d] w (Took w G n 0 d) := by
 have h0 := hG.cell0
 have h1 := hG.cell1
 have f0 := hG.froz0
 have f1 := hG.froz1
 go_enter Tryz.func248, Tryz.ntmps248
 go_wp2
 go_region
 go_wp2
 go_end0
 have HG := hG.set (bits BinOp.or IntKind.u64 n (d % 128)) 1
 have e := u64_orv0 (y := n) (x := d % 128) hn0 hn (by omega) (by omega) (by omega)
 exact ⟨⟨_, rfl⟩, HG.2, _, by omega, by omega, fun _ => by rw [e]; show _ = n + d % 128 * 1; omega, HG.1⟩

set_option maxRecDepth 100000 in
set_option maxHeartbeats 2000000 in
theorem take_1 (G : Nat) (n d : Int) (w : World) (hG : Gath w G n 1) (hn0 : 0 ≤ n) (hn : n < 128) (hd0 : 0 ≤ d) (hd : d < 256) :
  Calls Tryz.prog 248 #[.pointer (some ⟨G, 0, none⟩), .int .u8 d] w (Took w G n 1 d) := by
 have h0 := hG.cell0
 have h1 := hG.cell1
 have f0 := hG.froz0
 have f1 := hG.froz1
 go_enter Tryz.func248, Tryz.ntmps248
 go_wp2
 go_region
 go_wp2
 go_end0
 have HG := hG.set (bits BinOp.or IntKind.u64 n (d % 128 * 128)) 2
 have e := u64_orv7 (y := n) (x := d % 128 * 128) hn0 hn (by omega) (by omega) (by omega)
 exact ⟨⟨_, rfl⟩, HG.2, _, by omega, by omega, fun _ => by rw [e]; show _ = n + d % 128 * 128; rfl, HG.1⟩

set_option maxRecDepth 100000 in
set_option maxHeartbeats 2000000 in
theorem take_2 (G : Nat) (n d : Int) (w : World) (hG : Gath w G n 2) (hn0 : 0 ≤ n) (hn : n < 16384) (hd0 : 0 ≤ d) (hd : d < 256) :
  Calls Tryz.prog 248 #[.pointer (some ⟨G, 0, none⟩), .int .u8 d] w (Took w G n 2 d) := by
 have h0 := hG.cell0
 have h1 := hG.cell1
 have f0 := hG.froz0
 have f1 := hG.froz1
 go_enter Tryz.func248, Tryz.ntmps248
 go_wp2
 go_region
 go_wp2
 go_end0
 have HG := hG.set (bits BinOp.or IntKind.u64 n (d % 128 * 16384)) 3
 have e := u64_orv14 (y := n) (x := d % 128 * 16384) hn0 hn (by omega) (by omega) (by omega)
 exact ⟨⟨_, rfl⟩, HG.2, _, by omega, by omega, fun _ => by rw [e]; show _ = n + d % 128 * 16384; rfl, HG.1⟩

set_option maxRecDepth 100000 in
set_option maxHeartbeats 2000000 in
theorem take_3 (G : Nat) (n d : Int) (w : World) (hG : Gath w G n 3) (hn0 : 0 ≤ n) (hn : n < 2097152) (hd0 : 0 ≤ d) (hd : d < 256) :
  Calls Tryz.prog 248 #[.pointer (some ⟨G, 0, none⟩), .int .u8 d] w (Took w G n 3 d) := by
 have h0 := hG.cell0
 have h1 := hG.cell1
 have f0 := hG.froz0
 have f1 := hG.froz1
 go_enter Tryz.func248, Tryz.ntmps248
 go_wp2
 go_region
 go_wp2
 go_end0
 have HG := hG.set (bits BinOp.or IntKind.u64 n (d % 128 * 2097152)) 4
 have e := u64_orv21 (y := n) (x := d % 128 * 2097152) hn0 hn (by omega) (by omega) (by omega)
 exact ⟨⟨_, rfl⟩, HG.2, _, by omega, by omega, fun _ => by rw [e]; show _ = n + d % 128 * 2097152; rfl, HG.1⟩

set_option maxRecDepth 100000 in
set_option maxHeartbeats 2000000 in
theorem take_4 (G : Nat) (n d : Int) (w : World) (hG : Gath w G n 4) (hn0 : 0 ≤ n) (hn : n < 268435456) (hd0 : 0 ≤ d) (hd : d < 256) :
  Calls Tryz.prog 248 #[.pointer (some ⟨G, 0, none⟩), .int .u8 d] w (Took w G n 4 d) := by
 have h0 := hG.cell0
 have h1 := hG.cell1
 have f0 := hG.froz0
 have f1 := hG.froz1
 go_enter Tryz.func248, Tryz.ntmps248
 go_wp2
 go_region
 go_wp2
 go_end0
 have HG := hG.set (bits BinOp.or IntKind.u64 n (d % 128 * 268435456)) 5
 have e := u64_orv28 (y := n) (x := d % 128 * 268435456) hn0 hn (by omega) (by omega) (by omega)
 exact ⟨⟨_, rfl⟩, HG.2, _, by omega, by omega, fun _ => by rw [e]; show _ = n + d % 128 * 268435456; rfl, HG.1⟩

set_option maxRecDepth 100000 in
set_option maxHeartbeats 2000000 in
theorem take_5 (G : Nat) (n d : Int) (w : World) (hG : Gath w G n 5) (hn0 : 0 ≤ n) (hn : n < 34359738368) (hd0 : 0 ≤ d) (hd : d < 256) :
  Calls Tryz.prog 248 #[.pointer (some ⟨G, 0, none⟩), .int .u8 d] w (Took w G n 5 d) := by
 have h0 := hG.cell0
 have h1 := hG.cell1
 have f0 := hG.froz0
 have f1 := hG.froz1
 go_enter Tryz.func248, Tryz.ntmps248
 go_wp2
 go_region
 go_wp2
 go_end0
 have HG := hG.set (bits BinOp.or IntKind.u64 n (d % 128 * 34359738368)) 6
 have e := u64_orv35 (y := n) (x := d % 128 * 34359738368) hn0 hn (by omega) (by omega) (by omega)
 exact ⟨⟨_, rfl⟩, HG.2, _, by omega, by omega, fun _ => by rw [e]; show _ = n + d % 128 * 34359738368; rfl, HG.1⟩

set_option maxRecDepth 100000 in
set_option maxHeartbeats 2000000 in
theorem take_6 (G : Nat) (n d : Int) (w : World) (hG : Gath w G n 6) (hn0 : 0 ≤ n) (hn : n < 4398046511104) (hd0 : 0 ≤ d) (hd : d < 256) :
  Calls Tryz.prog 248 #[.pointer (some ⟨G, 0, none⟩), .int .u8 d] w (Took w G n 6 d) := by
 have h0 := hG.cell0
 have h1 := hG.cell1
 have f0 := hG.froz0
 have f1 := hG.froz1
 go_enter Tryz.func248, Tryz.ntmps248
 go_wp2
 go_region
 go_wp2
 go_end0
 have HG := hG.set (bits BinOp.or IntKind.u64 n (d % 128 * 4398046511104)) 7
 have e := u64_orv42 (y := n) (x := d % 128 * 4398046511104) hn0 hn (by omega) (by omega) (by omega)
 exact ⟨⟨_, rfl⟩, HG.2, _, by omega, by omega, fun _ => by rw [e]; show _ = n + d % 128 * 4398046511104; rfl, HG.1⟩

set_option maxRecDepth 100000 in
set_option maxHeartbeats 2000000 in
theorem take_7 (G : Nat) (n d : Int) (w : World) (hG : Gath w G n 7) (hn0 : 0 ≤ n) (hn : n < 562949953421312) (hd0 : 0 ≤ d) (hd : d < 256) :
  Calls Tryz.prog 248 #[.pointer (some ⟨G, 0, none⟩), .int .u8 d] w (Took w G n 7 d) := by
 have h0 := hG.cell0
 have h1 := hG.cell1
 have f0 := hG.froz0
 have f1 := hG.froz1
 go_enter Tryz.func248, Tryz.ntmps248
 go_wp2
 go_region
 go_wp2
 go_end0
 have HG := hG.set (bits BinOp.or IntKind.u64 n (d % 128 * 562949953421312)) 8
 have e := u64_orv49 (y := n) (x := d % 128 * 562949953421312) hn0 hn (by omega) (by omega) (by omega)
 exact ⟨⟨_, rfl⟩, HG.2, _, by omega, by omega, fun _ => by rw [e]; show _ = n + d % 128 * 562949953421312; rfl, HG.1⟩

set_option maxRecDepth 100000 in
set_option maxHeartbeats 2000000 in
theorem take_8 (G : Nat) (n d : Int) (w : World) (hG : Gath w G n 8) (hn0 : 0 ≤ n) (hn : n < 72057594037927936) (hd0 : 0 ≤ d) (hd : d < 256) :
  Calls Tryz.prog 248 #[.pointer (some ⟨G, 0, none⟩), .int .u8 d] w (Took w G n 8 d) := by
 have h0 := hG.cell0
 have h1 := hG.cell1
 have f0 := hG.froz0
 have f1 := hG.froz1
 go_enter Tryz.func248, Tryz.ntmps248
 go_wp2
 go_region
 go_wp2
 go_end0
 have HG := hG.set (bits BinOp.or IntKind.u64 n (d % 128 * 72057594037927936)) 9
 have e := u64_orv56 (y := n) (x := d % 128 * 72057594037927936) hn0 hn (by omega) (by omega) (by omega)
 exact ⟨⟨_, rfl⟩, HG.2, _, by omega, by omega, fun _ => by rw [e]; show _ = n + d % 128 * 72057594037927936; rfl, HG.1⟩

set_option maxRecDepth 100000 in
set_option maxHeartbeats 2000000 in
theorem take_9 (G : Nat) (n d : Int) (w : World) (hG : Gath w G n 9) (hn0 : 0 ≤ n) (hn : n < 9223372036854775808) (hd0 : 0 ≤ d) (hd : d < 256) :
  Calls Tryz.prog 248 #[.pointer (some ⟨G, 0, none⟩), .int .u8 d] w (Took w G n 9 d) := by
 have h0 := hG.cell0
 have h1 := hG.cell1
 have f0 := hG.froz0
 have f1 := hG.froz1
 go_enter Tryz.func248, Tryz.ntmps248
 go_wp2
 go_region
 go_wp2
 go_end0
 have ew : IntKind.u64.wrap (d % 128 * 9223372036854775808) = d % 2 * 9223372036854775808 := by rw [IntKind.wrap_u64]; omega
 have HG := hG.set (bits BinOp.or IntKind.u64 n (IntKind.u64.wrap (d % 128 * 9223372036854775808))) 10
 have e := u64_orv63 (y := n) (x := d % 2 * 9223372036854775808) hn0 hn (by omega) (by omega) (by omega)
 rw [← ew] at e
 exact ⟨⟨_, rfl⟩, HG.2, _, by omega, by omega, fun g => by rw [e, ew]; show _ = n + d % 128 * 9223372036854775808; omega, HG.1⟩

theorem take_any (G : Nat) (s : Nat) (hs : s ≤ 9) (n d : Int) (w : World) (hG : Gath w G n s) (hn0 : 0 ≤ n) (hn : n < 128 ^ s) (hd0 : 0 ≤ d) (hd : d < 256) :
  Calls Tryz.prog 248 #[.pointer (some ⟨G, 0, none⟩), .int .u8 d] w (Took w G n s d) := by
 match s, hs with
 | 0, _ => exact take_0 G n d w hG hn0 hn hd0 hd
 | 1, _ => exact take_1 G n d w hG hn0 hn hd0 hd
 | 2, _ => exact take_2 G n d w hG hn0 hn hd0 hd
 | 3, _ => exact take_3 G n d w hG hn0 hn hd0 hd
 | 4, _ => exact take_4 G n d w hG hn0 hn hd0 hd
 | 5, _ => exact take_5 G n d w hG hn0 hn hd0 hd
 | 6, _ => exact take_6 G n d w hG hn0 hn hd0 hd
 | 7, _ => exact take_7 G n d w hG hn0 hn hd0 hd
 | 8, _ => exact take_8 G n d w hG hn0 hn hd0 hd
 | 9, _ => exact take_9 G n d w hG hn0 hn hd0 hd
end Go.Proofs.YtcfidimnbamnkaaGreat.P2

/-
 Layer 2, plain facts: what is got out of bytes. No program. Conditions: those written at each fact.
-/
namespace Go.Proofs.YtcfidimnbamnkaaGreat.P2

def numOf : List Int → Int
 | [] => 0
 | d :: l => d % 128 + 128 * numOf l
theorem numOf_snoc (d : Int) : ∀ l : List Int, numOf (l ++ [d]) = numOf l + d % 128 * 128 ^ l.length
 | [] => by simp [numOf]
 | x :: l => by
  simp only [List.cons_append, numOf, numOf_snoc d l, List.length_cons, Int.pow_succ]
  have e : 128 * (d % 128 * 128 ^ l.length) = d % 128 * (128 ^ l.length * 128) := by
   rw [Int.mul_left_comm, Int.mul_comm 128]
  rw [Int.mul_add, e]
  omega
theorem numOf_range : ∀ l : List Int, 0 ≤ numOf l ∧ numOf l < 128 ^ l.length
 | [] => by simp [numOf]
 | x :: l => by
  have := numOf_range l
  simp only [numOf, List.length_cons, Int.pow_succ]
  generalize (128 : Int) ^ l.length = p at *
  omega

def scan : Nat → List Int → Int × Nat
 | s, [] => (6, s)
 | s, d :: l => if s = 9 ∧ 1 < d then (7, s + 1) else if 128 ≤ d then scan (s + 1) l else if d = 0 ∧ 1 ≤ s then (7, s + 1) else (0, s + 1)
def Cont (q : List Int) : Prop := q.length ≤ 9 ∧ ∀ d ∈ q, 128 ≤ d
theorem scan_cont : ∀ (q : List Int) (s : Nat) (r : List Int), s + q.length ≤ 9 → (∀ d ∈ q, 128 ≤ d) → scan s (q ++ r) = scan (s + q.length) r
 | [], s, r, _, _ => by simp
 | d :: q, s, r, h, hc => by
  have hd := hc d (List.mem_cons_self ..)
  rw [List.length_cons] at h
  rw [List.cons_append, scan, if_neg (by omega), if_pos hd, scan_cont q (s + 1) r (by omega) (fun x hx => hc x (List.mem_cons_of_mem _ hx)), List.length_cons]
  congr 1
  omega
theorem scan_short {q : List Int} (h : Cont q) : scan 0 q = (6, q.length) := by
 have := scan_cont q 0 [] (by have := h.1; omega) h.2
 rw [List.append_nil] at this
 rw [this, Nat.zero_add, scan]
theorem scan_at {q r : List Int} {d : Int} (h : Cont q) : scan 0 (q ++ d :: r) = if q.length = 9 ∧ 1 < d then (7, q.length + 1) else if 128 ≤ d then scan (q.length + 1) r else if d = 0 ∧ 1 ≤ q.length then (7, q.length + 1) else (0, q.length + 1) := by
 rw [scan_cont q 0 _ (by have := h.1; omega) h.2, Nat.zero_add, scan]
theorem Cont.snoc {q : List Int} {d : Int} (h : Cont q) (hd : 128 ≤ d) (h9 : ¬ (q.length = 9 ∧ 1 < d)) : Cont (q ++ [d]) := by
 refine ⟨?_, fun x hx => ?_⟩
 ·have := h.1; simp; omega
 ·rcases List.mem_append.1 hx with hx | hx
  ·exact h.2 x hx
  ·rw [List.mem_singleton.1 hx]; exact hd
theorem Cont.nil : Cont [] := ⟨by simp, by simp⟩
theorem scan_size : ∀ (l : List Int) (s : Nat), s ≤ (scan s l).2 ∧ (scan s l).2 ≤ s + l.length
 | [], s => by simp [scan]
 | d :: l, s => by
  rw [scan, List.length_cons]
  have := scan_size l (s + 1)
  split
  ·simp only; omega
  ·split
   ·omega
   ·split <;> simp only <;> omega

def gotN (l : List Int) (a : Int) : Int := if a < 0 ∨ (l.length : Int) < a then 0 else if (scan 0 (l.drop a.toNat)).1 = 0 then numOf ((l.drop a.toNat).take (scan 0 (l.drop a.toNat)).2) else 0
def gotP (l : List Int) (a : Int) : Int := if a < 0 ∨ (l.length : Int) < a then 0 else if (scan 0 (l.drop a.toNat)).1 = 0 then a + (scan 0 (l.drop a.toNat)).2 else 0
def gotE (l : List Int) (a : Int) : Int := if a < 0 ∨ (l.length : Int) < a then 2 else (scan 0 (l.drop a.toNat)).1
end Go.Proofs.YtcfidimnbamnkaaGreat.P2

/-
 Layer 2: a number is read out of bytes. Conditions: those written at each fact.
-/
namespace Go.Proofs.YtcfidimnbamnkaaGreat.P2
open Go.RowKit Go.Shelf
attribute [local go_sem] Oper.semAt_some

theorem Gath.kept {W W' : World} {row : Option Nat} {G : Nat} {n s : Int} (h : Gath W G n s) (hg : W.grownBy W' row) (hne : some G ≠ row) : Gath W' G n s := (hg.block G h.lt hne).trans h
theorem gath_own {β : Type} (G : Nat) (f g : β → Int) : Own (fun s W => Gath W G (f s) (g s)) := fun s X Y row hs hg hrow =>
 hs.kept hg (fun e' => by obtain ⟨o, ho, hc⟩ := hrow G e'.symm; rw [show X.heap[G]? = _ from hs] at ho; cases ho; cases hc)
theorem _root_.Go.Proofs.YtcfidimnbamnkaaGreat.Near.grown {s : Nat} {w W W' : World} {row : Option Nat} (h : Near s w W) (hg : W.grownBy W' row) (hr : ∀ k, row = some k → k = s ∨ w.heap.size ≤ k) : Near s w W' :=
 ⟨hg.os.trans h.os, hg.tape.trans h.tape, hg.output.trans h.output, Nat.le_trans h.size hg.size, fun k hk hs => (hg.block k (Nat.lt_of_lt_of_le hk h.size) (fun e => by rcases hr k e.symm with h | h <;> omega)).trans (h.block k hk hs)⟩
theorem near_own {β : Type} {G C : Nat} {w : World} (hC : w.heap.size ≤ C) : OwnFrom C (fun (_ : β) W => Near G w W) :=
 fun _ _ _ _ hs hg hr => hs.grown hg (fun k e => .inr (Nat.le_trans hC (hr k e).1))

def DidRead (w : World) (G : Nat) (l : List Int) (e : Ending) (w' : World) : Prop :=
 e = .returned (.int .i64 (scan 0 l).1) ∧ Near G w w' ∧ ((scan 0 l).1 = 0 → Gath w' G (numOf (l.take (scan 0 l).2)) (scan 0 l).2)

def Mid (w : World) (G : Nat) (pre : List B8) (W : World) : Prop :=
 ((Gath W G (numOf (pre.map (·.1))) pre.length ∧ Boxed W w.heap.size 258 (.pointer (some ⟨G, 0, none⟩))) ∧ Boxed W (w.heap.size + 1) 31 (.int .i64 6) ∧ Cont (pre.map (·.1))) ∧ Near G w W ∧ w.heap.size + 4 ≤ W.heap.size
def Left (w : World) (G : Nat) (c : Code) (pre : List B8) (W : World) : Prop :=
 (c = .exit 0 ∧ ∃ ev : Int, ((∀ r, scan 0 (pre.map (·.1) ++ r) = (ev, pre.length)) ∧ (Boxed W (w.heap.size + 1) 31 (.int .i64 ev) ∧ (ev = 0 → Gath W G (numOf (pre.map (·.1))) pre.length)))) ∧ Near G w W
theorem took_keeps {W w' : World} {G : Nat} {n s : Int} (hG : Gath W G n s) (hg : W.grownBy w' (some G)) : KeepsOthers W w' :=
 KeepsOthers.of_grownBy hg (fun j o ej hj => by cases ej; rw [show W.heap[G]? = _ from hG] at hj; cases hj; rfl)
theorem mid_next {w W w' : World} {G B : Nat} {pre : List B8} {d : B8} {n' : Int} (h : Mid w G pre W) (hGl : G < w.heap.size) (hg : W.grownBy w' (some G)) (hn : (pre.length : Int) ≤ 8 ∨ d.1 ≤ 1 → n' = numOf (pre.map (·.1)) + d.1 % 128 * 128 ^ ((pre.length : Int)).toNat)
  (hG : Gath w' G n' (pre.length + 1)) (hd : 128 ≤ d.1) (h9 : pre.length ≠ 9) :
  KeepsFrom B W w' ∧ KeepsBut (w.heap.size + 4) (fun k => k = G ∨ k = w.heap.size + 1) W w' ∧ Mid w G (pre ++ [d]) w' := by
 obtain ⟨⟨⟨h1, h2⟩, h3, h4⟩, h5, h6⟩ := h
 have hl := h4.1
 simp only [List.length_map] at hl
 have en := hn (.inl (by omega))
 refine ⟨(took_keeps h1 hg).from _, fun k hk hx => hg.block k (by omega) (fun e => hx (.inl (by cases e; rfl))), ⟨⟨?_, h2.kept hg (fun e => by cases e; omega)⟩, h3.kept hg (fun e => by cases e; omega), ?_⟩, h5.grown hg (fun k e => .inl (by cases e; rfl)), Nat.le_trans h6 hg.size⟩
 ·rw [List.map_append, List.map_cons, List.map_nil, numOf_snoc, List.length_append, List.length_map]
  rw [Int.toNat_natCast] at en
  rw [← en]
  exact hG
 ·rw [List.map_append]
  exact h4.snoc hd (by simp only [List.length_map]; omega)
theorem left_next {w W w' : World} {G B : Nat} {pre : List B8} {d : B8} {n' ev : Int} (h : Mid w G pre W) (hGl : G < w.heap.size) (hg : W.grownBy w' (some G)) (hn : (pre.length : Int) ≤ 8 ∨ d.1 ≤ 1 → n' = numOf (pre.map (·.1)) + d.1 % 128 * 128 ^ ((pre.length : Int)).toNat)
  (hG : Gath w' G n' (pre.length + 1)) (hev : (if pre.length = 9 ∧ 1 < d.1 then (7, pre.length + 1) else if 128 ≤ d.1 then (9, 0) else if d.1 = 0 ∧ 1 ≤ pre.length then (7, pre.length + 1) else (0, pre.length + 1)) = (ev, pre.length + 1)) :
  KeepsFrom B W (w'.setCell ⟨w.heap.size + 1, 0, none⟩ (.int .i64 ev)) ∧ Left w G (.exit 0) (pre ++ [d]) (w'.setCell ⟨w.heap.size + 1, 0, none⟩ (.int .i64 ev)) := by
 obtain ⟨⟨⟨h1, h2⟩, h3, h4⟩, h5, h6⟩ := h
 have hl := h4.1
 simp only [List.length_map] at hl
 have b1 : Boxed w' (w.heap.size + 1) 31 (.int .i64 6) := h3.kept hg (fun e => by cases e; omega)
 have hne : G ≠ w.heap.size + 1 := by omega
 refine ⟨((took_keeps h1 hg).trans (KeepsOthers.setCell _ _ _)).from _, ⟨rfl, ev, fun r => ?_, b1.set _, fun e0 => ?_⟩, (h5.grown hg (fun k e => .inl (by cases e; rfl))).set (.inr (by simp)) _⟩
 ·rw [List.map_append, List.map_cons, List.map_nil, List.append_assoc, List.singleton_append, scan_at h4, List.length_map, List.length_append, List.length_cons, List.length_nil]
  by_cases g1 : pre.length = 9 ∧ 1 < d.1
  ·rw [if_pos g1] at hev ⊢; exact hev
  ·rw [if_neg g1] at hev ⊢
   by_cases g2 : 128 ≤ d.1
   ·rw [if_pos g2] at hev; cases hev
   ·rw [if_neg g2] at hev ⊢; exact hev
 ·subst e0
  have hd : (pre.length : Int) ≤ 8 ∨ d.1 ≤ 1 := by
   by_cases g1 : pre.length = 9 ∧ 1 < d.1
   ·rw [if_pos g1] at hev; cases hev
   ·omega
  have en := hn hd
  have hs : Gath (w'.setCell ⟨w.heap.size + 1, 0, none⟩ (.int .i64 0)) G n' (pre.length + 1) := hG.kept (grownBy_setCell' w' _ _) (fun e => hne (by cases e; rfl))
  rw [List.map_append, List.map_cons, List.map_nil, numOf_snoc, List.length_append, List.length_map]
  rw [Int.toNat_natCast] at en
  rw [← en]
  exact hs

set_option maxRecDepth 100000 in
set_option maxHeartbeats 4000000 in
theorem read_in (L : List B8) (hL : L.length ≤ 1000000) (a : Nat) (ha : a ≤ L.length) (G : Nat) (A : Option Addr) (c : Nat) (w : World) (hG : Gath w G 0 0) (hr : Reads .u8 w (.slice A L.length c) (L.map (·.1)))
  (hA : ∀ b off, L ≠ [] → A = some ⟨b, off, none⟩ → b ≠ G) :
  Calls Tryz.prog 233 #[.pointer (some ⟨G, 0, none⟩), .slice A L.length c, .int .i64 a] w (DidRead w G ((L.drop a).map (·.1))) := by
 have HR := Lib.hid hr
 have HA := Lib.hid hA
 have hGl := hG.lt
 have t0 : decide ((a : Int) < 0) = false := by simp
 clear hr hA
 refine calls_marks Tryz.func233 rfl ?_
 simp only [Tryz.ntmps233, List.size_toArray, List.length_cons, List.length_nil, Nat.reduceAdd, Nat.reduceSub, Array.replicate_succ, Array.replicate_zero, List.push_toArray, List.append_toArray, List.nil_append, List.cons_append]
 go_wp2_with fail
 go_step3
 go_wp2_with fail
 go_step3
 go_wp2_with (go_at_call 247; refine (from_any _ _ _ A L.length c rfl).mono ?_; rintro e w' ⟨rfl, rfl⟩)
 obtain ⟨W0, hW0⟩ : ∃ W0, W0 = ((((w.alloc (.cells #[.pointer (some ⟨G, 0, none⟩)] 258)).alloc (.cells #[.int .i64 6] 31)).alloc (.cells #[.slice A L.length c] 76)).alloc (.cells #[.int .i64 a] 3)) := ⟨_, rfl⟩
 rw [← hW0]
 have hs0 : W0.heap.size = w.heap.size + 4 := by rw [hW0]; simp
 have b0 : Boxed W0 w.heap.size 258 (.pointer (some ⟨G, 0, none⟩)) := by rw [hW0]; exact (((Boxed.new w _ _).alloc _).alloc _).alloc _
 have b1 : Boxed W0 (w.heap.size + 1) 31 (.int .i64 6) := by
  rw [hW0]; have := ((Boxed.new (w.alloc (.cells #[.pointer (some ⟨G, 0, none⟩)] 258)) 31 (.int .i64 6)).alloc (.cells #[.slice A L.length c] 76)).alloc (.cells #[.int .i64 a] 3); rwa [World.size_alloc] at this
 have b2 : Boxed W0 (w.heap.size + 1 + 1) 76 (.slice A L.length c) := by
  rw [hW0]; have := (Boxed.new ((w.alloc (.cells #[.pointer (some ⟨G, 0, none⟩)] 258)).alloc (.cells #[.int .i64 6] 31)) 76 (.slice A L.length c)).alloc (.cells #[.int .i64 a] 3); rwa [World.size_alloc, World.size_alloc] at this
 have b3 : Boxed W0 (w.heap.size + 1 + 1 + 1) 3 (.int .i64 a) := by
  rw [hW0]; have := Boxed.new (((w.alloc (.cells #[.pointer (some ⟨G, 0, none⟩)] 258)).alloc (.cells #[.int .i64 6] 31)).alloc (.cells #[.slice A L.length c] 76)) 3 (.int .i64 a); rwa [World.size_alloc, World.size_alloc, World.size_alloc] at this
 have hB0 : Below w.heap.size w W0 := by rw [hW0]; exact ((((Below.refl _ w).alloc (Nat.le_refl _) _).alloc (by simp) _).alloc (by simp; omega) _).alloc (by simp; omega) _
 have hG0 : Gath W0 G 0 0 := (hB0.block G hGl).trans hG
 have hAlt : ∀ b off, L ≠ [] → A = some ⟨b, off, none⟩ → b < w.heap.size + 4 ∧ ¬ (b = G ∨ b = w.heap.size + 1) := by
  intro b off hne e
  obtain ⟨x, L', rfl⟩ := List.exists_cons_of_ne_nil hne
  obtain ⟨b', off', e1, e2, _⟩ := HR.out.at.2.2 0 x.1 rfl
  rw [e] at e1
  cases e1
  have := HA.out b off hne e
  omega
 have hseq := from1_stops L hL a ha (w.heap.size + 1 + 1 + 1) (w.heap.size + 1 + 1) (w.heap.size + 4) (fun k => k = G ∨ k = w.heap.size + 1) W0 A c (HR.out.below hB0) b3 b2 ⟨by omega, by omega⟩ ⟨by omega, by omega⟩ hAlt
 clear hW0 b2 b3 hAlt HR HA hG
 refine wp_rangeK (n₀ := w.heap.size + 4) (X := fun k => k = G ∨ k = w.heap.size + 1) (gf := 257) (lb := #[.pointer (some ⟨w.heap.size + 1 + 1 + 1, 0, none⟩), .pointer (some ⟨w.heap.size + 1 + 1, 0, none⟩)]) rfl (enters_of Tryz.func257 (by kernel_rfl) rfl)
  hseq (by omega) (fun _ => rfl)
  (Mid w G) (Left w G)
  ?oI ?oIx ⟨⟨⟨hG0, b0⟩, b1, Cont.nil⟩, Near.of hB0, by omega⟩
  (fun d => { tmps := #[Value.pointer (some ⟨G, 0, none⟩), Value.slice A L.length c, Value.int .i64 a, Value.pointer (some ⟨w.heap.size, 0, none⟩), undef, undef, Value.int .i64 0, Value.pointer (some ⟨w.heap.size + 1, 0, none⟩), .int .u8 d.1, Value.int .i64 a, .bool false, .bool false, Value.int .i64 a, Value.slice A L.length c, Value.int .i64 L.length, .bool false, .bool false, Value.slice A L.length c, Value.int .i64 a, Value.func (Fn.func 257) #[] #[.pointer (some ⟨w.heap.size + 1 + 1 + 1, 0, none⟩), .pointer (some ⟨w.heap.size + 1 + 1, 0, none⟩)], .int .u8 d.1, undef, undef, undef, undef, undef, undef, undef, undef, undef, undef, undef, undef, undef, undef, undef, undef, undef, undef, undef, undef, undef, undef, undef, undef, undef, undef, undef], defers := [] }) ?assign ?body ?done ?stop
 case oI =>
  exact OwnFrom.and (OwnFrom.and (OwnFrom.and (Own.from (gath_own G _ _) _) (Own.from (boxed_own _ _ _) _)) (OwnFrom.and (Own.from (boxed_own _ _ _) _) (ownFrom_pure _ _))) (OwnFrom.and (near_own (by omega)) (fun _ _ _ _ hs hg _ => Nat.le_trans hs hg.size))
 case oIx =>
  intro c
  refine OwnFrom.and ?_ (near_own (by omega))
  rintro pre W W' row ⟨hc, ev, h1, h2, h3⟩ hg hr
  exact ⟨hc, ev, h1, Own.from (boxed_own (β := Unit) (w.heap.size + 1) 31 (fun _ => .int .i64 ev)) W0.heap.size () W W' row h2 hg hr, fun e => Own.from (gath_own (β := Unit) G (fun _ => numOf (pre.map (·.1))) (fun _ => pre.length)) W0.heap.size () W W' row (h3 e) hg hr⟩
 case assign =>
  intro l' d W K' hK
  gi_wp2
  simpa using hK
 case body =>
  rintro l' pre ⟨z, hz0, hz1⟩ W hmid hlt
  have HMid := Lib.hid hmid
  have hm9 : pre.length ≤ 9 := by simpa using hmid.1.2.2.1
  have hb0 := hmid.1.1.2
  have hb1 := hmid.1.2.1
  have hc0 := hb0.cell
  have hnr := numOf_range (pre.map (·.1))
  rw [List.length_map] at hnr
  have HT := Lib.hid (take_any G pre.length hm9 _ z W hmid.1.1.1 hnr.1 hnr.2 hz0 hz1)
  have HB0 := Lib.hid hb0
  have HB1 := Lib.hid hb1
  obtain ⟨s, hs⟩ : ∃ s, pre.length = s := ⟨_, rfl⟩
  rw [hs] at HT hm9
  have HSE := Lib.hid hs
  clear hmid hnr hs hb0 hb1 hlt
  by_cases g9 : s = 9
  ·subst g9
   by_cases g1 : 1 < z
   ·gi_wp2_with (refine ⟨trivial, ?_⟩; gi_at_call 248; refine (CallsIn.inRound l' (callsIn_wide.2 HT.out)).mono ?_; rintro e w' ⟨⟨v, rfl⟩, hgr, n', hn0, hn1, hn, hG'⟩; have hb0' := HB0.out.kept hgr (fun e => by cases e; omega); have hb1' := HB1.out.kept hgr (fun e => by cases e; omega); have hc0' := hb0'.cell; have hc1' := hb1'.cell; have hf1' := hb1'.frozen; have hg1 := hG'.cell1; have HGR := Lib.hid hgr; have HN := Lib.hid hn; have HG2 := Lib.hid hG'; clear hgr hn hG' hb0' hb1' hc0)
    exact left_next (d := ⟨z, hz0, hz1⟩) HMid.out hGl HGR.out (by rw [HSE.out]; exact HN.out) (by rw [HSE.out]; exact HG2.out) (by rw [HSE.out]; dsimp only; rw [if_pos ⟨rfl, g1⟩])
   ·by_cases g0 : z = 0
    ·subst g0
     gi_wp2_with (refine ⟨trivial, ?_⟩; gi_at_call 248; refine (CallsIn.inRound l' (callsIn_wide.2 HT.out)).mono ?_; rintro e w' ⟨⟨v, rfl⟩, hgr, n', hn0, hn1, hn, hG'⟩; have hb0' := HB0.out.kept hgr (fun e => by cases e; omega); have hb1' := HB1.out.kept hgr (fun e => by cases e; omega); have hc0' := hb0'.cell; have hc1' := hb1'.cell; have hf1' := hb1'.frozen; have hg1 := hG'.cell1; have HGR := Lib.hid hgr; have HN := Lib.hid hn; have HG2 := Lib.hid hG'; clear hgr hn hG' hb0' hb1' hc0)
     exact left_next HMid.out hGl HGR.out (by rw [HSE.out]; exact HN.out) (by rw [HSE.out]; exact HG2.out) (by rw [HSE.out]; rfl)
    ·have g0' : z = 1 := by omega
     subst g0'
     gi_wp2_with (refine ⟨trivial, ?_⟩; gi_at_call 248; refine (CallsIn.inRound l' (callsIn_wide.2 HT.out)).mono ?_; rintro e w' ⟨⟨v, rfl⟩, hgr, n', hn0, hn1, hn, hG'⟩; have hb0' := HB0.out.kept hgr (fun e => by cases e; omega); have hb1' := HB1.out.kept hgr (fun e => by cases e; omega); have hc0' := hb0'.cell; have hc1' := hb1'.cell; have hf1' := hb1'.frozen; have hg1 := hG'.cell1; have HGR := Lib.hid hgr; have HN := Lib.hid hn; have HG2 := Lib.hid hG'; clear hgr hn hG' hb0' hb1' hc0)
     exact left_next HMid.out hGl HGR.out (by rw [HSE.out]; exact HN.out) (by rw [HSE.out]; exact HG2.out) (by rw [HSE.out]; rfl)
  ·have t1 : (((s : Nat) : Int) + 1 == 10) = false := beq_eq_false_iff_ne.2 (by omega)
   by_cases g2 : 128 ≤ z
   ·gi_wp2_with (refine ⟨trivial, ?_⟩; gi_at_call 248; refine (CallsIn.inRound l' (callsIn_wide.2 HT.out)).mono ?_; rintro e w' ⟨⟨v, rfl⟩, hgr, n', hn0, hn1, hn, hG'⟩; have hb0' := HB0.out.kept hgr (fun e => by cases e; omega); have hb1' := HB1.out.kept hgr (fun e => by cases e; omega); have hc0' := hb0'.cell; have hc1' := hb1'.cell; have hf1' := hb1'.frozen; have hg1 := hG'.cell1; have HGR := Lib.hid hgr; have HN := Lib.hid hn; have HG2 := Lib.hid hG'; clear hgr hn hG' hb0' hb1' hc0)
    exact mid_next HMid.out hGl HGR.out (by rw [HSE.out]; exact HN.out) (by rw [HSE.out]; exact HG2.out) g2 (by rw [HSE.out]; exact g9)
   ·by_cases g0 : z = 0
    ·subst g0
     by_cases g1 : 1 ≤ s
     ·have t2 : (1 : Int) < (s : Int) + 1 := by omega
      gi_wp2_with (refine ⟨trivial, ?_⟩; gi_at_call 248; refine (CallsIn.inRound l' (callsIn_wide.2 HT.out)).mono ?_; rintro e w' ⟨⟨v, rfl⟩, hgr, n', hn0, hn1, hn, hG'⟩; have hb0' := HB0.out.kept hgr (fun e => by cases e; omega); have hb1' := HB1.out.kept hgr (fun e => by cases e; omega); have hc0' := hb0'.cell; have hc1' := hb1'.cell; have hf1' := hb1'.frozen; have hg1 := hG'.cell1; have HGR := Lib.hid hgr; have HN := Lib.hid hn; have HG2 := Lib.hid hG'; clear hgr hn hG' hb0' hb1' hc0)
      exact left_next (d := ⟨0, hz0, hz1⟩) HMid.out hGl HGR.out (by rw [HSE.out]; exact HN.out) (by rw [HSE.out]; exact HG2.out) (by rw [HSE.out]; dsimp only; rw [if_neg (by omega), if_neg (by omega), if_pos ⟨rfl, g1⟩])
     ·have g1' : s = 0 := by omega
      subst g1'
      gi_wp2_with (refine ⟨trivial, ?_⟩; gi_at_call 248; refine (CallsIn.inRound l' (callsIn_wide.2 HT.out)).mono ?_; rintro e w' ⟨⟨v, rfl⟩, hgr, n', hn0, hn1, hn, hG'⟩; have hb0' := HB0.out.kept hgr (fun e => by cases e; omega); have hb1' := HB1.out.kept hgr (fun e => by cases e; omega); have hc0' := hb0'.cell; have hc1' := hb1'.cell; have hf1' := hb1'.frozen; have hg1 := hG'.cell1; have HGR := Lib.hid hgr; have HN := Lib.hid hn; have HG2 := Lib.hid hG'; clear hgr hn hG' hb0' hb1' hc0)
      exact left_next HMid.out hGl HGR.out (by rw [HSE.out]; exact HN.out) (by rw [HSE.out]; exact HG2.out) (by rw [HSE.out]; rfl)
    ·have t3 : (z == 0) = false := beq_eq_false_iff_ne.2 g0
     gi_wp2_with (refine ⟨trivial, ?_⟩; gi_at_call 248; refine (CallsIn.inRound l' (callsIn_wide.2 HT.out)).mono ?_; rintro e w' ⟨⟨v, rfl⟩, hgr, n', hn0, hn1, hn, hG'⟩; have hb0' := HB0.out.kept hgr (fun e => by cases e; omega); have hb1' := HB1.out.kept hgr (fun e => by cases e; omega); have hc0' := hb0'.cell; have hc1' := hb1'.cell; have hf1' := hb1'.frozen; have hg1 := hG'.cell1; have HGR := Lib.hid hgr; have HN := Lib.hid hn; have HG2 := Lib.hid hG'; clear hgr hn hG' hb0' hb1' hc0)
     exact left_next (d := ⟨z, hz0, hz1⟩) HMid.out hGl HGR.out (by rw [HSE.out]; exact HN.out) (by rw [HSE.out]; exact HG2.out) (by rw [HSE.out]; dsimp only; rw [if_neg (by omega), if_neg (by omega), if_neg (by omega)])
 case done =>
  rintro D ys W hD rfl ⟨⟨_, hb1, hcont⟩, hN, _⟩ hKD
  have hc1 := hb1.cell
  have e := scan_short hcont
  have E := Lib.hid e
  clear e
  go_wp2_with fail
  rw [Exit.noGoto_ret]
  refine ⟨by simp, .inl ⟨_, _, rfl, run_takeDeferred hKD, ?_⟩⟩
  refine ⟨_, results_tmp rfl _ _ _, by rw [E.out]; rfl, hN.grown (grownBy_putObj' W D _) (fun k e => .inr (by cases e; omega)), fun e => ?_⟩
  rw [E.out] at e
  cases e
 case stop =>
  rintro D c pre W hD hpre ⟨⟨rfl, ev, hsc, hb1, hg1⟩, hN⟩ hKD
  have hc1 := hb1.cell
  obtain ⟨r, hr⟩ := hpre
  have e := hsc (r.map (·.1))
  rw [← List.map_append, hr] at e
  have HS := Lib.hid e
  have HG := Lib.hid hg1
  have HR := Lib.hid hr
  clear hsc hg1 hr e
  go_wp2_with fail
  rw [Exit.noGoto_ret]
  refine ⟨by simp, .inl ⟨_, _, rfl, run_takeDeferred hKD, ?_⟩⟩
  refine ⟨_, results_tmp rfl _ _ _, by rw [HS.out]; rfl, hN.grown (grownBy_putObj' W D _) (fun k e => .inr (by cases e; omega)), fun e => ?_⟩
  rw [HS.out] at e
  have hgG := HG.out e
  have e3 : ((L.drop a).map (·.1)).take (scan 0 ((L.drop a).map (·.1))).2 = pre.map (·.1) := by
   rw [HS.out, ← HR.out, List.map_append]
   exact List.take_left' (by simp)
  rw [e3, HS.out]
  exact hgG.kept (grownBy_putObj' W D _) (fun e' => by cases e'; rw [show W.heap[G]? = _ from hgG] at hKD; cases hKD)
end Go.Proofs.YtcfidimnbamnkaaGreat.P2

/-
 Layer 2: GetU, Get. Conditions: those written at each fact.
-/
namespace Go.Proofs.YtcfidimnbamnkaaGreat.P2
open Go.RowKit Go.Shelf

def unz (n : Int) : Int := if n % 2 = 0 then n / 2 else -(n / 2) - 1

set_option maxHeartbeats 400000 in
theorem plain_any (G : Nat) (n s : Int) (w : World) (hG : Gath w G n s) : Calls Tryz.prog 214 #[.pointer (some ⟨G, 0, none⟩)] w fun e w' => e = .returned (.int .u64 n) ∧ w' = w := by
 have h0 := hG.cell0
 go_enter Tryz.func214, Tryz.ntmps214
 go_wp2
 go_ret
 exact ⟨rfl, rfl⟩
set_option maxHeartbeats 400000 in
theorem signed_any (G : Nat) (n s : Int) (hn0 : 0 ≤ n) (hn : n < 18446744073709551616) (w : World) (hG : Gath w G n s) : Calls Tryz.prog 235 #[.pointer (some ⟨G, 0, none⟩)] w fun e w' => e = .returned (.int .i64 (unz n)) ∧ w' = w := by
 have h0 := hG.cell0
 by_cases g : n % 2 = 1
 ·have t : (n % 2 == 1) = true := beq_iff_eq.2 g
  have E : Hid (bits .xor .i64 (-1) (n / 2) = unz n) := Lib.hid (by
   have e := Lib.i64_not (n / 2).toNat (by omega)
   rw [show (((n / 2).toNat : Nat) : Int) = n / 2 from by omega] at e
   rw [e, unz, if_neg (by omega)])
  clear g
  go_enter Tryz.func235, Tryz.ntmps235
  go_wp2
  go_ret
  exact ⟨by rw [← E.out]; rfl, rfl⟩
 ·have t : (n % 2 == 1) = false := beq_eq_false_iff_ne.2 g
  have E : Hid (unz n = n / 2) := Lib.hid (by rw [unz, if_pos (by omega)])
  clear g
  go_enter Tryz.func235, Tryz.ntmps235
  go_wp2
  go_ret
  exact ⟨by rw [E.out]; rfl, rfl⟩

set_option maxRecDepth 100000 in
set_option maxHeartbeats 1000000 in
theorem read_bad (l : Nat) (a : Int) (ha : a < 0 ∨ (l : Int) < a) (g A : Option Addr) (c : Nat) (w : World) :
  Calls Tryz.prog 233 #[.pointer g, .slice A l c, .int .i64 a] w (Ret w (.int .i64 2)) := by
 by_cases g0 : a < 0
 ·clear ha
  go_enter Tryz.func233, Tryz.ntmps233
  go_wp2_with fail
  go_step3
  go_wp2_with fail
  rw [Exit.noGoto_ret]
  go_ret
  exact ⟨rfl, by have := below_alloc w (.cells #[.pointer g] 258); exact this⟩
 ·have g1 : (l : Int) < a := by omega
  clear ha
  go_enter Tryz.func233, Tryz.ntmps233
  go_wp2_with fail
  go_step3
  go_wp2_with fail
  rw [Exit.noGoto_ret]
  go_ret
  exact ⟨rfl, by have := below_alloc w (.cells #[.pointer g] 258); exact this⟩
end Go.Proofs.YtcfidimnbamnkaaGreat.P2

/-
 Layer 2: GetU, Get: what comes of bytes. Conditions: those written at each fact.
-/
namespace Go.Proofs.YtcfidimnbamnkaaGreat.P2
open Go.RowKit Go.Shelf

theorem gath_drewN {w : World} {G : Nat} {n s : Int} (h : Gath w G n s) (m : Nat) : Gath (w.drewN m) G n s := h
theorem near_drewN {w w' : World} {G : Nat} (h : Near G w w') (m : Nat) : Near G w (w'.drewN m) := ⟨h.os, h.tape, h.output, h.size, h.block⟩
theorem near_below {G : Nat} {w w' : World} (h : Near G (w.alloc (.cells #[.int .u64 0, .int .i64 0] 256)) w') (hG : G = w.heap.size) : Below w.heap.size w w' := by
 subst hG
 refine (below_alloc w (.cells #[.int .u64 0, .int .i64 0] 256)).trans ⟨h.os, h.tape, h.output, ?_, fun k hk => ?_⟩
 ·have := h.size; simp at this ⊢; omega
 ·exact h.block k (by simp; omega) (by omega)
theorem got_bad {l : List Int} {a : Int} (h : a < 0 ∨ (l.length : Int) < a) : gotN l a = 0 ∧ gotP l a = 0 ∧ gotE l a = 2 := by
 unfold gotN gotP gotE; rw [if_pos h, if_pos h, if_pos h]; exact ⟨rfl, rfl, rfl⟩
theorem got_err {l : List Int} {a : Nat} (h : a ≤ l.length) (he : (scan 0 (l.drop a)).1 ≠ 0) : gotN l a = 0 ∧ gotP l a = 0 ∧ gotE l a = (scan 0 (l.drop a)).1 := by
 have hng : ¬ ((a : Int) < 0 ∨ (l.length : Int) < (a : Int)) := by omega
 unfold gotN gotP gotE
 rw [if_neg hng, if_neg hng, if_neg hng, Int.toNat_natCast, if_neg he, if_neg he]; exact ⟨rfl, rfl, rfl⟩
theorem got_ok {l : List Int} {a : Nat} (h : a ≤ l.length) (he : (scan 0 (l.drop a)).1 = 0) : gotN l a = numOf ((l.drop a).take (scan 0 (l.drop a)).2) ∧ gotP l a = a + (scan 0 (l.drop a)).2 ∧ gotE l a = 0 := by
 have hng : ¬ ((a : Int) < 0 ∨ (l.length : Int) < (a : Int)) := by omega
 unfold gotN gotP gotE
 rw [if_neg hng, if_neg hng, if_neg hng, Int.toNat_natCast, if_pos he, if_pos he, he]; exact ⟨rfl, rfl, rfl⟩
theorem scan_ten : ∀ (l : List Int) (s : Nat), s ≤ 9 → (∀ d ∈ l, 0 ≤ d) → (scan s l).1 = 0 → (scan s l).2 ≤ 9 ∨ ((scan s l).2 = 10 ∧ ∃ d, l[9 - s]? = some d ∧ d ≤ 1)
 | [], s, hs, _, h => by simp [scan] at h
 | d :: l, s, hs, hd, h => by
  rw [scan] at h ⊢
  by_cases h1 : s = 9 ∧ 1 < d
  ·rw [if_pos h1] at h; cases h
  ·rw [if_neg h1] at h ⊢
   by_cases h2 : 128 ≤ d
   ·rw [if_pos h2] at h ⊢
    have := scan_ten l (s + 1) (by omega) (fun x hx => hd x (List.mem_cons_of_mem _ hx)) h
    rcases this with g | ⟨g1, x, g2, g3⟩
    ·exact .inl g
    ·refine .inr ⟨g1, x, ?_, g3⟩
     rw [show 9 - s = (9 - (s + 1)) + 1 from by omega, List.getElem?_cons_succ]
     exact g2
   ·rw [if_neg h2] at h ⊢
    by_cases h3 : d = 0 ∧ 1 ≤ s
    ·rw [if_pos h3] at h; cases h
    ·rw [if_neg h3]
     by_cases h9 : s = 9
     ·subst h9
      exact .inr ⟨rfl, d, by simp, by omega⟩
     ·exact .inl (by simp only; omega)
theorem numOf_ten {l : List Int} (hd : ∀ d ∈ l, 0 ≤ d) (h : (scan 0 l).1 = 0) : numOf (l.take (scan 0 l).2) < 18446744073709551616 := by
 rcases scan_ten l 0 (by omega) hd h with g | ⟨g1, x, g2, g3⟩
 ·have := (numOf_range (l.take (scan 0 l).2)).2
  have hl : (l.take (scan 0 l).2).length ≤ 9 := by simp; omega
  have h2 : (128 : Int) ^ (l.take (scan 0 l).2).length ≤ 128 ^ 9 := by
   have : (128 : Nat) ^ (l.take (scan 0 l).2).length ≤ 128 ^ 9 := Nat.pow_le_pow_right (by omega) hl
   exact_mod_cast this
  omega
 ·rw [g1]
  obtain ⟨hlt, e⟩ := List.getElem?_eq_some_iff.1 g2
  have e2 : l.take 10 = l.take 9 ++ [x] := by
   rw [List.take_succ_eq_append_getElem (show 9 < l.length from hlt)]
   have : l[9] = x := e
   rw [this]
  have h0 := hd x (List.mem_of_getElem? g2)
  have h9 := (numOf_range (l.take 9)).2
  have hl : (l.take 9).length = 9 := by simp; have : 9 < l.length := hlt; omega
  rw [e2, numOf_snoc, hl]
  rw [hl] at h9
  omega

set_option maxRecDepth 100000 in
set_option maxHeartbeats 2000000 in
theorem getPlain_core (L : List B8) (hL : L.length ≤ 1000000) (a : Int) (G : Nat) (A : Option Addr) (c : Nat) (w : World) (hG : Gath w G 0 0) (hr : Reads .u8 w (.slice A L.length c) (L.map (·.1)))
  (hA : ∀ b off, L ≠ [] → A = some ⟨b, off, none⟩ → b ≠ G) :
  Calls Tryz.prog 213 #[.pointer (some ⟨G, 0, none⟩), .slice A L.length c, .int .i64 a, .func (.func 214) #[.pointer (some ⟨G, 0, none⟩)] #[]] w
   fun e w' => e = .returned (.tuple #[.int .u64 (gotN (L.map (·.1)) a), .int .i64 (gotP (L.map (·.1)) a), .int .i64 (gotE (L.map (·.1)) a)]) ∧ Near G w w' := by
 by_cases hb : a < 0 ∨ (L.length : Int) < a
 ·have RB := Lib.hid (read_bad L.length a hb (some ⟨G, 0, none⟩) A c w)
  have E := Lib.hid (got_bad (l := L.map (·.1)) (a := a) (by rw [List.length_map]; exact hb))
  clear hb hr hA
  go_enter Tryz.func213, Tryz.ntmps213
  go_wp2_with fail
  refine RB.out.mono ?_
  rintro e w' ⟨rfl, hbw⟩
  go_wp2_with fail
  go_ret3
  exact ⟨by rw [E.out.1, E.out.2.1, E.out.2.2]; rfl, Near.of hbw⟩
 ·obtain ⟨a', rfl⟩ : ∃ a' : Nat, a = a' := ⟨a.toNat, by omega⟩
  have ha : a' ≤ L.length := by omega
  have RD := Lib.hid (read_in L hL a' ha G A c w hG hr hA)
  have h0 : ∀ d ∈ (L.map (·.1)).drop a', 0 ≤ d := fun d hd => by
   obtain ⟨x, _, rfl⟩ := List.mem_map.1 (List.mem_of_mem_drop hd)
   exact x.2.1
  have hsz := scan_size ((L.map (·.1)).drop a') 0
  have hln : ((L.map (·.1)).drop a').length = L.length - a' := by simp
  rw [hln] at hsz
  have hmd : (L.drop a').map (·.1) = (L.map (·.1)).drop a' := by rw [List.map_drop]
  rw [hmd] at RD
  by_cases he : (scan 0 ((L.map (·.1)).drop a')).1 = 0
  ·have E := Lib.hid (got_ok (l := L.map (·.1)) (a := a') (by rw [List.length_map]; exact ha) he)
   have hn0 := (numOf_range (((L.map (·.1)).drop a').take (scan 0 ((L.map (·.1)).drop a')).2)).1
   have hn1 := numOf_ten h0 he
   have e2 := E.out
   obtain ⟨⟨se, sz⟩, hsc⟩ : ∃ sc, scan 0 ((L.map (·.1)).drop a') = sc := ⟨_, rfl⟩
   rw [hsc] at he hn0 hn1 hsz e2
   simp only at he hn0 hn1 hsz e2
   subst he
   have RD2 : Hid (Calls Tryz.prog 233 #[.pointer (some ⟨G, 0, none⟩), .slice A L.length c, .int .i64 a'] w fun e w' => e = .returned (.int .i64 0) ∧ Near G w w' ∧ Gath w' G (numOf (((L.map (·.1)).drop a').take sz)) sz) :=
    Lib.hid (RD.out.mono fun e w' ⟨h1, h2, h3⟩ => by rw [hsc] at h1 h3; exact ⟨h1, h2, h3 rfl⟩)
   have E2 : Hid (gotN (L.map (·.1)) a' = numOf (((L.map (·.1)).drop a').take sz) ∧ gotP (L.map (·.1)) a' = a' + sz ∧ gotE (L.map (·.1)) a' = 0) := Lib.hid e2
   clear e2
   generalize numOf (((L.map (·.1)).drop a').take sz) = nn at *
   have hsz2 : sz ≤ 1000000 := by omega
   clear hb hr hA RD hsc E hmd hln h0 hsz hG
   go_enter Tryz.func213, Tryz.ntmps213
   go_wp2_with fail
   refine RD2.out.mono ?_
   rintro e w' ⟨rfl, hN, hG'⟩
   have c1 := hG'.cell1
   have HN := Lib.hid hN
   have HG := Lib.hid hG'
   clear hN hG' RD2
   go_wp2_with fail
   go_quiet ((go_at_call 214; exact Calls.quiet_of_same (plain_any G nn sz _ (gath_drewN HG.out _))))
   go_wp2_with fail
   go_ret3
   exact ⟨by rw [E2.out.1, E2.out.2.1, E2.out.2.2]; rfl, near_drewN HN.out _⟩
  ·have E := Lib.hid (got_err (l := L.map (·.1)) (a := a') (by rw [List.length_map]; exact ha) he)
   have RD2 : Hid (Calls Tryz.prog 233 #[.pointer (some ⟨G, 0, none⟩), .slice A L.length c, .int .i64 a'] w fun e w' => e = .returned (.int .i64 (scan 0 ((L.map (·.1)).drop a')).1) ∧ Near G w w') :=
    Lib.hid (RD.out.mono fun e w' ⟨h1, h2, h3⟩ => ⟨h1, h2⟩)
   generalize (scan 0 ((L.map (·.1)).drop a')).1 = se at *
   have t : (se != 0) = true := by rw [bne_iff_ne]; exact he
   clear hb hr hA RD he hmd hln h0 hsz hG
   go_enter Tryz.func213, Tryz.ntmps213
   go_wp2_with fail
   refine RD2.out.mono ?_
   rintro e w' ⟨rfl, hN⟩
   have HN := Lib.hid hN
   clear hN RD2
   go_wp2_with fail
   go_ret3
   exact ⟨by rw [E.out.1, E.out.2.1, E.out.2.2]; rfl, HN.out⟩

set_option maxRecDepth 100000 in
set_option maxHeartbeats 1000000 in
theorem getU_any (l : List Int) (hl : l.length ≤ 1000000) (hb : ∀ z ∈ l, 0 ≤ z ∧ z < 256) (a : Int) (v : Value) (w : World) (hr : Reads .u8 w v l) :
  Calls Tryz.prog 190 #[v, .int .i64 a] w (Ret w (.tuple #[.int .u64 (gotN l a), .int .i64 (gotP l a), .int .i64 (gotE l a)])) := by
 obtain ⟨L, rfl⟩ := bytes_lift hb
 rw [List.length_map] at hl
 have hr' := hr.below (below_alloc w (.cells #[.int .u64 0, .int .i64 0] 256))
 obtain ⟨A, c, rfl, hc, hk⟩ := hr
 rw [List.length_map] at hr' ⊢
 have hG : Gath (w.alloc (.cells #[.int .u64 0, .int .i64 0] 256)) w.heap.size 0 0 := World.alloc_heap_new w _
 have K := Lib.hid (getPlain_core L hl a w.heap.size A c _ hG hr' (fun b off hne e => by
  obtain ⟨x, L', rfl⟩ := List.exists_cons_of_ne_nil hne
  obtain ⟨b', off', e1, e2, _⟩ := hk 0 x.1 rfl
  rw [e] at e1
  cases e1
  omega))
 clear hk hr' hG hb
 generalize L.map (·.1) = l at *
 go_enter Tryz.func190, Tryz.ntmps190
 go_wp2_with fail
 refine K.out.mono ?_
 rintro e w' ⟨rfl, hN⟩
 have HB := Lib.hid (near_below hN rfl)
 clear hN K
 go_wp2_with fail
 go_ret3
 exact ⟨rfl, HB.out⟩

set_option maxRecDepth 100000 in
set_option maxHeartbeats 2000000 in
theorem getSigned_core (L : List B8) (hL : L.length ≤ 1000000) (a : Int) (G : Nat) (A : Option Addr) (c : Nat) (w : World) (hG : Gath w G 0 0) (hr : Reads .u8 w (.slice A L.length c) (L.map (·.1)))
  (hA : ∀ b off, L ≠ [] → A = some ⟨b, off, none⟩ → b ≠ G) :
  Calls Tryz.prog 234 #[.pointer (some ⟨G, 0, none⟩), .slice A L.length c, .int .i64 a, .func (.func 235) #[.pointer (some ⟨G, 0, none⟩)] #[]] w
   fun e w' => e = .returned (.tuple #[.int .i64 (unz (gotN (L.map (·.1)) a)), .int .i64 (gotP (L.map (·.1)) a), .int .i64 (gotE (L.map (·.1)) a)]) ∧ Near G w w' := by
 by_cases hb : a < 0 ∨ (L.length : Int) < a
 ·have RB := Lib.hid (read_bad L.length a hb (some ⟨G, 0, none⟩) A c w)
  have E := Lib.hid (got_bad (l := L.map (·.1)) (a := a) (by rw [List.length_map]; exact hb))
  clear hb hr hA
  go_enter Tryz.func234, Tryz.ntmps234
  go_wp2_with fail
  refine RB.out.mono ?_
  rintro e w' ⟨rfl, hbw⟩
  go_wp2_with fail
  go_ret3
  exact ⟨by rw [E.out.1, E.out.2.1, E.out.2.2]; rfl, Near.of hbw⟩
 ·obtain ⟨a', rfl⟩ : ∃ a' : Nat, a = a' := ⟨a.toNat, by omega⟩
  have ha : a' ≤ L.length := by omega
  have RD := Lib.hid (read_in L hL a' ha G A c w hG hr hA)
  have h0 : ∀ d ∈ (L.map (·.1)).drop a', 0 ≤ d := fun d hd => by
   obtain ⟨x, _, rfl⟩ := List.mem_map.1 (List.mem_of_mem_drop hd)
   exact x.2.1
  have hsz := scan_size ((L.map (·.1)).drop a') 0
  have hln : ((L.map (·.1)).drop a').length = L.length - a' := by simp
  rw [hln] at hsz
  have hmd : (L.drop a').map (·.1) = (L.map (·.1)).drop a' := by rw [List.map_drop]
  rw [hmd] at RD
  by_cases he : (scan 0 ((L.map (·.1)).drop a')).1 = 0
  ·have E := Lib.hid (got_ok (l := L.map (·.1)) (a := a') (by rw [List.length_map]; exact ha) he)
   have hn0 := (numOf_range (((L.map (·.1)).drop a').take (scan 0 ((L.map (·.1)).drop a')).2)).1
   have hn1 := numOf_ten h0 he
   have e2 := E.out
   obtain ⟨⟨se, sz⟩, hsc⟩ : ∃ sc, scan 0 ((L.map (·.1)).drop a') = sc := ⟨_, rfl⟩
   rw [hsc] at he hn0 hn1 hsz e2
   simp only at he hn0 hn1 hsz e2
   subst he
   have RD2 : Hid (Calls Tryz.prog 233 #[.pointer (some ⟨G, 0, none⟩), .slice A L.length c, .int .i64 a'] w fun e w' => e = .returned (.int .i64 0) ∧ Near G w w' ∧ Gath w' G (numOf (((L.map (·.1)).drop a').take sz)) sz) :=
    Lib.hid (RD.out.mono fun e w' ⟨h1, h2, h3⟩ => by rw [hsc] at h1 h3; exact ⟨h1, h2, h3 rfl⟩)
   have E2 : Hid (gotN (L.map (·.1)) a' = numOf (((L.map (·.1)).drop a').take sz) ∧ gotP (L.map (·.1)) a' = a' + sz ∧ gotE (L.map (·.1)) a' = 0) := Lib.hid e2
   clear e2
   generalize numOf (((L.map (·.1)).drop a').take sz) = nn at *
   have hsz2 : sz ≤ 1000000 := by omega
   clear hb hr hA RD hsc E hmd hln h0 hsz hG
   go_enter Tryz.func234, Tryz.ntmps234
   go_wp2_with fail
   refine RD2.out.mono ?_
   rintro e w' ⟨rfl, hN, hG'⟩
   have c1 := hG'.cell1
   have HN := Lib.hid hN
   have HG := Lib.hid hG'
   clear hN hG' RD2
   go_wp2_with fail
   go_quiet ((go_at_call 235; exact Calls.quiet_of_same (signed_any G nn sz hn0 hn1 _ (gath_drewN HG.out _))))
   go_wp2_with fail
   go_ret3
   exact ⟨by rw [E2.out.1, E2.out.2.1, E2.out.2.2]; rfl, near_drewN HN.out _⟩
  ·have E := Lib.hid (got_err (l := L.map (·.1)) (a := a') (by rw [List.length_map]; exact ha) he)
   have RD2 : Hid (Calls Tryz.prog 233 #[.pointer (some ⟨G, 0, none⟩), .slice A L.length c, .int .i64 a'] w fun e w' => e = .returned (.int .i64 (scan 0 ((L.map (·.1)).drop a')).1) ∧ Near G w w') :=
    Lib.hid (RD.out.mono fun e w' ⟨h1, h2, h3⟩ => ⟨h1, h2⟩)
   generalize (scan 0 ((L.map (·.1)).drop a')).1 = se at *
   have t : (se != 0) = true := by rw [bne_iff_ne]; exact he
   clear hb hr hA RD he hmd hln h0 hsz hG
   go_enter Tryz.func234, Tryz.ntmps234
   go_wp2_with fail
   refine RD2.out.mono ?_
   rintro e w' ⟨rfl, hN⟩
   have HN := Lib.hid hN
   clear hN RD2
   go_wp2_with fail
   go_ret3
   exact ⟨by rw [E.out.1, E.out.2.1, E.out.2.2]; rfl, HN.out⟩

set_option maxRecDepth 100000 in
set_option maxHeartbeats 1000000 in
theorem get_any (l : List Int) (hl : l.length ≤ 1000000) (hb : ∀ z ∈ l, 0 ≤ z ∧ z < 256) (a : Int) (v : Value) (w : World) (hr : Reads .u8 w v l) :
  Calls Tryz.prog 216 #[v, .int .i64 a] w (Ret w (.tuple #[.int .i64 (unz (gotN l a)), .int .i64 (gotP l a), .int .i64 (gotE l a)])) := by
 obtain ⟨L, rfl⟩ := bytes_lift hb
 rw [List.length_map] at hl
 have hr' := hr.below (below_alloc w (.cells #[.int .u64 0, .int .i64 0] 256))
 obtain ⟨A, c, rfl, hc, hk⟩ := hr
 rw [List.length_map] at hr' ⊢
 have hG : Gath (w.alloc (.cells #[.int .u64 0, .int .i64 0] 256)) w.heap.size 0 0 := World.alloc_heap_new w _
 have K := Lib.hid (getSigned_core L hl a w.heap.size A c _ hG hr' (fun b off hne e => by
  obtain ⟨x, L', rfl⟩ := List.exists_cons_of_ne_nil hne
  obtain ⟨b', off', e1, e2, _⟩ := hk 0 x.1 rfl
  rw [e] at e1
  cases e1
  omega))
 clear hk hr' hG hb
 generalize L.map (·.1) = l at *
 go_enter Tryz.func216, Tryz.ntmps216
 go_wp2_with fail
 refine K.out.mono ?_
 rintro e w' ⟨rfl, hN⟩
 have HB := Lib.hid (near_below hN rfl)
 clear hN K
 go_wp2_with fail
 go_ret3
 exact ⟨rfl, HB.out⟩
end Go.Proofs.YtcfidimnbamnkaaGreat.P2

/-
 Layer 2: rows that are got out of bytes. Conditions: those written at each fact.
-/
namespace Go.Proofs.YtcfidimnbamnkaaGreat.P2
open Go.RowKit Go.Shelf

theorem scan_pos : ∀ (l : List Int) (s : Nat), (scan s l).1 = 0 → s + 1 ≤ (scan s l).2
 | [], s, h => by simp [scan] at h
 | d :: l, s, h => by
  rw [scan] at h ⊢
  by_cases h1 : s = 9 ∧ 1 < d
  ·rw [if_pos h1] at h; cases h
  ·rw [if_neg h1] at h ⊢
   by_cases h2 : 128 ≤ d
   ·rw [if_pos h2] at h ⊢
    have := scan_pos l (s + 1) h
    omega
   ·rw [if_neg h2]
    split <;> simp
theorem got_place {l : List Int} {a : Nat} (ha : a ≤ l.length) (h : gotE l a = 0) : ∃ p : Nat, gotP l a = p ∧ a < p ∧ p ≤ l.length := by
 by_cases he : (scan 0 (l.drop a)).1 = 0
 ·have e := (got_ok ha he).2.1
  have h1 := scan_pos (l.drop a) 0 he
  have h2 := (scan_size (l.drop a) 0).2
  have h3 : (l.drop a).length = l.length - a := by simp
  exact ⟨a + (scan 0 (l.drop a)).2, by rw [e]; simp, by omega, by omega⟩
 ·have := (got_err ha he).2.2
  rw [this] at h
  exact absurd h he
theorem got_range {l : List Int} (hb : ∀ z ∈ l, 0 ≤ z ∧ z < 256) (a : Int) : 0 ≤ gotN l a ∧ gotN l a < 18446744073709551616 := by
 unfold gotN
 split
 ·omega
 ·split
  ·rename_i h
   exact ⟨(numOf_range _).1, numOf_ten (fun d hd => (hb d (List.mem_of_mem_drop hd)).1) h⟩
  ·omega
theorem unz_range {n : Int} (h0 : 0 ≤ n) (h1 : n < 18446744073709551616) : -9223372036854775808 ≤ unz n ∧ unz n ≤ 9223372036854775807 := by
 unfold unz; split <;> omega

def behind (K : List Int) (r : List Int × Int × Int) : List Int × Int × Int := if r.2.2 = 0 then (K ++ r.1, r.2.1, 0) else ([], 0, r.2.2)
theorem infoI64 : (Tryz.prog.info? 2).map (fun i => (i.zero, i.size, i.bytes)) = some (some (.int .i64 0), 1, 8) := by kernel_rfl
end Go.Proofs.YtcfidimnbamnkaaGreat.P2

/-
 Layer 2: numbers put behind bytes. Conditions: those written at each fact.
-/
namespace Go.Proofs.YtcfidimnbamnkaaGreat.P2
open Go.RowKit Go.Shelf
attribute [local go_sem] Oper.semAt_some

theorem infoU8 : (Tryz.prog.info? 5).map (fun i => (i.zero, i.size, i.bytes)) = some (some (.int .u8 0), 1, 1) := by kernel_rfl
theorem sizeU8 : (Tryz.prog.info? 5).map (·.size) = some 1 := by kernel_rfl

def MadeB (w : World) (l : List Int) (e : Ending) (w' : World) : Prop :=
 ∃ v, e = .returned v ∧ Below w.heap.size w w' ∧ w'.ownsRow w.heap.size 5 1 v l.length (l.map (Value.int .u8))

def bytesOf (f : Int → Nat) (ms : List Int) : List Int := ms.flatMap (fun z => digs (f z))
theorem bytesOf_len {f : Int → Nat} : ∀ {ms : List Int}, (∀ z ∈ ms, f z < 18446744073709551616) → (bytesOf f ms).length ≤ 10 * ms.length
 | [], _ => by simp [bytesOf]
 | z :: ms, h => by
  have h1 := (digs_ten (h z (List.mem_cons_self ..))).2
  have h2 := bytesOf_len (f := f) (ms := ms) (fun y hy => h y (List.mem_cons_of_mem _ hy))
  simp only [bytesOf, List.flatMap_cons, List.length_append, List.length_cons] at h2 ⊢
  omega
theorem bytesOf_snoc {f : Int → Nat} {ms : List Int} {k : Nat} {z : Int} (h : ms[k]? = some z) : bytesOf f (ms.take (k + 1)) = bytesOf f (ms.take k) ++ digs (f z) := by
 obtain ⟨hk, e⟩ := List.getElem?_eq_some_iff.1 h
 rw [List.take_succ_eq_append_getElem hk, e]
 simp [bytesOf]

theorem collects_own (w : World) (C B : Nat) (hC : w.heap.size ≤ C) (f : List Int → List Int) : OwnFrom C (fun pre W => (∃ v, Boxed W B 76 v ∧ W.ownsRow w.heap.size 5 1 v (f pre).length ((f pre).map (Value.int .u8)) ∧ True) ∧ Below w.heap.size w W) :=
 OwnFrom.and (Own.from (holdsRow_own w.heap.size B 76 5 1 (fun pre => (f pre).length) (fun pre => (f pre).map (Value.int .u8)) (fun _ _ => True)) _) (ownFrom_below (Nat.le_refl _) hC)

set_option maxHeartbeats 400000 in
theorem asItIs_any (z : Int) (y : Nat) (hy : z.toNat = y) (h0 : 0 ≤ z) (h1 : z < 18446744073709551616) (w : World) : Calls Tryz.prog 210 #[.int .u64 z] w (fun e w' => e = .returned (.int .u64 y) ∧ w = w') := by
 obtain rfl : z = (y : Int) := by omega
 clear hy h0 h1
 go_enter Tryz.func210, Tryz.ntmps210
 go_wp2
 go_ret
 exact ⟨rfl, rfl⟩

set_option maxRecDepth 100000 in
set_option maxHeartbeats 4000000 in
theorem putU_core (l : List Int) (hl : l.length ≤ 100000) (ms : List Int) (hm : ms.length ≤ 1000) (hr : ∀ z ∈ ms, 0 ≤ z ∧ z < 18446744073709551616) (v v2 : Value) (w : World) (h : Reads .u8 w v l) (h2 : Reads .u64 w v2 ms) :
  Calls Tryz.prog 211 #[v, .func (.func 210) #[] #[], v2] w (MadeB w (l ++ bytesOf Int.toNat ms)) := by
 obtain ⟨i0, hi, hz0, hz1, hz2⟩ := info_parts infoU8
 obtain ⟨A, c, rfl, hc, hk⟩ := h
 obtain ⟨A2, c2, rfl, hc2, hk2⟩ := h2
 have HK := Lib.hid hk
 have HK2 := Lib.hid hk2
 have HR := Lib.hid hr
 clear hk hk2 hr
 have hmk : ∀ W : World, (Instr.makeSlice 76 (.int .i64 l.length) (.int .i64 (l.length + ms.length))).run Tryz.prog W = .ok (.slice (some ⟨W.heap.size, 0, none⟩) l.length (l.length + ms.length)) (W.alloc (.cells (madeCells #[.int .u8 0] (l.length + ms.length)) 5)) := by
  intro W
  have := run_make (P := Tryz.prog) W 76 5 i0 (.int .u8 0) Tryz.underlying76 hi hz0 .i64 .i64 l.length (l.length + ms.length) (by omega) (by omega) (by rw [hz2]; omega) (by omega)
  rw [hz1, show ((l.length : Int) + (ms.length : Int)).toNat = l.length + ms.length from by omega] at this
  simpa [Value.cells] using this
 refine calls_marks Tryz.func211 rfl ?_
 simp only [Tryz.ntmps211, List.size_toArray, List.length_cons, List.length_nil, Nat.reduceAdd, Nat.reduceSub, Array.replicate_succ, Array.replicate_zero, List.push_toArray, List.append_toArray, List.nil_append, List.cons_append]
 go_wp2_with fail
 obtain ⟨W0, hW0⟩ : ∃ W0, W0 = ((w.alloc (.cells (madeCells #[.int .u8 0] (l.length + ms.length)) 5)).alloc (.cells #[.slice (some ⟨w.heap.size, 0, none⟩) l.length (l.length + ms.length)] 76)) := ⟨_, rfl⟩
 rw [← hW0]
 have bO : Boxed W0 (w.heap.size + 1) 76 (.slice (some ⟨w.heap.size, 0, none⟩) l.length (l.length + ms.length)) := by
  rw [hW0]; have := Boxed.new (w.alloc (.cells (madeCells #[.int .u8 0] (l.length + ms.length)) 5)) 76 (.slice (some ⟨w.heap.size, 0, none⟩) l.length (l.length + ms.length)); rwa [World.size_alloc] at this
 have hg0 : W0.heap[w.heap.size]? = some (.cells (madeCells #[.int .u8 0] (l.length + ms.length)) 5 (0, 0)) := by
  rw [hW0]; exact (Below.heap_alloc _ _ _ (by simp)).trans (World.alloc_heap_new w _)
 have hB0 : Below w.heap.size w W0 := by rw [hW0]; exact ((Below.refl _ w).alloc (Nat.le_refl _) _).alloc (by simp) _
 have hs0 : W0.heap.size = w.heap.size + 2 := by rw [hW0]; simp
 obtain ⟨w1, hrun, hgr, hown⟩ := run_copy_made (P := Tryz.prog) (k := .u8) 76 76 3 5 Tryz.underlying76 sizeU8 w.heap.size (l.length + ms.length) l _
  (Reads.below ⟨A, c, rfl, hc, HK.out⟩ hB0) _ hg0 (size_madeCells _ _) (by omega) (by unfold maxLen; omega) w.heap.size (Nat.le_refl _)
 rw [hrun]
 have bO1 : Boxed w1 (w.heap.size + 1) 76 (.slice (some ⟨w.heap.size, 0, none⟩) l.length (l.length + ms.length)) := bO.kept hgr (by simp)
 have hB1 : Below w.heap.size w w1 := hB0.grown hgr hB0.size (fun k e => by cases e; exact Nat.le_refl _)
 clear hmk hW0 hrun hgr bO hg0 hs0 hB0
 go_wp2_with fail
 refine wp_loop (fun a' w' => ∃ (k : Nat) (ds : List Deferred) (u9 u25 u26 u27 u28 u29 u30 u31 u37 : Value), k ≤ ms.length ∧ Marks w.heap.size ds w' ∧
   (∃ v', Boxed w' (w.heap.size + 1) 76 v' ∧ w'.ownsRow w.heap.size 5 1 v' (l ++ bytesOf Int.toNat (ms.take k)).length ((l ++ bytesOf Int.toNat (ms.take k)).map (Value.int .u8)) ∧ True) ∧ Below w.heap.size w w' ∧
   a' = { tmps := #[Value.slice A l.length c, Value.func (Fn.func 210) #[] #[], Value.slice A2 ms.length c2, undef, undef, undef,
     Value.slice none 0 0, Value.pointer (some ⟨w.heap.size + 1, 0, none⟩), undef, u9, undef,
     Value.slice A l.length c, Value.int .i64 l.length, Value.slice A l.length c,
     Value.int .i64 l.length, Value.slice A2 ms.length c2, Value.int .i64 ms.length,
     Value.int .i64 (l.length + ms.length),
     Value.slice (some ⟨w.heap.size, 0, none⟩) l.length (l.length + ms.length),
     Value.slice (some ⟨w.heap.size, 0, none⟩) l.length (l.length + ms.length),
     Value.slice A l.length c, .int .i64 l.length, Value.slice A2 ms.length c2, .int .i64 ms.length, .int .i64 k, u25, u26, u27, u28, u29, u30, u31, undef,
     undef, undef, undef, undef, u37, undef], defers := ds })
  (fun a' _ => ms.length - (intOf (a'.tmps.getD 24 undef)).toNat) ?start ?round
 case start =>
  refine ⟨0, [], undef, undef, undef, undef, undef, undef, undef, undef, undef, by omega, trivial, ⟨_, bO1, by simpa [bytesOf] using hown, trivial⟩, hB1, rfl⟩
 case round =>
  rintro a' wr ⟨k, ds, u9, u25, u26, u27, u28, u29, u30, u31, u37, hk, hM, ⟨v', hv, hrow, _⟩, hB, rfl⟩
  clear bO1 hown hB1
  have hf64 : ∀ z ∈ ms, Int.toNat z < 18446744073709551616 := fun z hz => by have := HR.out z hz; exact by omega
  have hbl : (bytesOf Int.toNat (ms.take k)).length ≤ 10 * 1000 := by
   have := bytesOf_len (f := Int.toNat) (ms := ms.take k) (fun z hz => hf64 z (List.mem_of_mem_take hz))
   have hl2 : (ms.take k).length ≤ 1000 := by simp; omega
   omega
  by_cases g : k < ms.length
  ·obtain ⟨z, hz⟩ : ∃ z, ms[k]? = some z := ⟨_, List.getElem?_eq_getElem g⟩
   obtain ⟨b, off, rfl, hbw, hcell⟩ := HK2.out k z hz
   have hc1 := (hB.cell (p := ⟨b, off + k, none⟩) hbw).trans hcell
   have hzr := HR.out z (List.mem_of_getElem? hz)
   obtain ⟨y, hy⟩ : ∃ y, Int.toNat z = y := ⟨_, rfl⟩
   have hy64 : y < 18446744073709551616 := by rw [← hy]; exact hf64 z (List.mem_of_getElem? hz)
   have hsn := bytesOf_snoc (f := Int.toNat) hz
   rw [hy] at hsn
   have HS := Lib.hid hsn
   have HY := Lib.hid hy
   have hd10 := digs_ten hy64
   clear hcell hz hsn hy hf64
   generalize bytesOf Int.toNat (ms.take k) = K at *
   go_wp2_with (first | (go_at_call 210; refine (asItIs_any z y HY.out hzr.1 hzr.2 _).mono ?_; rintro e w' ⟨rfl, rfl⟩) | (go_at_call 230; refine (digits_any y _).mono ?_; rintro e w' ⟨rfl, rfl⟩))
   have bN := Boxed.new wr 55 (.int .u64 y)
   have hB2 : Below w.heap.size w (wr.alloc (.cells #[.int .u64 y] 55)) := hB.alloc hB.size _
   have hM2 : Marks w.heap.size ds (wr.alloc (.cells #[.int .u64 y] 55)) := hM.kept (fun D o hD _ => (Below.heap_alloc _ _ _ (Array.getElem?_eq_some_iff.1 hD).1).trans hD)
   have hsz := hB2.size
   refine wp_range (n₀ := w.heap.size) (gf := 246) (lb := #[.pointer (some ⟨wr.heap.size, 0, none⟩)]) rfl (enters_of Tryz.func246 (by kernel_rfl) rfl)
    (digits1_stops y hy64 wr.heap.size w.heap.size _ (by simp) bN.cell) hsz (fun _ => rfl)
    (fun pre W => ((∃ v', Boxed W (w.heap.size + 1) 76 v' ∧ W.ownsRow w.heap.size 5 1 v' (l ++ K ++ pre).length ((l ++ K ++ pre).map (Value.int .u8)) ∧ True) ∧ Below w.heap.size w W) ∧ Marks w.heap.size ds W) (fun _ _ _ => False)
    (OwnFrom.and (collects_own w _ _ hsz (fun pre => l ++ K ++ pre)) (marks_own hM2 (Nat.le_refl _))) (fun _ _ _ _ _ hs _ _ => hs)
    ⟨⟨⟨v', hv.alloc _, by rw [List.append_nil]; exact hrow.alloc _, trivial⟩, hB2⟩, hM2⟩
    (fun d => { tmps := #[Value.slice A l.length c, Value.func (Fn.func 210) #[] #[], Value.slice (some ⟨b, off, none⟩) ms.length c2, undef, undef, undef,
     Value.slice none 0 0, Value.pointer (some ⟨w.heap.size + 1, 0, none⟩), undef, .int .u64 z, .int .u8 d,
     Value.slice A l.length c, Value.int .i64 l.length, Value.slice A l.length c,
     Value.int .i64 l.length, Value.slice (some ⟨b, off, none⟩) ms.length c2, Value.int .i64 ms.length,
     Value.int .i64 (l.length + ms.length),
     Value.slice (some ⟨w.heap.size, 0, none⟩) l.length (l.length + ms.length),
     Value.slice (some ⟨w.heap.size, 0, none⟩) l.length (l.length + ms.length),
     Value.slice A l.length c, .int .i64 l.length, Value.slice (some ⟨b, off, none⟩) ms.length c2, .int .i64 ms.length, .int .i64 k, .bool true, .pointer (some ⟨b, off + k, none⟩), .int .u64 z, Value.func (Fn.func 210) #[] #[], .int .u64 z, .int .u64 y, .func (.func 246) #[] #[.pointer (some ⟨wr.heap.size, 0, none⟩)], .int .u8 d,
     undef, undef, undef, undef, u37, undef], defers := [] }) ?assign ?body ?done ?stop
   case assign =>
    intro l' d W K' hK
    gi_wp2
    simpa using hK
   case body =>
    rintro l' pre d W ⟨⟨⟨v2, hv2, hrow2, _⟩, hBw⟩, hMw⟩ hlt
    have hcc := hv2.cell
    have hpl : (l ++ K ++ pre).length ≤ 200000 := by simp; omega
    generalize hLL : l ++ K ++ pre = LL at *
    have HLL := Lib.hid hLL
    clear hLL hc1
    gi_wp2_with (gi_at_builtin; refine wpListIn_append_own _ rfl _ _ 76 rfl w.heap.size 5 i0 (.int .u8 0) 1 1 Tryz.underlying76 hi hz0 hz1 hz2 rfl (by decide) _ _ _ rfl (hrow2.alloc _) ⟨W.heap.size, 0, none⟩ 1 1 [.int .u8 d] rfl rfl (cell_one_new _ _ _) (by simp [Value.oneCell']) (by unfold maxLen; omega) (by omega) (by have := hBw.size; simp; omega) ?_; intro v3 w3 hown3 hgrow3 _; obtain ⟨g3, cap3, rfl⟩ := ownsRow_succ hown3; obtain ⟨hv4, hv5, hr5, hk5, hb5⟩ := hv2.appended (by decide) hrow2 hBw.size (by omega) hown3 hgrow3; have hc4 := hv4.cell; have hf4 := hv4.frozen)
    refine ⟨hk5.from _, hb5, ⟨⟨_, hv5, ?_, trivial⟩, hBw.trans hb5⟩, hMw.kept (fun D o hD ho => hk5.same D o hD ho)⟩
    rw [← List.append_assoc, HLL.out]
    simpa using hr5
   case done =>
    rintro D ys W hD rfl ⟨⟨⟨v2, hv2, hrow2, _⟩, hBw⟩, hMw⟩ hKD
    clear hc1
    go_wp2_with fail
    refine ⟨⟨k + 1, _, _, _, _, _, _, _, _, _, _, by omega, hMw.cons hM2 hD (by omega) hKD, ⟨v2, hv2, by rw [HS.out, ← List.append_assoc]; exact hrow2, trivial⟩, hBw, rfl⟩, by simp [intOf]; omega⟩
   case stop =>
    rintro D c pre W _ _ h _
    exact h.elim
  ·have hkl : k = ms.length := by omega
   subst hkl
   rw [List.take_of_length_le (Nat.le_refl _)] at hrow
   have hc1 := hv.cell
   have HO := Lib.hid hrow
   clear hrow g hk hbl
   go_wp2_with fail
   refine hM.leaves hB.size (fun w' hb hk => ?_)
   exact ⟨_, results_tmp rfl _ _ _, v', rfl, hB.trans hb, ownsRow_cells HO.out hk⟩

theorem fold_any2 (z : Int) (y : Nat) (hy : Lib.zigzag z = y) (h0 : -9223372036854775808 ≤ z) (h1 : z ≤ 9223372036854775807) (w : World) : Calls Tryz.prog 232 #[.int .i64 z] w (fun e w' => e = .returned (.int .u64 y) ∧ w = w') := hy ▸ fold_any z h0 h1 w

set_option maxRecDepth 100000 in
set_option maxHeartbeats 4000000 in
theorem put_core (l : List Int) (hl : l.length ≤ 100000) (ms : List Int) (hm : ms.length ≤ 1000) (hr : ∀ z ∈ ms, -9223372036854775808 ≤ z ∧ z ≤ 9223372036854775807) (v v2 : Value) (w : World) (h : Reads .u8 w v l) (h2 : Reads .i64 w v2 ms) :
  Calls Tryz.prog 231 #[v, .func (.func 232) #[] #[], v2] w (MadeB w (l ++ bytesOf Lib.zigzag ms)) := by
 obtain ⟨i0, hi, hz0, hz1, hz2⟩ := info_parts infoU8
 obtain ⟨A, c, rfl, hc, hk⟩ := h
 obtain ⟨A2, c2, rfl, hc2, hk2⟩ := h2
 have HK := Lib.hid hk
 have HK2 := Lib.hid hk2
 have HR := Lib.hid hr
 clear hk hk2 hr
 have hmk : ∀ W : World, (Instr.makeSlice 76 (.int .i64 l.length) (.int .i64 (l.length + ms.length))).run Tryz.prog W = .ok (.slice (some ⟨W.heap.size, 0, none⟩) l.length (l.length + ms.length)) (W.alloc (.cells (madeCells #[.int .u8 0] (l.length + ms.length)) 5)) := by
  intro W
  have := run_make (P := Tryz.prog) W 76 5 i0 (.int .u8 0) Tryz.underlying76 hi hz0 .i64 .i64 l.length (l.length + ms.length) (by omega) (by omega) (by rw [hz2]; omega) (by omega)
  rw [hz1, show ((l.length : Int) + (ms.length : Int)).toNat = l.length + ms.length from by omega] at this
  simpa [Value.cells] using this
 refine calls_marks Tryz.func231 rfl ?_
 simp only [Tryz.ntmps231, List.size_toArray, List.length_cons, List.length_nil, Nat.reduceAdd, Nat.reduceSub, Array.replicate_succ, Array.replicate_zero, List.push_toArray, List.append_toArray, List.nil_append, List.cons_append]
 go_wp2_with fail
 obtain ⟨W0, hW0⟩ : ∃ W0, W0 = ((w.alloc (.cells (madeCells #[.int .u8 0] (l.length + ms.length)) 5)).alloc (.cells #[.slice (some ⟨w.heap.size, 0, none⟩) l.length (l.length + ms.length)] 76)) := ⟨_, rfl⟩
 rw [← hW0]
 have bO : Boxed W0 (w.heap.size + 1) 76 (.slice (some ⟨w.heap.size, 0, none⟩) l.length (l.length + ms.length)) := by
  rw [hW0]; have := Boxed.new (w.alloc (.cells (madeCells #[.int .u8 0] (l.length + ms.length)) 5)) 76 (.slice (some ⟨w.heap.size, 0, none⟩) l.length (l.length + ms.length)); rwa [World.size_alloc] at this
 have hg0 : W0.heap[w.heap.size]? = some (.cells (madeCells #[.int .u8 0] (l.length + ms.length)) 5 (0, 0)) := by
  rw [hW0]; exact (Below.heap_alloc _ _ _ (by simp)).trans (World.alloc_heap_new w _)
 have hB0 : Below w.heap.size w W0 := by rw [hW0]; exact ((Below.refl _ w).alloc (Nat.le_refl _) _).alloc (by simp) _
 have hs0 : W0.heap.size = w.heap.size + 2 := by rw [hW0]; simp
 obtain ⟨w1, hrun, hgr, hown⟩ := run_copy_made (P := Tryz.prog) (k := .u8) 76 76 3 5 Tryz.underlying76 sizeU8 w.heap.size (l.length + ms.length) l _
  (Reads.below ⟨A, c, rfl, hc, HK.out⟩ hB0) _ hg0 (size_madeCells _ _) (by omega) (by unfold maxLen; omega) w.heap.size (Nat.le_refl _)
 rw [hrun]
 have bO1 : Boxed w1 (w.heap.size + 1) 76 (.slice (some ⟨w.heap.size, 0, none⟩) l.length (l.length + ms.length)) := bO.kept hgr (by simp)
 have hB1 : Below w.heap.size w w1 := hB0.grown hgr hB0.size (fun k e => by cases e; exact Nat.le_refl _)
 clear hmk hW0 hrun hgr bO hg0 hs0 hB0
 go_wp2_with fail
 refine wp_loop (fun a' w' => ∃ (k : Nat) (ds : List Deferred) (u9 u25 u26 u27 u28 u29 u30 u31 u37 : Value), k ≤ ms.length ∧ Marks w.heap.size ds w' ∧
   (∃ v', Boxed w' (w.heap.size + 1) 76 v' ∧ w'.ownsRow w.heap.size 5 1 v' (l ++ bytesOf Lib.zigzag (ms.take k)).length ((l ++ bytesOf Lib.zigzag (ms.take k)).map (Value.int .u8)) ∧ True) ∧ Below w.heap.size w w' ∧
   a' = { tmps := #[Value.slice A l.length c, Value.func (Fn.func 232) #[] #[], Value.slice A2 ms.length c2, undef, undef, undef,
     Value.slice none 0 0, Value.pointer (some ⟨w.heap.size + 1, 0, none⟩), undef, u9, undef,
     Value.slice A l.length c, Value.int .i64 l.length, Value.slice A l.length c,
     Value.int .i64 l.length, Value.slice A2 ms.length c2, Value.int .i64 ms.length,
     Value.int .i64 (l.length + ms.length),
     Value.slice (some ⟨w.heap.size, 0, none⟩) l.length (l.length + ms.length),
     Value.slice (some ⟨w.heap.size, 0, none⟩) l.length (l.length + ms.length),
     Value.slice A l.length c, .int .i64 l.length, Value.slice A2 ms.length c2, .int .i64 ms.length, .int .i64 k, u25, u26, u27, u28, u29, u30, u31, undef,
     undef, undef, undef, undef, u37, undef], defers := ds })
  (fun a' _ => ms.length - (intOf (a'.tmps.getD 24 undef)).toNat) ?start ?round
 case start =>
  refine ⟨0, [], undef, undef, undef, undef, undef, undef, undef, undef, undef, by omega, trivial, ⟨_, bO1, by simpa [bytesOf] using hown, trivial⟩, hB1, rfl⟩
 case round =>
  rintro a' wr ⟨k, ds, u9, u25, u26, u27, u28, u29, u30, u31, u37, hk, hM, ⟨v', hv, hrow, _⟩, hB, rfl⟩
  clear bO1 hown hB1
  have hf64 : ∀ z ∈ ms, Lib.zigzag z < 18446744073709551616 := fun z hz => by have := HR.out z hz; exact Lib.zigzag_lt this.1 this.2
  have hbl : (bytesOf Lib.zigzag (ms.take k)).length ≤ 10 * 1000 := by
   have := bytesOf_len (f := Lib.zigzag) (ms := ms.take k) (fun z hz => hf64 z (List.mem_of_mem_take hz))
   have hl2 : (ms.take k).length ≤ 1000 := by simp; omega
   omega
  by_cases g : k < ms.length
  ·obtain ⟨z, hz⟩ : ∃ z, ms[k]? = some z := ⟨_, List.getElem?_eq_getElem g⟩
   obtain ⟨b, off, rfl, hbw, hcell⟩ := HK2.out k z hz
   have hc1 := (hB.cell (p := ⟨b, off + k, none⟩) hbw).trans hcell
   have hzr := HR.out z (List.mem_of_getElem? hz)
   obtain ⟨y, hy⟩ : ∃ y, Lib.zigzag z = y := ⟨_, rfl⟩
   have hy64 : y < 18446744073709551616 := by rw [← hy]; exact hf64 z (List.mem_of_getElem? hz)
   have hsn := bytesOf_snoc (f := Lib.zigzag) hz
   rw [hy] at hsn
   have HS := Lib.hid hsn
   have HY := Lib.hid hy
   have hd10 := digs_ten hy64
   clear hcell hz hsn hy hf64
   generalize bytesOf Lib.zigzag (ms.take k) = K at *
   go_wp2_with (first | (go_at_call 232; refine (fold_any2 z y HY.out hzr.1 hzr.2 _).mono ?_; rintro e w' ⟨rfl, rfl⟩) | (go_at_call 230; refine (digits_any y _).mono ?_; rintro e w' ⟨rfl, rfl⟩))
   have bN := Boxed.new wr 55 (.int .u64 y)
   have hB2 : Below w.heap.size w (wr.alloc (.cells #[.int .u64 y] 55)) := hB.alloc hB.size _
   have hM2 : Marks w.heap.size ds (wr.alloc (.cells #[.int .u64 y] 55)) := hM.kept (fun D o hD _ => (Below.heap_alloc _ _ _ (Array.getElem?_eq_some_iff.1 hD).1).trans hD)
   have hsz := hB2.size
   refine wp_range (n₀ := w.heap.size) (gf := 246) (lb := #[.pointer (some ⟨wr.heap.size, 0, none⟩)]) rfl (enters_of Tryz.func246 (by kernel_rfl) rfl)
    (digits1_stops y hy64 wr.heap.size w.heap.size _ (by simp) bN.cell) hsz (fun _ => rfl)
    (fun pre W => ((∃ v', Boxed W (w.heap.size + 1) 76 v' ∧ W.ownsRow w.heap.size 5 1 v' (l ++ K ++ pre).length ((l ++ K ++ pre).map (Value.int .u8)) ∧ True) ∧ Below w.heap.size w W) ∧ Marks w.heap.size ds W) (fun _ _ _ => False)
    (OwnFrom.and (collects_own w _ _ hsz (fun pre => l ++ K ++ pre)) (marks_own hM2 (Nat.le_refl _))) (fun _ _ _ _ _ hs _ _ => hs)
    ⟨⟨⟨v', hv.alloc _, by rw [List.append_nil]; exact hrow.alloc _, trivial⟩, hB2⟩, hM2⟩
    (fun d => { tmps := #[Value.slice A l.length c, Value.func (Fn.func 232) #[] #[], Value.slice (some ⟨b, off, none⟩) ms.length c2, undef, undef, undef,
     Value.slice none 0 0, Value.pointer (some ⟨w.heap.size + 1, 0, none⟩), undef, .int .i64 z, .int .u8 d,
     Value.slice A l.length c, Value.int .i64 l.length, Value.slice A l.length c,
     Value.int .i64 l.length, Value.slice (some ⟨b, off, none⟩) ms.length c2, Value.int .i64 ms.length,
     Value.int .i64 (l.length + ms.length),
     Value.slice (some ⟨w.heap.size, 0, none⟩) l.length (l.length + ms.length),
     Value.slice (some ⟨w.heap.size, 0, none⟩) l.length (l.length + ms.length),
     Value.slice A l.length c, .int .i64 l.length, Value.slice (some ⟨b, off, none⟩) ms.length c2, .int .i64 ms.length, .int .i64 k, .bool true, .pointer (some ⟨b, off + k, none⟩), .int .i64 z, Value.func (Fn.func 232) #[] #[], .int .i64 z, .int .u64 y, .func (.func 246) #[] #[.pointer (some ⟨wr.heap.size, 0, none⟩)], .int .u8 d,
     undef, undef, undef, undef, u37, undef], defers := [] }) ?assign ?body ?done ?stop
   case assign =>
    intro l' d W K' hK
    gi_wp2
    simpa using hK
   case body =>
    rintro l' pre d W ⟨⟨⟨v2, hv2, hrow2, _⟩, hBw⟩, hMw⟩ hlt
    have hcc := hv2.cell
    have hpl : (l ++ K ++ pre).length ≤ 200000 := by simp; omega
    generalize hLL : l ++ K ++ pre = LL at *
    have HLL := Lib.hid hLL
    clear hLL hc1
    gi_wp2_with (gi_at_builtin; refine wpListIn_append_own _ rfl _ _ 76 rfl w.heap.size 5 i0 (.int .u8 0) 1 1 Tryz.underlying76 hi hz0 hz1 hz2 rfl (by decide) _ _ _ rfl (hrow2.alloc _) ⟨W.heap.size, 0, none⟩ 1 1 [.int .u8 d] rfl rfl (cell_one_new _ _ _) (by simp [Value.oneCell']) (by unfold maxLen; omega) (by omega) (by have := hBw.size; simp; omega) ?_; intro v3 w3 hown3 hgrow3 _; obtain ⟨g3, cap3, rfl⟩ := ownsRow_succ hown3; obtain ⟨hv4, hv5, hr5, hk5, hb5⟩ := hv2.appended (by decide) hrow2 hBw.size (by omega) hown3 hgrow3; have hc4 := hv4.cell; have hf4 := hv4.frozen)
    refine ⟨hk5.from _, hb5, ⟨⟨_, hv5, ?_, trivial⟩, hBw.trans hb5⟩, hMw.kept (fun D o hD ho => hk5.same D o hD ho)⟩
    rw [← List.append_assoc, HLL.out]
    simpa using hr5
   case done =>
    rintro D ys W hD rfl ⟨⟨⟨v2, hv2, hrow2, _⟩, hBw⟩, hMw⟩ hKD
    clear hc1
    go_wp2_with fail
    refine ⟨⟨k + 1, _, _, _, _, _, _, _, _, _, _, by omega, hMw.cons hM2 hD (by omega) hKD, ⟨v2, hv2, by rw [HS.out, ← List.append_assoc]; exact hrow2, trivial⟩, hBw, rfl⟩, by simp [intOf]; omega⟩
   case stop =>
    rintro D c pre W _ _ h _
    exact h.elim
  ·have hkl : k = ms.length := by omega
   subst hkl
   rw [List.take_of_length_le (Nat.le_refl _)] at hrow
   have hc1 := hv.cell
   have HO := Lib.hid hrow
   clear hrow g hk hbl
   go_wp2_with fail
   refine hM.leaves hB.size (fun w' hb hk => ?_)
   exact ⟨_, results_tmp rfl _ _ _, v', rfl, hB.trans hb, ownsRow_cells HO.out hk⟩
end Go.Proofs.YtcfidimnbamnkaaGreat.P2

/-
 Layer 2: PutU, Put, PutRow. Conditions: those written at each fact.
-/
namespace Go.Proofs.YtcfidimnbamnkaaGreat.P2
open Go.RowKit Go.Shelf

theorem MadeB.up {w w1 : World} {l : List Int} {e : Ending} {w' : World} (h : MadeB w1 l e w') (hb : Below w.heap.size w w1) : MadeB w l e w' := by
 obtain ⟨v, rfl, h1, h2⟩ := h
 exact ⟨v, rfl, under hb h1, owns_less h2 hb.size⟩

set_option maxHeartbeats 1000000 in
theorem putU_any (l : List Int) (hl : l.length ≤ 100000) (x : Nat) (hx : x < 18446744073709551616) (v : Value) (w : World) (h : Reads .u8 w v l) :
  Calls Tryz.prog 185 #[v, .int .u64 x] w (MadeB w (l ++ digs x)) := by
 have e : bytesOf Int.toNat [(x : Int)] = digs x := by simp [bytesOf]
 have K := Lib.hid (putU_core l hl [(x : Int)] (by simp) (fun z hz => by simp at hz; subst hz; omega) v _ (w.alloc (.cells #[.int .u64 x] 55)) (h.below (below_alloc w _)) reads_one)
 rw [e] at K
 clear e
 go_enter Tryz.func185, Tryz.ntmps185
 go_wp2_with fail
 refine (K.out).mono ?_
 rintro e w' ⟨v', rfl, hb, ho⟩
 have hb' := under (below_alloc w _) hb
 have ho' := owns_less ho (Nat.le_of_lt (show w.heap.size < (w.alloc (.cells #[.int .u64 x] 55)).heap.size by simp))
 clear hb ho K
 go_wp2_with fail
 go_ret
 exact ⟨v', rfl, hb', ho'⟩

set_option maxHeartbeats 1000000 in
theorem put_any (l : List Int) (hl : l.length ≤ 100000) (x : Int) (h1 : -9223372036854775808 ≤ x) (h2 : x ≤ 9223372036854775807) (v : Value) (w : World) (h : Reads .u8 w v l) :
  Calls Tryz.prog 212 #[v, .int .i64 x] w (MadeB w (l ++ digs (Lib.zigzag x))) := by
 have e : bytesOf Lib.zigzag [x] = digs (Lib.zigzag x) := by simp [bytesOf]
 have K := Lib.hid (put_core l hl [x] (by simp) (fun z hz => by simp at hz; subst hz; omega) v _ (w.alloc (.cells #[.int .i64 x] 2)) (h.below (below_alloc w _)) reads_one)
 rw [e] at K
 clear e
 go_enter Tryz.func212, Tryz.ntmps212
 go_wp2_with fail
 refine (K.out).mono ?_
 rintro e w' ⟨v', rfl, hb, ho⟩
 have hb' := under (below_alloc w _) hb
 have ho' := owns_less ho (Nat.le_of_lt (show w.heap.size < (w.alloc (.cells #[.int .i64 x] 2)).heap.size by simp))
 clear hb ho K
 go_wp2_with fail
 go_ret
 exact ⟨v', rfl, hb', ho'⟩

end Go.Proofs.YtcfidimnbamnkaaGreat.P2

/-
 Layer 2, plain facts: what was put is got. No program. Conditions: those written at each fact.
-/
namespace Go.Proofs.YtcfidimnbamnkaaGreat.P2

theorem scan_digs : ∀ (f s n : Nat) (r : List Int), s + f = 9 → n < 2 ^ (64 - 7 * s) → (0 < n ∨ s = 0) → scan s (digs n ++ r) = (0, s + (digs n).length)
 | 0, s, n, r, hs, hn, h0 => by
  obtain rfl : s = 9 := by omega
  rw [digs_end (by omega), List.singleton_append, scan, if_neg (by omega), if_neg (by omega), if_neg (by omega)]
  rfl
 | f + 1, s, n, r, hs, hn, h0 => by
  by_cases g : n < 128
  ·rw [digs_end g, List.singleton_append, scan, if_neg (by omega), if_neg (by omega), if_neg (by omega)]
   rfl
  ·rw [digs_more g, List.cons_append, scan, if_neg (by omega), if_pos (by omega), scan_digs f (s + 1) (n / 128) r (by omega) ?_ (.inl (by omega)), List.length_cons]
   ·congr 1; omega
   ·have e : 2 ^ (64 - 7 * s) = 2 ^ (64 - 7 * (s + 1)) * 128 := by
     rw [show 64 - 7 * s = (64 - 7 * (s + 1)) + 7 from by omega, Nat.pow_add]
    rw [e] at hn
    omega
theorem num_digs : ∀ (k n : Nat), n < 128 ^ (k + 1) → numOf (digs n) = n
 | 0, n, h => by rw [digs_end (by omega)]; simp [numOf]; omega
 | k + 1, n, h => by
  by_cases g : n < 128
  ·rw [digs_end g]; simp [numOf]; omega
  ·rw [digs_more g, numOf, num_digs k (n / 128) (by rw [Nat.pow_succ] at h; omega)]
   omega
theorem unz_zig (m : Int) : unz (Lib.zigzag m) = m := by unfold unz Lib.zigzag; split <;> split <;> omega
theorem zig_unz {n : Nat} : Lib.zigzag (unz n) = n := by unfold unz Lib.zigzag; split <;> split <;> omega
theorem digs_bytes : ∀ (k n : Nat), n < 128 ^ (k + 1) → ∀ z ∈ digs n, 0 ≤ z ∧ z < 256
 | 0, n, h => by rw [digs_end (by omega)]; intro z hz; simp at hz; omega
 | k + 1, n, h => by
  by_cases g : n < 128
  ·rw [digs_end g]; intro z hz; simp at hz; omega
  ·rw [digs_more g]
   intro z hz
   rcases List.mem_cons.1 hz with rfl | hz
   ·omega
   ·exact digs_bytes k (n / 128) (by rw [Nat.pow_succ] at h; omega) z hz
theorem digs_b {n : Nat} (h : n < 18446744073709551616) : ∀ z ∈ digs n, 0 ≤ z ∧ z < 256 := digs_bytes 9 n (by omega)

theorem got_put {l r : List Int} {n : Nat} (h : n < 18446744073709551616) : gotN (l ++ digs n ++ r) l.length = n ∧ gotP (l ++ digs n ++ r) l.length = l.length + (digs n).length ∧ gotE (l ++ digs n ++ r) l.length = 0 := by
 have hd : (l ++ digs n ++ r).drop l.length = digs n ++ r := by rw [List.append_assoc, List.drop_left]
 have hs := scan_digs 9 0 n r (by omega) (by omega) (.inr rfl)
 rw [Nat.zero_add] at hs
 have hl : l.length ≤ (l ++ digs n ++ r).length := by simp
 have h1 := got_ok (l := l ++ digs n ++ r) (a := l.length) hl (by rw [hd, hs])
 rw [hd, hs] at h1
 simp only [List.take_left] at h1
 rw [num_digs 9 n (by omega)] at h1
 exact h1
end Go.Proofs.YtcfidimnbamnkaaGreat.P2

/-
 Layer 2: bytes.Equal, bytes.HasPrefix. Conditions: those written at each fact.
-/
namespace Go.Proofs.YtcfidimnbamnkaaGreat.P2
open Go.RowKit

theorem nums_inj : ∀ {l m : List Int}, (∀ z ∈ l, 0 ≤ z ∧ z < 256) → (∀ z ∈ m, 0 ≤ z ∧ z < 256) → strOfNums l = strOfNums m → l = m := by
 intro l m hl hm e
 have e1 : l.map (fun n => UInt8.ofNat n.toNat) = m.map (fun n => UInt8.ofNat n.toNat) := by
  have := congrArg (fun b : ByteArray => b.data.toList) e
  simpa [strOfNums] using this
 clear e
 induction l generalizing m with
 | nil => cases m with
  | nil => rfl
  | cons y m => simp at e1
 | cons x l ih => cases m with
  | nil => simp at e1
  | cons y m =>
   simp only [List.map_cons, List.cons.injEq] at e1
   obtain ⟨a, b⟩ := e1
   have hx := hl x (List.mem_cons_self ..)
   have hy := hm y (List.mem_cons_self ..)
   have e2 : (UInt8.ofNat x.toNat).toNat = (UInt8.ofNat y.toNat).toNat := by rw [a]
   simp at e2
   have e3 : x = y := by omega
   rw [e3, ih (fun z hz => hl z (List.mem_cons_of_mem _ hz)) (fun z hz => hm z (List.mem_cons_of_mem _ hz)) b]
theorem bytes_toList_inj {a b : ByteArray} (h : a.toList = b.toList) : a = b := by
 rw [ByteArray.toList_eq, ByteArray.toList_eq] at h
 cases a
 cases b
 simp only [ByteArray.mk.injEq]
 exact Array.toList_inj.1 h
def Lie (w : World) (b off : Nat) (l : List Int) : Prop := ∀ i z, l[i]? = some z → w.cell? ⟨b, off + i, none⟩ = some (.int .u8 z)
theorem Lie.getD {w : World} {b off : Nat} {l : List Int} (h : Lie w b off l) : ∀ i, i < l.length → w.cell? ⟨b, off + i, none⟩ = some (.int .u8 (l.getD i 0)) := by
 intro i hi
 have := h i l[i] (List.getElem?_eq_getElem hi)
 rw [this]
 simp [List.getD, hi]
theorem typeString : Tryz.prog.underlying 9 = some .string := Tryz.underlying9
set_option maxHeartbeats 1000000 in
theorem equalS (l m : List Int) (hl : ∀ z ∈ l, 0 ≤ z ∧ z < 256) (hm : ∀ z ∈ m, 0 ≤ z ∧ z < 256) (b off c b2 off2 c2 : Nat) (w : World) (h : Lie w b off l) (h2 : Lie w b2 off2 m) :
  Calls Tryz.prog 111 #[.slice (some ⟨b, off, none⟩) l.length c, .slice (some ⟨b2, off2, none⟩) m.length c2] w (Ret w (.bool (eqB l m))) := by
 have q1 := run_convert_bytes_arg (P := Tryz.prog) w 76 5 Tryz.underlying76 Tryz.underlying5 b off l.length c l rfl h.getD 9 typeString
 have q2 := run_convert_bytes_arg (P := Tryz.prog) w 76 5 Tryz.underlying76 Tryz.underlying5 b2 off2 m.length c2 m rfl h2.getD 9 typeString
 have E : Hid (eqB l m = ((strOfNums l).toList == (strOfNums m).toList)) := Lib.hid (by
  by_cases g : l = m
  ·subst g; rw [eqB_true rfl]; simp
  ·rw [eqB_false g]; symm; rw [beq_eq_false_iff_ne]; exact fun e => g (nums_inj hl hm (bytes_toList_inj e)))
 clear h h2
 go_enter Tryz.func111, Tryz.ntmps111
 go_wp2_with fail
 go_ret
 exact ⟨by rw [E.out]; rfl, Below.refl _ _⟩

def prefB (l m : List Int) : Bool := decide (m <+: l)
theorem prefB_of {l m : List Int} : prefB l m = (decide (m.length ≤ l.length) && eqB (l.take m.length) m) := by
 unfold prefB eqB
 rw [Bool.eq_iff_iff]
 simp only [Bool.and_eq_true, decide_eq_true_eq]
 constructor
 ·intro h
  exact ⟨h.length_le, (List.prefix_iff_eq_take.1 h).symm⟩
 ·rintro ⟨_, h⟩
  rw [List.prefix_iff_eq_take]
  exact h.symm
set_option maxHeartbeats 1000000 in
theorem hasPrefix (l m : List Int) (hl : ∀ z ∈ l, 0 ≤ z ∧ z < 256) (hm : ∀ z ∈ m, 0 ≤ z ∧ z < 256) (b off c b2 off2 c2 : Nat) (w : World) (hc : l.length ≤ c) (h : Lie w b off l) (h2 : Lie w b2 off2 m) :
  Calls Tryz.prog 54 #[.slice (some ⟨b, off, none⟩) l.length c, .slice (some ⟨b2, off2, none⟩) m.length c2] w (Ret w (.bool (prefB l m))) := by
 have E := Lib.hid (prefB_of (l := l) (m := m))
 by_cases g : m.length ≤ l.length
 ·have Q := Lib.hid (equalS (l.take m.length) m (fun z hz => hl z (List.mem_of_mem_take hz)) hm b off c b2 off2 c2 w (fun i z hz => by
   rw [List.getElem?_take] at hz
   split at hz
   ·exact h i z hz
   ·cases hz) h2)
  rw [List.length_take, Nat.min_eq_left g] at Q
  have E2 : Hid (prefB l m = eqB (l.take m.length) m) := Lib.hid (by rw [E.out, decide_eq_true g, Bool.true_and])
  generalize eqB (l.take m.length) m = r at *
  clear h h2 E
  go_enter Tryz.func54, Tryz.ntmps54
  go_wp2_with fail
  refine Q.out.mono ?_
  rintro e w' ⟨rfl, hb⟩
  have HB := Lib.hid hb
  clear hb Q
  go_wp2_with fail
  go_ret
  exact ⟨by rw [E2.out]; rfl, HB.out⟩
 ·have E2 : Hid (prefB l m = false) := Lib.hid (by rw [E.out, decide_eq_false g, Bool.false_and])
  clear h h2 E
  go_enter Tryz.func54, Tryz.ntmps54
  go_wp2_with fail
  go_ret
  exact ⟨by rw [E2.out]; rfl, Below.refl _ _⟩
end Go.Proofs.YtcfidimnbamnkaaGreat.P2

/-
 Layer 2, plain facts: what is got has just those bytes. No program. Conditions: those written at each fact.
-/
namespace Go.Proofs.YtcfidimnbamnkaaGreat.P2

theorem scan_canon : ∀ (l : List Int) (s : Nat), (∀ z ∈ l, 0 ≤ z ∧ z < 256) → (scan s l).1 = 0 → ∃ k, (scan s l).2 = s + k ∧ digs (numOf (l.take k)).toNat = l.take k ∧ (1 ≤ s → 1 ≤ numOf (l.take k))
 | [], s, _, h => by simp [scan] at h
 | d :: l, s, hb, h => by
  have hd := hb d (List.mem_cons_self ..)
  rw [scan] at h ⊢
  by_cases h1 : s = 9 ∧ 1 < d
  ·rw [if_pos h1] at h; cases h
  ·rw [if_neg h1] at h ⊢
   by_cases h2 : 128 ≤ d
   ·rw [if_pos h2] at h ⊢
    obtain ⟨k, e1, e2, e3⟩ := scan_canon l (s + 1) (fun z hz => hb z (List.mem_cons_of_mem _ hz)) h
    have h3 := e3 (by omega)
    refine ⟨k + 1, by omega, ?_, fun _ => ?_⟩
    ·rw [List.take_succ_cons, numOf]
     generalize numOf (l.take k) = N at *
     have e4 : (d % 128 + 128 * N).toNat / 128 = N.toNat := by omega
     rw [digs_more (by omega), e4, e2]
     congr 1
     omega
    ·rw [List.take_succ_cons, numOf]; omega
   ·rw [if_neg h2] at h ⊢
    by_cases h3 : d = 0 ∧ 1 ≤ s
    ·rw [if_pos h3] at h; cases h
    ·rw [if_neg h3]
     refine ⟨1, rfl, ?_, fun hs => ?_⟩
     ·simp only [List.take_succ_cons, List.take_zero, numOf]
      rw [digs_end (by omega)]
      congr 1
      omega
     ·simp only [List.take_succ_cons, List.take_zero, numOf]
      omega
theorem got_alone {l : List Int} (hb : ∀ z ∈ l, 0 ≤ z ∧ z < 256) {a : Nat} (ha : a ≤ l.length) (h : gotE l a = 0) :
  ∃ u p : Nat, gotN l a = u ∧ gotP l a = p ∧ u < 18446744073709551616 ∧ a < p ∧ p ≤ l.length ∧ digs u = (l.drop a).take (p - a) := by
 have he : (scan 0 (l.drop a)).1 = 0 := by
  by_cases he : (scan 0 (l.drop a)).1 = 0
  ·exact he
  ·have := (got_err ha he).2.2; rw [this] at h; exact absurd h he
 obtain ⟨e1, e2, _⟩ := got_ok ha he
 obtain ⟨p, f1, f2, f3⟩ := got_place ha h
 have hr := got_range hb a
 obtain ⟨k, g1, g2, _⟩ := scan_canon (l.drop a) 0 (fun z hz => hb z (List.mem_of_mem_drop hz)) he
 rw [Nat.zero_add] at g1
 rw [g1] at e1 e2
 have hp : p - a = k := by omega
 refine ⟨(gotN l a).toNat, p, by omega, f1, by omega, f2, f3, ?_⟩
 rw [hp, e1, g2]
theorem digs_init : ∀ (k n : Nat), n < 128 ^ (k + 1) → ∀ i, i < (digs n).length → ∀ z ∈ (digs n).take i, 128 ≤ z
 | 0, n, h, i, hi, z, hz => by
  rw [digs_end (by omega)] at hi hz
  obtain rfl : i = 0 := by simpa using hi
  simp at hz
 | k + 1, n, h, i, hi, z, hz => by
  by_cases g : n < 128
  ·rw [digs_end g] at hi hz
   obtain rfl : i = 0 := by simpa using hi
   simp at hz
  ·rw [digs_more g] at hi hz
   cases i with
   | zero => simp at hz
   | succ i =>
    rw [List.take_succ_cons] at hz
    rcases List.mem_cons.1 hz with rfl | hz
    ·omega
    ·exact digs_init k (n / 128) (by rw [Nat.pow_succ] at h; omega) i (by simpa using hi) z hz
theorem got_cut {n i : Nat} (hn : n < 18446744073709551616) (hi : i < (digs n).length) : gotE ((digs n).take i) 0 = 6 := by
 have hc : Cont ((digs n).take i) := ⟨by have := (digs_ten hn).2; simp; omega, digs_init 9 n (by omega) i hi⟩
 have hs := scan_short hc
 have := got_err (l := (digs n).take i) (a := 0) (by simp) (by rw [List.drop_zero, hs]; exact (by decide : (6 : Int) ≠ 0))
 rw [List.drop_zero, hs] at this
 exact this.2.2
end Go.Proofs.YtcfidimnbamnkaaGreat.P2
