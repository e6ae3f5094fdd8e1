/-
  Layer 2: a number is gathered out of its bytes. Conditions: those written at each fact.
-/
import Derived.Test.YtahfopednhmbiaaIter
import Derived.Test.YtahfopednhmbiaaRead
import Derived.Lib.VarintBits
import Derived.RegionTactic
import Derived.ChangeAlike
import Derived.BigRegion
namespace Go.Proofs.Ytahfopednhmbiaa
open Go.RowKit Go.Shelf
attribute [local go_sem] Oper.semAt_some

/-- Block G is what has been gathered: a number, and of how many bytes. -/
def Gath (w : World) (G : Nat) (n s : Int) : Prop := w.heap[G]? = some (.cells #[.int .u64 n, .int .i64 s] 62 (0, 0))
theorem Gath.lt {w : World} {G : Nat} {n s : Int} (h : Gath w G n s) : G < w.heap.size := (Array.getElem?_eq_some_iff.1 h).1
theorem Gath.cell0 {w : World} {G : Nat} {n s : Int} (h : Gath w G n s) : w.cell? ⟨G, 0, none⟩ = some (.int .u64 n) := by simp [World.cell?, show w.heap[G]? = _ from h]
theorem Gath.cell1 {w : World} {G : Nat} {n s : Int} (h : Gath w G n s) : w.cell? ⟨G, 1, none⟩ = some (.int .i64 s) := by simp [World.cell?, show w.heap[G]? = _ from h]
theorem Gath.froz0 {w : World} {G : Nat} {n s : Int} (h : Gath w G n s) : w.frozen? ⟨G, 0, none⟩ = false := by simp [World.frozen?, show w.heap[G]? = _ from h]
theorem Gath.froz1 {w : World} {G : Nat} {n s : Int} (h : Gath w G n s) : w.frozen? ⟨G, 1, none⟩ = false := by simp [World.frozen?, show w.heap[G]? = _ from h]

theorem Gath.set {w : World} {G : Nat} {n s : Int} (h : Gath w G n s) (n' s' : Int) : Gath ((w.setCell ⟨G, 0, none⟩ (.int .u64 n')).setCell ⟨G, 1, none⟩ (.int .i64 s')).drew G n' s' ∧ w.grownBy ((w.setCell ⟨G, 0, none⟩ (.int .u64 n')).setCell ⟨G, 1, none⟩ (.int .i64 s')).drew (some G) := by
  constructor
  · have e1 : (w.setCell ⟨G, 0, none⟩ (.int .u64 n')).heap[G]? = some (.cells #[.int .u64 n', .int .i64 s] 62 (0, 0)) := by
      obtain ⟨hlt, hk⟩ := Array.getElem?_eq_some_iff.1 h
      show (w.heap.modify G _)[G]? = _
      rw [Array.getElem?_eq_getElem (by rw [Array.size_modify]; exact hlt), Array.getElem_modify_self, hk]
      rfl
    have e2 : ((w.setCell ⟨G, 0, none⟩ (.int .u64 n')).setCell ⟨G, 1, none⟩ (.int .i64 s')).heap[G]? = some (.cells #[.int .u64 n', .int .i64 s'] 62 (0, 0)) := by
      obtain ⟨hlt, hk⟩ := Array.getElem?_eq_some_iff.1 e1
      show ((w.setCell ⟨G, 0, none⟩ (.int .u64 n')).heap.modify G _)[G]? = _
      rw [Array.getElem?_eq_getElem (by rw [Array.size_modify]; exact hlt), Array.getElem_modify_self, hk]
      rfl
    exact e2
  · refine ⟨rfl, rfl, rfl, ?_, fun k _ hk => ?_⟩
    · exact Nat.le_of_eq (by simp [World.setCell, World.drew])
    · show ((w.setCell ⟨G, 0, none⟩ (.int .u64 n')).setCell ⟨G, 1, none⟩ (.int .i64 s')).heap[k]? = _
      have hne : k ≠ G := fun e => hk (by rw [e])
      exact (Below.heap_setCell _ _ _ k hne).trans (Below.heap_setCell _ _ _ k hne)

/-- What take leaves. -/
def Took (w : World) (G : Nat) (n s d : Int) (e : Ending) (w' : World) : Prop := (∃ v, e = .returned v) ∧ w.grownBy w' (some G) ∧ ∃ n', 0 ≤ n' ∧ n' < 18446744073709551616 ∧ (s ≤ 8 ∨ d ≤ 1 → n' = n + d % 128 * 128 ^ s.toNat) ∧ Gath w' G n' (s + 1)

set_option maxRecDepth 100000 in
set_option maxHeartbeats 2000000 in
theorem take_0 (G : Nat) (n d : Int) (w : World) (hG : Gath w G n 0) (hn0 : 0 ≤ n) (hn : n < 1) (hd0 : 0 ≤ d) (hd : d < 256) :
    Calls Try.prog 49 #[.pointer (some ⟨G, 0, none⟩), .int .u8 d] w (Took w G n 0 d) := by
  have h0 := hG.cell0
  have h1 := hG.cell1
  have f0 := hG.froz0
  have f1 := hG.froz1
  go_enter Try.func49, Try.ntmps49
  go_wp2
  go_region
  go_wp2
  go_end0
  have HG := hG.set (bits BinOp.or IntKind.u64 n (d % 128)) 1
  have e := u64_orv0 (y := n) (x := d % 128) hn0 hn (by omega) (by omega) (by omega)
  exact ⟨⟨_, rfl⟩, HG.2, _, by omega, by omega, fun _ => by rw [e]; show _ = n + d % 128 * 1; omega, HG.1⟩

set_option maxRecDepth 100000 in
set_option maxHeartbeats 2000000 in
theorem take_1 (G : Nat) (n d : Int) (w : World) (hG : Gath w G n 1) (hn0 : 0 ≤ n) (hn : n < 128) (hd0 : 0 ≤ d) (hd : d < 256) :
    Calls Try.prog 49 #[.pointer (some ⟨G, 0, none⟩), .int .u8 d] w (Took w G n 1 d) := by
  have h0 := hG.cell0
  have h1 := hG.cell1
  have f0 := hG.froz0
  have f1 := hG.froz1
  go_enter Try.func49, Try.ntmps49
  go_wp2
  go_region
  go_wp2
  go_end0
  have HG := hG.set (bits BinOp.or IntKind.u64 n (d % 128 * 128)) 2
  have e := u64_orv7 (y := n) (x := d % 128 * 128) hn0 hn (by omega) (by omega) (by omega)
  exact ⟨⟨_, rfl⟩, HG.2, _, by omega, by omega, fun _ => by rw [e]; show _ = n + d % 128 * 128; rfl, HG.1⟩

set_option maxRecDepth 100000 in
set_option maxHeartbeats 2000000 in
theorem take_2 (G : Nat) (n d : Int) (w : World) (hG : Gath w G n 2) (hn0 : 0 ≤ n) (hn : n < 16384) (hd0 : 0 ≤ d) (hd : d < 256) :
    Calls Try.prog 49 #[.pointer (some ⟨G, 0, none⟩), .int .u8 d] w (Took w G n 2 d) := by
  have h0 := hG.cell0
  have h1 := hG.cell1
  have f0 := hG.froz0
  have f1 := hG.froz1
  go_enter Try.func49, Try.ntmps49
  go_wp2
  go_region
  go_wp2
  go_end0
  have HG := hG.set (bits BinOp.or IntKind.u64 n (d % 128 * 16384)) 3
  have e := u64_orv14 (y := n) (x := d % 128 * 16384) hn0 hn (by omega) (by omega) (by omega)
  exact ⟨⟨_, rfl⟩, HG.2, _, by omega, by omega, fun _ => by rw [e]; show _ = n + d % 128 * 16384; rfl, HG.1⟩

set_option maxRecDepth 100000 in
set_option maxHeartbeats 2000000 in
theorem take_3 (G : Nat) (n d : Int) (w : World) (hG : Gath w G n 3) (hn0 : 0 ≤ n) (hn : n < 2097152) (hd0 : 0 ≤ d) (hd : d < 256) :
    Calls Try.prog 49 #[.pointer (some ⟨G, 0, none⟩), .int .u8 d] w (Took w G n 3 d) := by
  have h0 := hG.cell0
  have h1 := hG.cell1
  have f0 := hG.froz0
  have f1 := hG.froz1
  go_enter Try.func49, Try.ntmps49
  go_wp2
  go_region
  go_wp2
  go_end0
  have HG := hG.set (bits BinOp.or IntKind.u64 n (d % 128 * 2097152)) 4
  have e := u64_orv21 (y := n) (x := d % 128 * 2097152) hn0 hn (by omega) (by omega) (by omega)
  exact ⟨⟨_, rfl⟩, HG.2, _, by omega, by omega, fun _ => by rw [e]; show _ = n + d % 128 * 2097152; rfl, HG.1⟩

set_option maxRecDepth 100000 in
set_option maxHeartbeats 2000000 in
theorem take_4 (G : Nat) (n d : Int) (w : World) (hG : Gath w G n 4) (hn0 : 0 ≤ n) (hn : n < 268435456) (hd0 : 0 ≤ d) (hd : d < 256) :
    Calls Try.prog 49 #[.pointer (some ⟨G, 0, none⟩), .int .u8 d] w (Took w G n 4 d) := by
  have h0 := hG.cell0
  have h1 := hG.cell1
  have f0 := hG.froz0
  have f1 := hG.froz1
  go_enter Try.func49, Try.ntmps49
  go_wp2
  go_region
  go_wp2
  go_end0
  have HG := hG.set (bits BinOp.or IntKind.u64 n (d % 128 * 268435456)) 5
  have e := u64_orv28 (y := n) (x := d % 128 * 268435456) hn0 hn (by omega) (by omega) (by omega)
  exact ⟨⟨_, rfl⟩, HG.2, _, by omega, by omega, fun _ => by rw [e]; show _ = n + d % 128 * 268435456; rfl, HG.1⟩

set_option maxRecDepth 100000 in
set_option maxHeartbeats 2000000 in
theorem take_5 (G : Nat) (n d : Int) (w : World) (hG : Gath w G n 5) (hn0 : 0 ≤ n) (hn : n < 34359738368) (hd0 : 0 ≤ d) (hd : d < 256) :
    Calls Try.prog 49 #[.pointer (some ⟨G, 0, none⟩), .int .u8 d] w (Took w G n 5 d) := by
  have h0 := hG.cell0
  have h1 := hG.cell1
  have f0 := hG.froz0
  have f1 := hG.froz1
  go_enter Try.func49, Try.ntmps49
  go_wp2
  go_region
  go_wp2
  go_end0
  have HG := hG.set (bits BinOp.or IntKind.u64 n (d % 128 * 34359738368)) 6
  have e := u64_orv35 (y := n) (x := d % 128 * 34359738368) hn0 hn (by omega) (by omega) (by omega)
  exact ⟨⟨_, rfl⟩, HG.2, _, by omega, by omega, fun _ => by rw [e]; show _ = n + d % 128 * 34359738368; rfl, HG.1⟩

set_option maxRecDepth 100000 in
set_option maxHeartbeats 2000000 in
theorem take_6 (G : Nat) (n d : Int) (w : World) (hG : Gath w G n 6) (hn0 : 0 ≤ n) (hn : n < 4398046511104) (hd0 : 0 ≤ d) (hd : d < 256) :
    Calls Try.prog 49 #[.pointer (some ⟨G, 0, none⟩), .int .u8 d] w (Took w G n 6 d) := by
  have h0 := hG.cell0
  have h1 := hG.cell1
  have f0 := hG.froz0
  have f1 := hG.froz1
  go_enter Try.func49, Try.ntmps49
  go_wp2
  go_region
  go_wp2
  go_end0
  have HG := hG.set (bits BinOp.or IntKind.u64 n (d % 128 * 4398046511104)) 7
  have e := u64_orv42 (y := n) (x := d % 128 * 4398046511104) hn0 hn (by omega) (by omega) (by omega)
  exact ⟨⟨_, rfl⟩, HG.2, _, by omega, by omega, fun _ => by rw [e]; show _ = n + d % 128 * 4398046511104; rfl, HG.1⟩

set_option maxRecDepth 100000 in
set_option maxHeartbeats 2000000 in
theorem take_7 (G : Nat) (n d : Int) (w : World) (hG : Gath w G n 7) (hn0 : 0 ≤ n) (hn : n < 562949953421312) (hd0 : 0 ≤ d) (hd : d < 256) :
    Calls Try.prog 49 #[.pointer (some ⟨G, 0, none⟩), .int .u8 d] w (Took w G n 7 d) := by
  have h0 := hG.cell0
  have h1 := hG.cell1
  have f0 := hG.froz0
  have f1 := hG.froz1
  go_enter Try.func49, Try.ntmps49
  go_wp2
  go_region
  go_wp2
  go_end0
  have HG := hG.set (bits BinOp.or IntKind.u64 n (d % 128 * 562949953421312)) 8
  have e := u64_orv49 (y := n) (x := d % 128 * 562949953421312) hn0 hn (by omega) (by omega) (by omega)
  exact ⟨⟨_, rfl⟩, HG.2, _, by omega, by omega, fun _ => by rw [e]; show _ = n + d % 128 * 562949953421312; rfl, HG.1⟩

set_option maxRecDepth 100000 in
set_option maxHeartbeats 2000000 in
theorem take_8 (G : Nat) (n d : Int) (w : World) (hG : Gath w G n 8) (hn0 : 0 ≤ n) (hn : n < 72057594037927936) (hd0 : 0 ≤ d) (hd : d < 256) :
    Calls Try.prog 49 #[.pointer (some ⟨G, 0, none⟩), .int .u8 d] w (Took w G n 8 d) := by
  have h0 := hG.cell0
  have h1 := hG.cell1
  have f0 := hG.froz0
  have f1 := hG.froz1
  go_enter Try.func49, Try.ntmps49
  go_wp2
  go_region
  go_wp2
  go_end0
  have HG := hG.set (bits BinOp.or IntKind.u64 n (d % 128 * 72057594037927936)) 9
  have e := u64_orv56 (y := n) (x := d % 128 * 72057594037927936) hn0 hn (by omega) (by omega) (by omega)
  exact ⟨⟨_, rfl⟩, HG.2, _, by omega, by omega, fun _ => by rw [e]; show _ = n + d % 128 * 72057594037927936; rfl, HG.1⟩

set_option maxRecDepth 100000 in
set_option maxHeartbeats 2000000 in
theorem take_9 (G : Nat) (n d : Int) (w : World) (hG : Gath w G n 9) (hn0 : 0 ≤ n) (hn : n < 9223372036854775808) (hd0 : 0 ≤ d) (hd : d < 256) :
    Calls Try.prog 49 #[.pointer (some ⟨G, 0, none⟩), .int .u8 d] w (Took w G n 9 d) := by
  have h0 := hG.cell0
  have h1 := hG.cell1
  have f0 := hG.froz0
  have f1 := hG.froz1
  go_enter Try.func49, Try.ntmps49
  go_wp2
  go_region
  go_wp2
  go_end0
  have ew : IntKind.u64.wrap (d % 128 * 9223372036854775808) = d % 2 * 9223372036854775808 := by rw [IntKind.wrap_u64]; omega
  have HG := hG.set (bits BinOp.or IntKind.u64 n (IntKind.u64.wrap (d % 128 * 9223372036854775808))) 10
  have e := u64_orv63 (y := n) (x := d % 2 * 9223372036854775808) hn0 hn (by omega) (by omega) (by omega)
  rw [← ew] at e
  exact ⟨⟨_, rfl⟩, HG.2, _, by omega, by omega, fun g => by rw [e, ew]; show _ = n + d % 128 * 9223372036854775808; omega, HG.1⟩

/-- One byte is taken. -/
theorem take_any (G : Nat) (s : Nat) (hs : s ≤ 9) (n d : Int) (w : World) (hG : Gath w G n s) (hn0 : 0 ≤ n) (hn : n < 128 ^ s) (hd0 : 0 ≤ d) (hd : d < 256) :
    Calls Try.prog 49 #[.pointer (some ⟨G, 0, none⟩), .int .u8 d] w (Took w G n s d) := by
  match s, hs with
  | 0, _ => exact take_0 G n d w hG hn0 hn hd0 hd
  | 1, _ => exact take_1 G n d w hG hn0 hn hd0 hd
  | 2, _ => exact take_2 G n d w hG hn0 hn hd0 hd
  | 3, _ => exact take_3 G n d w hG hn0 hn hd0 hd
  | 4, _ => exact take_4 G n d w hG hn0 hn hd0 hd
  | 5, _ => exact take_5 G n d w hG hn0 hn hd0 hd
  | 6, _ => exact take_6 G n d w hG hn0 hn hd0 hd
  | 7, _ => exact take_7 G n d w hG hn0 hn hd0 hd
  | 8, _ => exact take_8 G n d w hG hn0 hn hd0 hd
  | 9, _ => exact take_9 G n d w hG hn0 hn hd0 hd
end Go.Proofs.Ytahfopednhmbiaa
