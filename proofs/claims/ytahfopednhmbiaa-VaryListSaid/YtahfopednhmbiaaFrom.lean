/-
  Layer 2: bytes from a place on, one by one. Conditions: those written at each fact.
-/
import Derived.Test.YtahfopednhmbiaaIter
import Derived.Test.YtahfopednhmbiaaRead
namespace Go.Proofs.Ytahfopednhmbiaa
open Go.RowKit Go.Shelf
attribute [local go_sem] Oper.semAt_some

/-- A byte. -/
abbrev B8 := { z : Int // 0 ≤ z ∧ z < 256 }
theorem bytes_lift : ∀ {l : List Int}, (∀ z ∈ l, 0 ≤ z ∧ z < 256) → ∃ L : List B8, L.map (·.1) = l
  | [], _ => ⟨[], rfl⟩
  | z :: l, h => by
    obtain ⟨L, e⟩ := bytes_lift (l := l) (fun y hy => h y (List.mem_cons_of_mem _ hy))
    exact ⟨⟨z, h z (List.mem_cons_self ..)⟩ :: L, by simp [e]⟩

set_option maxHeartbeats 1000000 in
theorem from_any (v : Value) (at_ : Int) (w : World) (A : Option Addr) (n c : Nat) (hv : v = .slice A n c) :
    Calls Try.prog 48 #[v, .int .i64 at_] w fun e w' => e = .returned (.func (.func 50) #[] #[.pointer (some ⟨w.heap.size + 1, 0, none⟩), .pointer (some ⟨w.heap.size, 0, none⟩)]) ∧ w' = (w.alloc (.cells #[v] 22)).alloc (.cells #[.int .i64 at_] 3) := by
  subst hv
  go_enter Try.func48, Try.ntmps48
  go_wp2
  go_ret
  exact ⟨rfl, rfl⟩

set_option maxRecDepth 100000 in
set_option maxHeartbeats 1000000 in
theorem from1_stops (L : List B8) (hL : L.length ≤ 1000000) (a : Nat) (ha : a ≤ L.length) (Bi Bb n₀ : Nat) (X : Nat → Prop) (w : World) (A : Option Addr) (c : Nat) (hr : Reads .u8 w (.slice A L.length c) (L.map (·.1)))
    (hi : Boxed w Bi 3 (.int .i64 a)) (hb : Boxed w Bb 22 (.slice A L.length c)) (h1 : Bi < n₀ ∧ ¬ X Bi) (h2 : Bb < n₀ ∧ ¬ X Bb) (h3 : ∀ b off, L ≠ [] → A = some ⟨b, off, none⟩ → b < n₀ ∧ ¬ X b) :
    SeqStopsK Fence.wide 8 Try.prog 50 #[.pointer (some ⟨Bi, 0, none⟩), .pointer (some ⟨Bb, 0, none⟩)] (fun z : B8 => #[Value.int .u8 z.1]) (KeepsBut n₀ X) (fun ys => ys = L.drop a) (fun pre => pre <+: L.drop a) (L.drop a).length w := by
  intro l J Jx W hW _ _ hY h0
  have hr' : Reads .u8 W (.slice A L.length c) (L.map (·.1)) := hr.below hW
  have hi' : Boxed W Bi 3 (.int .i64 a) := (hW.block Bi hi.lt).trans hi
  have hb' : Boxed W Bb 22 (.slice A L.length c) := (hW.block Bb hb.lt).trans hb
  clear hr hi hb
  refine callsIn_of_wp Try.func50 rfl trivial ?_ rfl
  simp only [Try.ntmps50, List.size_toArray, List.length_cons, List.length_nil, Nat.reduceAdd, Nat.reduceSub, Array.replicate_succ, Array.replicate_zero, List.push_toArray, List.append_toArray, List.nil_append, List.cons_append]
  have hci := hi'.cell
  have HY := Lib.hid hY
  have H3 := Lib.hid h3
  clear hY h3
  gi_wp2
  gi_loopw [4] (fun r wr => ∃ (k : Nat) (pre : List B8), r = .int .i64 k ∧ k = a + pre.length ∧ k ≤ L.length ∧ Hid (pre ++ L.drop k = L.drop a) ∧ J pre wr ∧ Hid (Reads .u8 wr (.slice A L.length c) (L.map (·.1))) ∧ Boxed wr Bb 22 (.slice A L.length c))
    (fun r _ => L.length - (intOf r).toNat)
  case atStart => exact ⟨a, [], rfl, by simp, ha, Lib.hid rfl, h0, Lib.hid hr', hb'⟩
  case round =>
    obtain ⟨k, pre, rfl, hk, hkl, hp, hJ, hrd, hbx⟩ := hrel
    clear hci h0 hr' hi' hb'
    have hcb := hbx.cell
    have HK := Lib.hid hk
    clear hk
    by_cases g : k < L.length
    · obtain ⟨x, hx⟩ : ∃ x, L[k]? = some x := ⟨_, List.getElem?_eq_getElem g⟩
      have hcells := hrd.out.at.2.2
      obtain ⟨b, off, rfl, hbw, hcell⟩ := hcells k x.1 (by simp [hx])
      have hne : L ≠ [] := by intro e; subst e; simp at g
      have hb3 := H3.out b off hne rfl
      have hdr : L.drop k = x :: L.drop (k + 1) := by
        obtain ⟨hlt, e⟩ := List.getElem?_eq_some_iff.1 hx
        rw [List.drop_eq_getElem_cons hlt, e]
      have e2 : (pre ++ [x]) ++ L.drop (k + 1) = L.drop a := by rw [List.append_assoc]; have := hp.out; rwa [hdr] at this
      have hlen : pre.length < (L.drop a).length := by rw [← e2]; simp
      obtain ⟨fn, tmps, assign, body, hyl, hR⟩ := HY.out pre x wr hJ hlen
      have E := Lib.hid e2
      have HRD := hrd
      have H1 := Lib.hid h1
      have H2 := Lib.hid h2
      have HB3 := Lib.hid hb3
      have HBX := Lib.hid hbx
      clear hcells e2 hdr hx hp HY hlen hrd hne h1 h2 hb3 hbx
      gi_wp2
      refine hR.mono ?_
      rintro e W3 (⟨rfl, hJ3, hk3⟩ | ⟨rfl, hJx3⟩)
      · have hbx3 : Boxed W3 Bb 22 (.slice (some ⟨b, off, none⟩) L.length c) := (hk3 Bb H2.out.1 H2.out.2).trans HBX.out
        have hbk : W3.heap[b]? = wr.heap[b]? := hk3 b HB3.out.1 HB3.out.2
        have hrd3 : Hid (Reads .u8 W3 (.slice (some ⟨b, off, none⟩) L.length c) (L.map (·.1))) := Lib.hid (by
          obtain ⟨e1, e2, e3⟩ := HRD.out.at
          refine ⟨some ⟨b, off, none⟩, c, by rw [List.length_map], e2, fun i z hz => ?_⟩
          obtain ⟨b', off', e4, e5, e6⟩ := e3 i z hz
          cases e4
          have hlt3 : b < W3.heap.size := by
            have := (Array.getElem?_eq_some_iff.1 (hbk.trans (Array.getElem?_eq_getElem e5))).1
            exact this
          exact ⟨b, off, rfl, hlt3, (World.cell?_of_block (w := wr) hbk).trans e6⟩)
        have hbk' := Lib.hid hbk
        have hk3' := Lib.hid hk3
        clear hbk hk3 hcell hcb HRD
        gi_wp2
        go_roundw
        case rel => exact ⟨k + 1, pre ++ [x], by simp, by have := HK.out; simp; omega, by omega, E, hJ3, hrd3, hbx3⟩
        case measure => simp [intOf]; omega
      · gi_wp2
        refine bodyPost_ret (results_none rfl _ _ _) rfl ?_
        exact ⟨⟨_, rfl⟩, .inr ⟨_, ⟨_, E.out⟩, hJx3⟩⟩
    · have hkk : k = L.length := by omega
      have e := hp.out
      rw [hkk, List.drop_length, List.append_nil] at e
      have E := Lib.hid e
      clear e hkk hp HY
      gi_wp2
      go_end0
      exact ⟨⟨_, rfl⟩, .inl ⟨_, E.out, hJ⟩⟩
end Go.Proofs.Ytahfopednhmbiaa
