/-
  Layer 7: runs: the iterator over the times of runs. Conditions: those written at each fact.
-/
import Derived.Test.YtlfjmdfplmdmgaaRnE
namespace Go.Proofs.Ytlfjmdfplmdmgaa
open Go.RowKit Go.Shelf
attribute [local go_sem] Oper.semAt_some

set_option maxHeartbeats 1000000 in
theorem all_any (v : Value) (w : World) (A : Option Addr) (n c : Nat) (hv : v = .slice A n c) :
    Calls Try.prog 39 #[v] w fun e w' => e = .returned (.func (.func 66) #[] #[.pointer (some ⟨w.heap.size, 0, none⟩)]) ∧ w' = w.alloc (.cells #[v] 22) := by
  subst hv
  go_enter Try.func39, Try.ntmps39
  go_wp2
  go_ret
  exact ⟨rfl, rfl⟩

theorem abides_below {β : Type} {B : Nat} {J : β → World → Prop} (hJ : AbidesFrom B J) {s : β} {W W' : World} (h : J s W) (hb : Below W.heap.size W W') : J s W' :=
  hJ s W W' none h ⟨hb.os, hb.tape, hb.output, hb.size, fun k hk _ => hb.block k hk⟩ (fun _ e => by cases e)
theorem index_less {k n : Nat} (h : k < n) : n - (intOf (Value.int .i64 ((k : Int) + 1))).toNat < n - (intOf (Value.int .i64 (k : Int))).toNat := by simp [intOf]; omega
theorem steps_in {i : Nat} {d : Int} (h : (i : Int) < d) : i + 1 ≤ d.toNat ∧ d.toNat - (intOf (Value.int .i64 ((i : Int) + 1))).toNat < d.toNat - (intOf (Value.int .i64 (i : Int))).toNat := by simp [intOf]; omega
theorem place_next {q : Nat} (h : q < 1000000) : wrap64 ((q : Int) + 1) = (q : Int) + 1 := i64_keeps (by omega) (by omega)
theorem index_next {i : Nat} {d : Int} (h : (i : Int) < d) (h2 : d ≤ 256) : (0 : Int) ≤ (i : Int) ∧ (i : Int) ≤ 1000 ∧ wrap64 ((i : Int) + 1) = (i : Int) + 1 := ⟨by omega, by omega, i64_keeps (by omega) (by omega)⟩
/-- A run's own variable. -/
def BoxR (W : World) (B : Nat) (r : Rn) : Prop := W.heap[B]? = some (.cells #[.int .i64 r.f, .int .i64 r.s, .int .i64 r.c] 36 (0, 0))
theorem BoxR.cells {W : World} {B : Nat} {r : Rn} (h : BoxR W B r) : W.cell? ⟨B, 0, none⟩ = some (.int .i64 r.f) ∧ W.cell? ⟨B, 1, none⟩ = some (.int .i64 r.s) ∧ W.cell? ⟨B, 2, none⟩ = some (.int .i64 r.c) := by
  have e : W.heap[B]? = _ := h
  simp [World.cell?, e]
theorem BoxR.next {X : World → Nat → Prop} {W W' : World} {B : Nat} {r : Rn} (h : BoxR W B r) (hx : ¬ X W B) (k : KeepsC X W W') : BoxR W' B r ∧ ¬ X W' B :=
  ⟨k.2.2 B _ h rfl hx, fun hx2 => by
    rcases k.2.1 B hx2 with h1 | h1
    · exact hx h1
    · have := (Array.getElem?_eq_some_iff.1 h).1; omega⟩

set_option maxRecDepth 100000 in
set_option maxHeartbeats 2000000 in
theorem all1_stops {α : Type} (val : α → Int × Int) (full : List α) (X : World → Nat → Prop) (b : Nat) (hX : Hangs X b) (l : List Rn) (hl : l.length ≤ 1000000) (hR : ∀ r ∈ l, RunOk r) (hF : full.map val = numR 0 (timesR l)) (hT : full.length ≤ 1000000) (A : Option Addr) (c : Nat) (Bl : Nat) (w : World) (hb : b < w.heap.size)
    (hst : Stand X A c l w) (hbl : Boxed w Bl 22 (.slice A l.length c)) :
    SeqStopsK Fence.wide 8 Try.prog 66 #[.pointer (some ⟨Bl, 0, none⟩)] (fun z : α => #[Value.int .i64 (val z).1, Value.int .i64 (val z).2]) (KeepsC X) (fun ys => ys = full) (fun pre => pre <+: full) full.length w := by
  intro g J Jx W hW hJa hJxa hY h0
  have hbW : b < W.heap.size := Nat.lt_of_lt_of_le hb hW.size
  have hst' : Stand X A c l W := hst.next (KeepsC.of_below hX hb hW)
  have hbl' : Boxed W Bl 22 (.slice A l.length c) := (hW.block Bl hbl.lt).trans hbl
  have hWs : ∀ W2 : World, W.heap.size ≤ W2.heap.size → b < W2.heap.size := fun W2 h => Nat.lt_of_lt_of_le hbW h
  clear hst hbl hW
  refine callsIn_of_wp Try.func66 rfl trivial ?_ rfl
  simp only [Try.ntmps66, List.size_toArray, List.length_cons, List.length_nil, Nat.reduceAdd, Nat.reduceSub, Array.replicate_succ, Array.replicate_zero, List.push_toArray, List.append_toArray, List.nil_append, List.cons_append]
  have hcb := hbl'.cell
  have HY := Lib.hid hY
  have HJA := Lib.hid hJa
  have HR := Lib.hid hR
  have HT := Lib.hid hT
  clear hY hJa hJxa hR hT
  gi_wp2
  gi_loopw [3, 9] (fun p i wr => ∃ (k q : Nat) (pre : List α), p = .int .i64 q ∧ i = .int .i64 k ∧ k ≤ l.length ∧ Hid (pre.length = q ∧ ∃ rest, pre ++ rest = full ∧ rest.map val = numR q (timesR (l.drop k))) ∧ J pre wr ∧ Hid (Stand X A c l wr) ∧ W.heap.size ≤ wr.heap.size)
    (fun _ i _ => l.length - (intOf i).toNat)
  case atStart => exact ⟨0, 0, [], rfl, rfl, by omega, Lib.hid ⟨rfl, full, rfl, by simpa using hF⟩, h0, Lib.hid hst', Nat.le_refl _⟩
  case round =>
    obtain ⟨k, q, pre, rfl, rfl, hkl, hp, hJ, hSt, hsz⟩ := hrel
    clear hcb h0 hst' hbl' hF
    by_cases gk : k < l.length
    · obtain ⟨⟨f, s, d⟩, hx⟩ : ∃ s, l[k]? = some s := ⟨_, List.getElem?_eq_getElem gk⟩
      obtain ⟨A', c', e', hc', hk⟩ := hSt.out.reads
      cases e'
      obtain ⟨bb, off, rfl, hbw, c1, c2, c3⟩ := hk k _ hx
      simp only at c1 c2 c3
      have i1 : (k : Int) < (l.length : Int) := by omega
      have i0 : (0 : Int) ≤ (k : Int) := by omega
      obtain ⟨o1, o2, o3, o4, o5, o6, o7⟩ : RunOk ⟨f, s, d⟩ := HR.out _ (List.mem_of_getElem? hx)
      simp only at o1 o2 o3 o4 o5 o6 o7
      clear o6
      have o4' : -281474976710656 ≤ s := by omega
      have hdr : l.drop k = ⟨f, s, d⟩ :: l.drop (k + 1) := by
        obtain ⟨hlt, e⟩ := List.getElem?_eq_some_iff.1 hx
        rw [List.drop_eq_getElem_cons hlt, e]
      have hp2 : pre.length = q ∧ ∃ rest, pre ++ rest = full ∧ rest.map val = numR q (stepsR f s d.toNat ++ timesR (l.drop (k + 1))) := by
        have := hp.out
        rwa [hdr] at this
      have HP := Lib.hid hp2
      clear hp hp2 hdr hk hx
      obtain ⟨wo, hwo⟩ : ∃ x, x = wr := ⟨_, rfl⟩
      subst hwo
      have hbx0 : BoxR (wo.alloc (.cells #[.int .i64 f, .int .i64 s, .int .i64 d] 36)) wo.heap.size ⟨f, s, d⟩ := World.alloc_heap_new wo _
      have hxb0 : ¬ X (wo.alloc (.cells #[.int .i64 f, .int .i64 s, .int .i64 d] 36)) wo.heap.size := fun h => by
        have := hSt.out.small _ (hX wo _ _ ((below_alloc wo _).block b (hWs wo hsz)) h); omega
      have hst0 := hSt.out.next (KeepsC.of_below hX (hWs wo hsz) (below_alloc wo (.cells #[.int .i64 f, .int .i64 s, .int .i64 d] 36)))
      have hJ0 : J pre (wo.alloc (.cells #[.int .i64 f, .int .i64 s, .int .i64 d] 36)) := abides_below HJA.out hJ (below_alloc wo _)
      have HB := Lib.hid (And.intro hbx0 hxb0)
      have HS0 := Lib.hid hst0
      have HWS := Lib.hid hWs
      clear hbx0 hxb0 hst0 hWs hSt hJ
      gi_wp2
      gi_loopw [3, 15] (fun p j wi => ∃ (i q2 : Nat) (pre2 : List α), p = .int .i64 q2 ∧ j = .int .i64 i ∧ i ≤ d.toNat ∧ Hid (pre2.length = q2 ∧ ∃ rest, pre2 ++ rest = full ∧ rest.map val = numR q2 (stepsR (f + i * s) s (d - i).toNat ++ timesR (l.drop (k + 1)))) ∧ J pre2 wi ∧ Hid (Stand X (some ⟨bb, off, none⟩) c l wi) ∧ Hid (BoxR wi wo.heap.size ⟨f, s, d⟩ ∧ ¬ X wi wo.heap.size) ∧ wo.heap.size + 1 ≤ wi.heap.size)
        (fun _ j _ => d.toNat - (intOf j).toNat)
      case atStart => exact ⟨0, q, pre, rfl, rfl, by omega, Lib.hid (by simpa using HP.out), hJ0, HS0, HB, by simp⟩
      case round =>
        obtain ⟨i, q2, pre2, rfl, rfl, hid, hp, hJ, hSt, hBx, hsz2⟩ := hrel
        clear HP hJ0 HS0 HB c1 c2 c3
        obtain ⟨b1, b2, b3⟩ := hBx.out.1.cells
        simp only at b1 b2 b3
        by_cases gi : (i : Int) < d
        · obtain ⟨x, rest2, hx2, hxv, hp2⟩ : ∃ x rest2, val x = ((q2 : Int), f + i * s) ∧ pre2 ++ x :: rest2 = full ∧ pre2.length = q2 ∧ rest2.map val = numR (q2 + 1) (stepsR (f + ((i + 1 : Nat) : Int) * s) s (d - ((i + 1 : Nat) : Int)).toNat ++ timesR (l.drop (k + 1))) := by
            obtain ⟨h1, rest, h2, h3⟩ := hp.out
            rw [steps_next f s d i gi] at h3
            cases rest with
            | nil => simp [numR] at h3
            | cons x rest2 =>
              simp only [List.map_cons, List.cons_append, numR, List.cons.injEq] at h3
              exact ⟨x, rest2, h3.1, h2, h1, h3.2⟩
          have hln : pre2.length < full.length := by rw [← hxv]; simp
          have hq : q2 < 1000000 := Nat.lt_of_lt_of_le (hp2.1 ▸ hln) HT.out
          have HXV := Lib.hid hxv
          obtain ⟨ix0, ix1, ei⟩ := index_next gi o2
          clear ei
          have NT := Lib.hid (nth_at f s d (i : Int) ix0 ix1 o4' o5 o3 o7)
          have HP := Lib.hid hp2
          have HLN := Lib.hid hln
          clear hp hp2 hln hxv
          gi_wp2_with fail
          refine ⟨trivial, ?_⟩
          refine (callsIn_wide.2 (NT.out _)).mono ?_
          rintro en w3 ⟨rfl, hb3⟩
          have hkc := KeepsC.of_below hX (HWS.out wr (by omega)) hb3
          have hJ3 := abides_below HJA.out hJ hb3
          have hSt3 := hSt.out.next hkc
          have hBx3 := hBx.out.1.next hBx.out.2 hkc
          have hsz3 := Nat.le_trans hsz2 hb3.size
          obtain ⟨fn, tmps, assign, body, hyl, hR⟩ := HY.out pre2 x w3 hJ3 HLN.out
          rw [hx2] at hyl
          have HS3 := Lib.hid hSt3
          have HB3 := Lib.hid hBx3
          have HI := Lib.hid (steps_in gi)
          clear hSt3 hBx3 hkc hJ3 hJ hSt hBx b1 b2 b3 hb3 HY HJA HLN NT
          gi_wp2
          refine hR.mono ?_
          rintro e W3 (⟨rfl, hJ4, hk4⟩ | ⟨rfl, hJx4⟩)
          · have HX2 := Lib.hid hx2
            clear hx2
            have HS4 := Lib.hid (HS3.out.next hk4)
            have HB4 := Lib.hid (HB3.out.1.next HB3.out.2 hk4)
            have hsz4 := Nat.le_trans hsz3 hk4.1
            have E : Hid ((pre2 ++ [x]).length = q2 + 1 ∧ ∃ rest, (pre2 ++ [x]) ++ rest = full ∧ rest.map val = numR (q2 + 1) (stepsR (f + ((i + 1 : Nat) : Int) * s) s (d - ((i + 1 : Nat) : Int)).toNat ++ timesR (l.drop (k + 1)))) :=
              Lib.hid ⟨by rw [List.length_append, HP.out.1]; rfl, rest2, by rw [List.append_assoc]; exact HXV.out, HP.out.2⟩
            clear hk4 HP
            gi_wp2
            go_roundw
            case rel => exact ⟨i + 1, q2 + 1, _, by simp, by simp, HI.out.1, E, hJ4, HS4, HB4, hsz4⟩
            case measure => exact HI.out.2
          · gi_wp2
            refine bodyPost_ret (results_none rfl _ _ _) rfl ?_
            exact ⟨⟨_, rfl⟩, .inr ⟨_, ⟨_, (List.append_assoc ..).trans HXV.out⟩, hJx4⟩⟩
        · have E : Hid (pre2.length = q2 ∧ ∃ rest, pre2 ++ rest = full ∧ rest.map val = numR q2 (timesR (l.drop (k + 1)))) := Lib.hid (by
            have := hp.out
            rwa [steps_none f s d i gi, List.nil_append] at this)
          clear hp
          gi_wp2
          go_roundw
          case rel => exact ⟨k + 1, q2, pre2, rfl, by simp, gk, E, hJ, hSt, Nat.le_trans (Nat.le_trans hsz (Nat.le_succ _)) hsz2⟩
          case measure => exact index_less gk
    · have hkk : k = l.length := by omega
      have e := hp.out
      rw [hkk, List.drop_length] at e
      have E : Hid (pre = full) := Lib.hid (by
        obtain ⟨_, rest, h2, h3⟩ := e
        simp only [timesR, numR, List.map_eq_nil_iff] at h3
        rw [h3, List.append_nil] at h2
        exact h2)
      have i1 : ¬ (k : Int) < (l.length : Int) := by omega
      clear e hkk hp HY
      gi_wp2
      go_end0
      exact ⟨⟨_, rfl⟩, .inl (E.out ▸ hJ)⟩
end Go.Proofs.Ytlfjmdfplmdmgaa
