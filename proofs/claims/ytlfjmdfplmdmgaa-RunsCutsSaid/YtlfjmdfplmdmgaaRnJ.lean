/-
  Layer 7: runs: the runs of a row of times are laid. Conditions: those written at each fact.
-/
import Derived.Test.YtlfjmdfplmdmgaaRmA
namespace Go.Proofs.Ytlfjmdfplmdmgaa
open Go.RowKit Go.Shelf

theorem GrowS.low {B g : Nat} {W : World} {st : Rn × List Rn} (h : GrowS B W g st) : g < W.heap.size := by
  obtain ⟨v, h, _⟩ := h
  exact h.lt
set_option maxHeartbeats 1000000 in
theorem of11_any (w0 : World) (g : Nat) (st : Rn × List Rn) (n : Nat) (hn : n ≤ 900) (hok : OpenOk st.1 n) (hsl : st.2.length ≤ n) (t : Int) (ht0 : 0 ≤ t) (ht1 : t ≤ 281474976710656) (W : World) (hG0 : GrowS w0.heap.size W g st) (hw0 : Below w0.heap.size w0 W) (hBg : w0.heap.size ≤ g) :
    Calls Try.prog 48 #[.int .i64 t, .func (.func 70) #[.pointer (some ⟨g, 0, none⟩)] #[]] W (fun e w' => e = .returned (.tuple #[]) ∧ Took w0.heap.size g W w' ∧ GrowS w0.heap.size w' g (takeR st t)) := by
  have TA := Lib.hid (take_any w0 g st n hn hok hsl t ht0 ht1 W hG0 hw0 hBg)
  clear hn hok hsl ht0 ht1 hG0 hw0 hBg
  go_enter Try.func48, Try.ntmps48
  go_wp2_with (go_at_call 70; refine TA.out.mono ?_; rintro e w' ⟨rfl, hT, hG⟩)
  go_end0
  exact ⟨rfl, hT, hG⟩
/-- What lay leaves. -/
def LaidR (w : World) (l : List Rn) (e : Ending) (w' : World) : Prop := ∃ v, e = .returned v ∧ Below w.heap.size w w' ∧ w'.ownsRow w.heap.size 36 3 v l.length (flatR l)

set_option maxRecDepth 100000 in
set_option maxHeartbeats 2000000 in
theorem lay1_any (l : List Int) (hU : Up l) (hn : l.length ≤ 256) (v : Value) (w : World) (h : Reads .i64 w v l) :
    Calls Try.prog 47 #[v, .func (.func 48) #[] #[]] w (LaidR w (laidR l)) := by
  obtain ⟨A, c, rfl, hc, hk⟩ := h
  have HK := Lib.hid hk
  have HU := Lib.hid hU
  have HN := Lib.hid hn
  obtain ⟨i0, hi, hz0, hz1, hz2⟩ := info_parts infoRun
  have hG0 : GrowS w.heap.size (w.alloc (.cells #[.int .i64 0, .int .i64 0, .int .i64 0, .slice none 0 0] 88)) w.heap.size iniR := ⟨_, World.alloc_heap_new w _, World.ownsRow_nil _ _ _ _⟩
  have HG0 := Lib.hid hG0
  have hl : l.length ≤ 256 := hn
  clear hk hU hn hG0
  go_enter Try.func47, Try.ntmps47
  go_wp2_with fail
  go_loopw [10] (fun i wr => ∃ k : Nat, i = .int .i64 k ∧ k ≤ l.length ∧ Hid (GrowS w.heap.size wr w.heap.size (goR (l.take k))) ∧ Below w.heap.size w wr) (fun i _ => l.length - (intOf i).toNat)
  case atStart => exact ⟨0, rfl, by omega, Lib.hid (by simpa [goR] using HG0.out), below_alloc w _⟩
  case round =>
    obtain ⟨k, rfl, hkl, hG, hB⟩ := hrel
    clear HG0
    by_cases gk : k < l.length
    · obtain ⟨t, hx⟩ : ∃ s, l[k]? = some s := ⟨_, List.getElem?_eq_getElem gk⟩
      obtain ⟨bb, off, rfl, hbw, hc1⟩ := HK.out k _ hx
      have c1 := (hB.cell (p := ⟨bb, off + k, none⟩) hbw).trans hc1
      have i1 : (k : Int) < (l.length : Int) := by omega
      have i2 : (0 : Int) ≤ (k : Int) := by omega
      have HX := Lib.hid hx
      have ht := HU.out.1 t (List.mem_of_getElem? hx)
      obtain ⟨hok, hsl⟩ := go_ok (l := l.take k) (fun x hx => HU.out.1 x (List.mem_of_mem_take hx))
      have htl : (l.take k).length ≤ 256 := Nat.le_trans (List.length_take_le' ..) HN.out
      have OA := Lib.hid (of11_any w w.heap.size _ _ (by omega) hok hsl t ht.1 ht.2 wr hG.out hB (Nat.le_refl _))
      have ET : Hid (goR (l.take (k + 1)) = takeR (goR (l.take k)) t) := Lib.hid (by
        obtain ⟨a1, e1⟩ := List.getElem?_eq_some_iff.1 hx
        rw [List.take_succ_eq_append_getElem a1, e1, goR_snoc])
      clear hc1 hx hok hsl ht hG htl
      go_wp2_with fail
      refine OA.out.mono ?_
      rintro e w1 ⟨rfl, hT, hG1⟩
      have hB1 := hB.trans hT.below
      have HG1 : Hid (GrowS w.heap.size w1 w.heap.size (goR (l.take (k + 1)))) := Lib.hid (by rw [ET.out]; exact hG1)
      clear hT hG1 c1
      go_wp2_with fail
      go_roundw
      case rel => exact ⟨k + 1, by simp, gk, HG1, hB1⟩
      case measure => exact index_less7 gk
    · have hkk : k = l.length := by omega
      subst hkk
      have hgo := hG.out
      rw [List.take_length] at hgo
      have hsl : (goR l).2.length ≤ 256 := Nat.le_trans (go_ok HU.out.1).2 HN.out
      have EL : Hid (laidR l = (goR l).2 ++ [(goR l).1]) := Lib.hid rfl
      generalize goR l = st at hgo hsl EL
      obtain ⟨⟨f, s, d⟩, sh⟩ := st
      simp only at hsl EL
      obtain ⟨u, hGA, hO⟩ := hgo
      obtain ⟨c0, c1, c2, c3, cf⟩ := hGA.cells
      simp only at c0 c1 c2 hO
      have i1 : ¬ (l.length : Int) < (l.length : Int) := by omega
      have HO := Lib.hid hO
      have HL := Lib.hid (fun j hj => (hO.lt j hj).1)
      have HF := Lib.hid (flatR_app sh [⟨f, s, d⟩])
      clear hO hGA hG HU HN
      go_wp2_with (at_builtin; refine wpList_append_own _ rfl _ _ 22 rfl w.heap.size 36 i0 (.agg #[.int .i64 0, .int .i64 0, .int .i64 0]) 3 24 Try.underlying22 hi hz0 hz1 hz2 rfl (by decide) u _ _ rfl (HO.out.alloc _) ⟨wr.heap.size, 0, none⟩ 1 1 [.int .i64 f, .int .i64 s, .int .i64 d] rfl rfl (new_cells3 rfl) (by intro u hu; simp at hu; rcases hu with rfl | rfl | rfl <;> rfl) (by unfold maxLen; omega) (by omega) (by have := hB.size; simp; omega) ?_; intro v8 w8 hown8 hgrow8 _; obtain ⟨g8, cap8, rfl⟩ := ownsRow_succ hown8)
      go_ret
      refine ⟨_, rfl, ?_, ?_⟩
      · exact (hB.trans ((below_alloc wr _).mono hB.size)).grown hgrow8 (by have := hB.size; simp; omega) HL.out
      · rw [EL.out, show flatR (sh ++ [⟨f, s, d⟩]) = _ from HF.out, List.length_append]
        exact hown8
end Go.Proofs.Ytlfjmdfplmdmgaa
