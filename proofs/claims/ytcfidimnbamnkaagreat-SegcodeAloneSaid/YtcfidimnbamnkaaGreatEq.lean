/-
 Layer 2: are two slices equal? Conditions: those written at each fact.
-/
import Derived.Test.YtcfidimnbamnkaaGreatRead
import Derived.Test.YtcfidimnbamnkaaGreatProg
import Derived.Deep.QuietTactic
import Derived.BigQuiet
import Derived.WalkSmall
namespace Go.Proofs.YtcfidimnbamnkaaGreat
open Go.RowKit

def eqB (l m : List Int) : Bool := decide (l = m)
theorem eqB_true {l m : List Int} (h : l = m) : eqB l m = true := by unfold eqB; exact decide_eq_true h
theorem eqB_false {l m : List Int} (h : l ≠ m) : eqB l m = false := by unfold eqB; exact decide_eq_false h
theorem take_all_eq {l m : List Int} {k : Nat} (hl : l.length = m.length) (hk : l.length ≤ k) (h : l.take k = m.take k) : l = m := by
 rwa [List.take_of_length_le hk, List.take_of_length_le (by omega)] at h
theorem take_next {l m : List Int} {k : Nat} {x : Int} (h : l.take k = m.take k) (h1 : l[k]? = some x) (h2 : m[k]? = some x) : l.take (k + 1) = m.take (k + 1) := by
 obtain ⟨a1, e1⟩ := List.getElem?_eq_some_iff.1 h1
 obtain ⟨a2, e2⟩ := List.getElem?_eq_some_iff.1 h2
 rw [List.take_succ_eq_append_getElem a1, List.take_succ_eq_append_getElem a2, h, e1, e2]

set_option maxRecDepth 100000 in
set_option maxHeartbeats 2000000 in
theorem equalB (l m : List Int) (hl : l.length ≤ 10000000) (v v2 : Value) (w : World) (h : Reads .u8 w v l) (h2 : Reads .u8 w v2 m) :
  Calls Tryz.prog 47 #[v, v2] w (Ret w (.bool (eqB l m))) := by
 obtain ⟨A, c, rfl, hc, hk⟩ := h
 obtain ⟨A2, c2, rfl, hc2, hk2⟩ := h2
 have HK := Lib.hid hk
 have HK2 := Lib.hid hk2
 clear hk hk2
 by_cases g : l.length = m.length
 ·have t : ((l.length : Int) != (m.length : Int)) = false := by rw [bne_eq_false_iff_eq]; omega
  have HL := Lib.hid g
  rw [show (Value.slice A2 m.length c2) = Value.slice A2 l.length c2 from by rw [g]]
  have t' : ((l.length : Int) != (l.length : Int)) = false := by simp
  clear g t hc2
  go_enter Tryz.func47, Tryz.ntmps47
  go_wp2_with fail
  go_loopw [13] (fun i wr => ∃ k : Nat, i = .int .i64 k ∧ k ≤ l.length ∧ Hid (l.take k = m.take k) ∧ Below w.heap.size w wr) (fun i _ => l.length - (intOf i).toNat)
  case atStart => exact ⟨0, rfl, by omega, Lib.hid (by simp), Below.refl _ _⟩
  case round =>
   obtain ⟨k, rfl, hk, hT, hB⟩ := hrel
   by_cases gk : k < l.length
   ·obtain ⟨x, hx⟩ : ∃ x, l[k]? = some x := ⟨_, List.getElem?_eq_getElem gk⟩
    obtain ⟨y, hy⟩ : ∃ y, m[k]? = some y := ⟨_, List.getElem?_eq_getElem (by have := HL.out; omega)⟩
    obtain ⟨b, off, rfl, hbw, hcell⟩ := HK.out k x hx
    obtain ⟨b2, off2, rfl, hbw2, hcell2⟩ := HK2.out k y hy
    have c1 := (hB.cell (p := ⟨b, off + k, none⟩) hbw).trans hcell
    have c2 := (hB.cell (p := ⟨b2, off2 + k, none⟩) hbw2).trans hcell2
    have HX := Lib.hid hx
    have HY := Lib.hid hy
    have i1 : (k : Int) < (l.length : Int) := by omega
    have i0 : (0 : Int) ≤ (k : Int) := by omega
    clear hcell hcell2 hx hy
    by_cases gx : x = y
    ·subst gx
     have HT := Lib.hid (take_next hT.out HX.out HY.out)
     have t1 : (x != x) = false := by simp
     clear hT
     go_wp2_with fail
     go_quiet (fail)
     go_wp2_with fail
     go_roundw
     case rel => exact ⟨k + 1, by simp, by omega, HT, below_drewN hB _⟩
     case measure => simp [intOf]; omega
    ·have t1 : (x != y) = true := by rw [bne_iff_ne]; exact gx
     have HF := Lib.hid (eqB_false (l := l) (m := m) (fun e => gx (by have := HX.out; rw [e] at this; have h3 := HY.out; rw [h3] at this; cases this; rfl)))
     clear gx hT
     go_wp2_with fail
     go_quiet (fail)
     go_wp2_with fail
     go_ret
     exact ⟨by rw [HF.out]; rfl, below_drewN hB _⟩
   ·have HF := Lib.hid (eqB_true (take_all_eq HL.out (by omega) hT.out))
    clear hT
    go_wp2_with fail
    go_ret
    exact ⟨by rw [HF.out]; rfl, hB⟩
 ·have t : ((l.length : Int) != (m.length : Int)) = true := by rw [bne_iff_ne]; omega
  have HF := Lib.hid (eqB_false (l := l) (m := m) (fun e => g (by rw [e])))
  have t2 : (l.length != m.length) = true := by rw [bne_iff_ne]; omega
  go_enter Tryz.func47, Tryz.ntmps47
  go_wp2_with fail
  go_ret
  exact ⟨by rw [HF.out]; rfl, Below.refl _ _⟩

set_option maxRecDepth 100000 in
set_option maxHeartbeats 2000000 in
theorem equalI (l m : List Int) (hl : l.length ≤ 10000000) (v v2 : Value) (w : World) (h : Reads .i64 w v l) (h2 : Reads .i64 w v2 m) :
  Calls Tryz.prog 62 #[v, v2] w (Ret w (.bool (eqB l m))) := by
 obtain ⟨A, c, rfl, hc, hk⟩ := h
 obtain ⟨A2, c2, rfl, hc2, hk2⟩ := h2
 have HK := Lib.hid hk
 have HK2 := Lib.hid hk2
 clear hk hk2
 by_cases g : l.length = m.length
 ·have t : ((l.length : Int) != (m.length : Int)) = false := by rw [bne_eq_false_iff_eq]; omega
  have HL := Lib.hid g
  rw [show (Value.slice A2 m.length c2) = Value.slice A2 l.length c2 from by rw [g]]
  have t' : ((l.length : Int) != (l.length : Int)) = false := by simp
  clear g t hc2
  go_enter Tryz.func62, Tryz.ntmps62
  go_wp2_with fail
  go_loopw [13] (fun i wr => ∃ k : Nat, i = .int .i64 k ∧ k ≤ l.length ∧ Hid (l.take k = m.take k) ∧ Below w.heap.size w wr) (fun i _ => l.length - (intOf i).toNat)
  case atStart => exact ⟨0, rfl, by omega, Lib.hid (by simp), Below.refl _ _⟩
  case round =>
   obtain ⟨k, rfl, hk, hT, hB⟩ := hrel
   by_cases gk : k < l.length
   ·obtain ⟨x, hx⟩ : ∃ x, l[k]? = some x := ⟨_, List.getElem?_eq_getElem gk⟩
    obtain ⟨y, hy⟩ : ∃ y, m[k]? = some y := ⟨_, List.getElem?_eq_getElem (by have := HL.out; omega)⟩
    obtain ⟨b, off, rfl, hbw, hcell⟩ := HK.out k x hx
    obtain ⟨b2, off2, rfl, hbw2, hcell2⟩ := HK2.out k y hy
    have c1 := (hB.cell (p := ⟨b, off + k, none⟩) hbw).trans hcell
    have c2 := (hB.cell (p := ⟨b2, off2 + k, none⟩) hbw2).trans hcell2
    have HX := Lib.hid hx
    have HY := Lib.hid hy
    have i1 : (k : Int) < (l.length : Int) := by omega
    have i0 : (0 : Int) ≤ (k : Int) := by omega
    clear hcell hcell2 hx hy
    by_cases gx : x = y
    ·subst gx
     have HT := Lib.hid (take_next hT.out HX.out HY.out)
     have t1 : (x != x) = false := by simp
     clear hT
     go_wp2_with fail
     go_quiet (fail)
     go_wp2_with fail
     go_roundw
     case rel => exact ⟨k + 1, by simp, by omega, HT, below_drewN hB _⟩
     case measure => simp [intOf]; omega
    ·have t1 : (x != y) = true := by rw [bne_iff_ne]; exact gx
     have HF := Lib.hid (eqB_false (l := l) (m := m) (fun e => gx (by have := HX.out; rw [e] at this; have h3 := HY.out; rw [h3] at this; cases this; rfl)))
     clear gx hT
     go_wp2_with fail
     go_quiet (fail)
     go_wp2_with fail
     go_ret
     exact ⟨by rw [HF.out]; rfl, below_drewN hB _⟩
   ·have HF := Lib.hid (eqB_true (take_all_eq HL.out (by omega) hT.out))
    clear hT
    go_wp2_with fail
    go_ret
    exact ⟨by rw [HF.out]; rfl, hB⟩
 ·have t : ((l.length : Int) != (m.length : Int)) = true := by rw [bne_iff_ne]; omega
  have HF := Lib.hid (eqB_false (l := l) (m := m) (fun e => g (by rw [e])))
  have t2 : (l.length != m.length) = true := by rw [bne_iff_ne]; omega
  go_enter Tryz.func62, Tryz.ntmps62
  go_wp2_with fail
  go_ret
  exact ⟨by rw [HF.out]; rfl, Below.refl _ _⟩
end Go.Proofs.YtcfidimnbamnkaaGreat
