/-
 Layer 11: a segment that is asked: how far a time is behind its first one; may numbers be told, the kind of a line, has it what a row of numbers has. Conditions: those written at each fact.
-/
import Derived.Test.YtcfidimnbamnkaaGreatSgA
import Derived.Test.YtcfidimnbamnkaaGreatNB
import Derived.Test.YtcfidimnbamnkaaGreatLC
namespace Go.Proofs.YtcfidimnbamnkaaGreat.P11
open Go.RowKit Go.Shelf Go.Proofs.YtcfidimnbamnkaaGreat.P7

abbrev sgV (k : Int) (v : Value) (a r n d : Int) (u : Value) (e : Int) : Value := .agg #[.int .i64 k, v, .int .i64 a, .int .i64 r, .int .i64 n, .int .i64 d, u, .int .i64 e]
abbrev sgO (t : TypeId) (k : Int) (v : Value) (a r n d : Int) (u : Value) (e : Int) : Obj := .cells #[.int .i64 k, v, .int .i64 a, .int .i64 r, .int .i64 n, .int .i64 d, u, .int .i64 e] t
abbrev sgL (B : Nat) (k : Int) (v : Value) (a r n d : Int) (u : Value) (e : Int) : List (Nat × Nat × Value) := [(B, 0, .int .i64 k), (B, 1, v), (B, 2, .int .i64 a), (B, 3, .int .i64 r), (B, 4, .int .i64 n), (B, 5, .int .i64 d), (B, 6, u), (B, 7, .int .i64 e)]
theorem new_seg {w W : World} (hb : Below w.heap.size w W) (t : TypeId) (k : Int) (v : Value) (a r n d : Int) (u : Value) (e : Int) : Keeps w (sgL W.heap.size k v a r n d u e) (W.alloc (sgO t k v a r n d u e)) := by
 refine ⟨hb.alloc hb.size _, ?_⟩
 simp [Cells, go_sem]

theorem kbel {w W : World} {L : List (Nat × Nat × Value)} (h : Keeps w L W) : Below w.heap.size w W := h.1
theorem iwrap {x : Int} (h1 : -9223372036854775808 ≤ x) (h2 : x ≤ 9223372036854775807) : IntKind.i64.wrap x = x := by rw [IntKind.wrap_i64]; omega
theorem isBack_any (v : Int) (w : World) : Calls Tryz.prog 142 #[.int .i64 v] w (Ret w (.bool (backB v))) := by
 unfold backB
 cases g : decide (-2305844108725321728 ≤ v)
 ·go_enter Tryz.func142, Tryz.ntmps142
  go_wp2
  go_ret
  exact ⟨rfl, by go_grown⟩
 ·go_enter Tryz.func142, Tryz.ntmps142
  go_wp2
  go_ret
  exact ⟨rfl, by go_grown⟩
theorem beyond_any (v : Int) (w : World) : Calls Tryz.prog 204 #[.int .i64 v] w (Ret w (.bool (!backB v))) := by
 have IB := Lib.hid (fun W => isBack_any v W)
 generalize backB v = b at *
 go_enter Tryz.func204, Tryz.ntmps204
 go_wp2_with fail
 refine (IB.out _).mono ?_
 rintro e w1 ⟨rfl, hb⟩
 go_wp2_with fail
 go_ret
 exact ⟨rfl, hb⟩
set_option maxRecDepth 100000 in
theorem since_any (k a r n d e t : Int) (v u : Value) (R : List Rn) (w : World) (h : ReadsR w v R) (hR : R ≠ []) : Calls Tryz.prog 199 #[sgV k v a r n d u e, .int .i64 t] w (Ret w (.int .i64 (wrap64 (t - fstT R)))) := by
 obtain ⟨x, l, rfl⟩ := List.exists_cons_of_ne_nil hR
 obtain ⟨A, c, rfl, hc, hk⟩ := h
 obtain ⟨bb, off, rfl, hbw, c0, _, _⟩ := hk 0 x rfl
 have hn0 : 0 < (x :: l).length := by simp
 show Calls _ _ _ w (Ret w (.int .i64 (wrap64 (t - x.f))))
 generalize (x :: l).length = N at *
 have i0 : (0 : Int) < (N : Int) := by omega
 have hW := below_alloc w (sgO 94 k (.slice (some ⟨bb, off, none⟩) N c) a r n d u e)
 have c1 := (hW.cell (p := ⟨bb, off, none⟩) hbw).trans (by simpa using c0)
 clear c0 hk hc hR
 go_enter Tryz.func199, Tryz.ntmps199
 go_wp2_with fail
 go_ret
 exact ⟨rfl, hW⟩
set_option maxRecDepth 100000 in
theorem kind_any (a r n d : Int) (w : World) : Calls Tryz.prog 24 #[lnV a r n d] w (Ret w (.int .i64 (kindK a r n d))) := by
 have LC := fun W => lcheck_any a r n d W
 unfold kindK kindL
 cases g : lineB a r n d
 ·rw [g] at LC
  replace LC := Lib.hid LC
  go_enter Tryz.func24, Tryz.ntmps24
  go_wp2_with fail
  refine (LC.out _).mono ?_
  rintro e w1 ⟨rfl, hb⟩
  go_wp2_with fail
  go_ret
  exact ⟨rfl, past1 hb⟩
 ·rw [g] at LC
  replace LC := Lib.hid LC
  by_cases g1 : n = 0
  ·subst g1
   go_enter Tryz.func24, Tryz.ntmps24
   go_wp2_with fail
   refine (LC.out _).mono ?_
   rintro e w1 ⟨rfl, hb⟩
   have hHeld : Keeps w [(w.heap.size, 0, .int .i64 a), (w.heap.size, 1, .int .i64 r), (w.heap.size, 2, .int .i64 0), (w.heap.size, 3, .int .i64 d)] _ := Keeps.next (by refine ⟨by go_grown, ?_⟩; simp [Cells, go_sem]) hb
   clear hb
   obtain ⟨⟨_,_,_⟩,⟨_,_,_⟩,⟨_,_,_⟩,⟨_,_,_⟩,_⟩ := hHeld.2
   go_wp2_with fail
   go_ret
   exact ⟨rfl, hHeld.1⟩
  ·have t1 : (n == 0) = false := by simpa using g1
   by_cases g2 : r = 0
   ·subst g2
    have e : (if n = 0 then (1 : Int) else if (0 : Int) = 0 then 2 else 3) = 2 := by rw [if_neg g1, if_pos rfl]
    rw [if_pos rfl, e]
    go_enter Tryz.func24, Tryz.ntmps24
    go_wp2_with fail
    refine (LC.out _).mono ?_
    rintro e w1 ⟨rfl, hb⟩
    have hHeld : Keeps w [(w.heap.size, 0, .int .i64 a), (w.heap.size, 1, .int .i64 0), (w.heap.size, 2, .int .i64 n), (w.heap.size, 3, .int .i64 d)] _ := Keeps.next (by refine ⟨by go_grown, ?_⟩; simp [Cells, go_sem]) hb
    clear hb
    obtain ⟨⟨_,_,_⟩,⟨_,_,_⟩,⟨_,_,_⟩,⟨_,_,_⟩,_⟩ := hHeld.2
    go_wp2_with fail
    go_ret
    exact ⟨rfl, hHeld.1⟩
   ·have t2 : (r == 0) = false := by simpa using g2
    have e : (if n = 0 then (1 : Int) else if r = 0 then 2 else 3) = 3 := by rw [if_neg g1, if_neg g2]
    rw [if_pos rfl, e]
    go_enter Tryz.func24, Tryz.ntmps24
    go_wp2_with fail
    refine (LC.out _).mono ?_
    rintro e w1 ⟨rfl, hb⟩
    have hHeld : Keeps w [(w.heap.size, 0, .int .i64 a), (w.heap.size, 1, .int .i64 r), (w.heap.size, 2, .int .i64 n), (w.heap.size, 3, .int .i64 d)] _ := Keeps.next (by refine ⟨by go_grown, ?_⟩; simp [Cells, go_sem]) hb
    clear hb
    obtain ⟨⟨_,_,_⟩,⟨_,_,_⟩,⟨_,_,_⟩,⟨_,_,_⟩,_⟩ := hHeld.2
    go_wp2_with fail
    go_ret
    exact ⟨rfl, hHeld.1⟩

abbrev beyondV : Value := .func (.func 204) #[] #[]
set_option maxRecDepth 100000 in
set_option maxHeartbeats 1000000 in
theorem indexFunc_any (V : List Int) (hl : V.length ≤ 1000000) (u : Value) (w : World) (h : Reads .i64 w u V) :
  Calls Tryz.prog 229 #[u, beyondV] w (fun e w' => ∃ j : Int, e = .returned (.int .i64 j) ∧ (backs V = false ∧ 0 ≤ j ∨ backs V = true ∧ j = -1) ∧ Below w.heap.size w w') := by
 obtain ⟨A, c, rfl, hc, hk⟩ := h
 have HK := Lib.hid hk
 have hT0 : Hid (backs (V.take 0) = true) := Lib.hid rfl
 clear hk
 go_enter Tryz.func229, Tryz.ntmps229
 go_wp2_with fail
 go_loopw [8] (fun i wr => ∃ k : Nat, i = .int .i64 k ∧ k ≤ V.length ∧ Hid (backs (V.take k) = true) ∧ Below w.heap.size w wr) (fun i => fun _ => V.length - (intOf i).toNat)
 case atStart => exact ⟨0, rfl, Nat.zero_le _, hT0, by go_grown⟩
 case round =>
  obtain ⟨k, rfl, hkl, hT, hB⟩ := hrel
  by_cases hlt : k < V.length
  ·obtain ⟨z, hx⟩ : ∃ z, V[k]? = some z := ⟨_, List.getElem?_eq_getElem hlt⟩
   obtain ⟨bb, off, rfl, hbw, hc1⟩ := HK.out k _ hx
   have c1 := (hB.cell (p := ⟨bb, off + k, none⟩) hbw).trans hc1
   have i1 : (k : Int) < (V.length : Int) := by omega
   have i0 : (0 : Int) ≤ (k : Int) := by omega
   have hN : Hid (backs (V.take (k + 1)) = backB z) := Lib.hid (by
    have h0 := hT.out; unfold backs at *; rw [List.take_add_one, hx, List.all_append, h0]; simp)
   have hE : Hid (backB z = false → backs V = false) := Lib.hid (fun hz => by
    rw [← Bool.not_eq_true, backs_iff]
    intro hA
    have := hA z (List.mem_of_getElem? hx)
    rw [hz] at this; cases this)
   have BY := fun W => beyond_any z W
   have hk1 : k + 1 ≤ V.length := hlt
   clear hc1 hT hx
   cases gz : backB z
   ·rw [gz] at BY
    replace BY := Lib.hid BY
    have hA : Hid (backs V = false) := Lib.hid (hE.out gz)
    clear hN hE gz
    go_wp2_with fail
    refine (BY.out _).mono ?_
    rintro e w1 ⟨rfl, hb⟩
    go_wp2_with fail
    go_returns
    exact ⟨_, rfl, .inl ⟨hA.out, by omega⟩, under hB hb⟩
   ·rw [gz] at BY
    replace BY := Lib.hid BY
    have hA : Hid (backs (V.take (k + 1)) = true) := Lib.hid (hN.out.trans gz)
    clear hN hE gz
    go_wp2_with fail
    refine (BY.out _).mono ?_
    rintro e w1 ⟨rfl, hb⟩
    go_wp2_with fail
    go_roundw
    case rel => exact ⟨k + 1, by simp, hk1, hA, under hB hb⟩
    case measure => simp [intOf]; omega
  ·have i1 : ¬ (k : Int) < (V.length : Int) := by omega
   have hA : Hid (backs V = true) := Lib.hid (by
    have e : k = V.length := by omega
    have := hT.out
    rwa [e, List.take_length] at this)
   clear hT
   go_wp2_with fail
   go_returns
   exact ⟨_, rfl, .inr ⟨hA.out, rfl⟩, hB⟩
theorem containsFunc_any (V : List Int) (hl : V.length ≤ 1000000) (u : Value) (w : World) (h : Reads .i64 w u V) :
  Calls Tryz.prog 205 #[u, beyondV] w (Ret w (.bool (!backs V))) := by
 have IX := Lib.hid (indexFunc_any V hl u w h)
 go_enter Tryz.func205, Tryz.ntmps205
 go_wp2_with fail
 refine IX.out.mono ?_
 rintro e w1 ⟨j, rfl, hj, hb⟩
 rcases hj with ⟨hA, hj⟩ | ⟨hA, rfl⟩
 ·have t1 : decide (0 ≤ j) = true := by simpa using hj
  replace hA := Lib.hid hA
  go_wp2_with fail
  go_ret
  exact ⟨by rw [hA.out]; rfl, hb⟩
 ·replace hA := Lib.hid hA
  go_wp2_with fail
  go_ret
  exact ⟨by rw [hA.out]; rfl, hb⟩
end Go.Proofs.YtcfidimnbamnkaaGreat.P11
