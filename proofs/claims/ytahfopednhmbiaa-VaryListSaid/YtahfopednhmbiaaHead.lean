/-
  Layer 2: slices.Clone, and the statements' own bytes. Conditions: those written at each fact.
-/
import Derived.Test.YtahfopednhmbiaaPutB
import Derived.Test.YtahfopednhmbiaaRow2
import Derived.Lib.SliceRun
namespace Go.Proofs.Ytahfopednhmbiaa
open Go.RowKit Go.Shelf

theorem reads_add {k : IntKind} {w : World} {ad : Addr} {l : List Int} {c : Nat} (h : Reads k w (.slice (some ad) l.length c) l) {j : Nat} {u : Value} (hj : (l.map (Value.int k))[j]? = some u) : w.cell? (ad.add j) = some u := by
  rw [List.getElem?_map] at hj
  cases hz : l[j]? with
  | none => rw [hz] at hj; cases hj
  | some z =>
    rw [hz] at hj
    obtain ⟨b, off, e1, _, e3⟩ := h.at.2.2 j z hz
    cases e1
    cases hj
    by_cases g0 : j = 0
    · subst g0; simpa [Addr.add] using e3
    · simpa [Addr.add, g0] using e3
/-- What a function hands back that makes a row of numbers of its own. -/
def MadeI (w : World) (l : List Int) (e : Ending) (w' : World) : Prop :=
  ∃ v, e = .returned v ∧ Below w.heap.size w w' ∧ w'.ownsRow w.heap.size 2 1 v l.length (l.map (Value.int .i64))

set_option maxRecDepth 100000 in
set_option maxHeartbeats 1000000 in
theorem cloneB (l : List Int) (hl : l.length ≤ 1000000) (v : Value) (w : World) (h : Reads .u8 w v l) :
    Calls Try.prog 17 #[v] w (MadeB w l) := by
  obtain ⟨i0, hi, hz0, hz1, hz2⟩ := info_parts infoU8
  have hh := h
  obtain ⟨A, c, rfl, hc, hk⟩ := h
  have HK := Lib.hid hk
  have HH := Lib.hid hh
  clear hk hh
  have q : ∀ (w : World) (a : Option Addr) (n c n' c' : Nat), (binOp .eql 22 (.slice a n c) (.slice none n' c')).run Try.prog w = .ok (.bool a.isNone) w := fun w a n c n' c' => Lib.run_eql_slice_nil w _ _ a n c n' c' Try.underlying22
  cases A with
  | none =>
    have e : l = [] := by
      cases l with
      | nil => rfl
      | cons x l' =>
        obtain ⟨b, off, e1, _⟩ := HK.out 0 x rfl
        cases e1
    subst e
    go_enter Try.func17, Try.ntmps17
    go_wp2_with fail
    go_ret
    exact ⟨_, rfl, Below.refl _ _, World.ownsRow_nil _ _ _ _⟩
  | some ad =>
    go_enter Try.func17, Try.ntmps17
    go_wp2_with (at_builtin; refine wpList_append_own _ rfl _ _ 22 rfl w.heap.size 5 i0 (.int .u8 0) 1 1 Try.underlying22 hi hz0 hz1 hz2 rfl (by decide) _ _ _ rfl (World.ownsRow_made w #[] 0 (Nat.le_refl _) (Nat.zero_le _) rfl) ad l.length c (l.map (Value.int .u8)) rfl ?qc1 ?qc2 ?qc3 ?qc4 ?qc5 ?qc6 ?_)
    case qc1 => simp
    case qc2 => exact fun j u hj => reads_add (HH.out.below (below_alloc w _)) hj
    case qc3 => intro u hu; obtain ⟨x, _, rfl⟩ := List.mem_map.1 hu; rfl
    case qc4 => unfold maxLen; omega
    case qc5 => omega
    case qc6 => simp
    intro v' w1 hown hgrow _
    clear HH HK q
    go_wp2_with fail
    go_ret
    exact ⟨v', rfl, ((Below.refl _ w).alloc (Nat.le_refl _) _).grown hgrow (by simp) (by intro k hk; simp [Value.ownBlock] at hk; omega), by simpa using hown⟩

set_option maxRecDepth 100000 in
set_option maxHeartbeats 1000000 in
theorem cloneI (l : List Int) (hl : l.length ≤ 1000000) (v : Value) (w : World) (h : Reads .i64 w v l) :
    Calls Try.prog 25 #[v] w (MadeI w l) := by
  obtain ⟨i0, hi, hz0, hz1, hz2⟩ := info_parts infoI64
  have hh := h
  obtain ⟨A, c, rfl, hc, hk⟩ := h
  have HK := Lib.hid hk
  have HH := Lib.hid hh
  clear hk hh
  have q : ∀ (w : World) (a : Option Addr) (n c n' c' : Nat), (binOp .eql 40 (.slice a n c) (.slice none n' c')).run Try.prog w = .ok (.bool a.isNone) w := fun w a n c n' c' => Lib.run_eql_slice_nil w _ _ a n c n' c' Try.underlying40
  cases A with
  | none =>
    have e : l = [] := by
      cases l with
      | nil => rfl
      | cons x l' =>
        obtain ⟨b, off, e1, _⟩ := HK.out 0 x rfl
        cases e1
    subst e
    go_enter Try.func25, Try.ntmps25
    go_wp2_with fail
    go_ret
    exact ⟨_, rfl, Below.refl _ _, World.ownsRow_nil _ _ _ _⟩
  | some ad =>
    go_enter Try.func25, Try.ntmps25
    go_wp2_with (at_builtin; refine wpList_append_own _ rfl _ _ 40 rfl w.heap.size 2 i0 (.int .i64 0) 1 8 Try.underlying40 hi hz0 hz1 hz2 rfl (by decide) _ _ _ rfl (World.ownsRow_made w #[] 0 (Nat.le_refl _) (Nat.zero_le _) rfl) ad l.length c (l.map (Value.int .i64)) rfl ?qc1 ?qc2 ?qc3 ?qc4 ?qc5 ?qc6 ?_)
    case qc1 => simp
    case qc2 => exact fun j u hj => reads_add (HH.out.below (below_alloc w _)) hj
    case qc3 => intro u hu; obtain ⟨x, _, rfl⟩ := List.mem_map.1 hu; rfl
    case qc4 => unfold maxLen; omega
    case qc5 => omega
    case qc6 => simp
    intro v' w1 hown hgrow _
    clear HH HK q
    go_wp2_with fail
    go_ret
    exact ⟨v', rfl, ((Below.refl _ w).alloc (Nat.le_refl _) _).grown hgrow (by simp) (by intro k hk; simp [Value.ownBlock] at hk; omega), by simpa using hown⟩

/-- Bytes with marked room behind them. -/
def Head (w : World) (l : List Int) (e : Ending) (w' : World) : Prop :=
  ∃ g cap, e = .returned (.slice (some ⟨g, 0, none⟩) l.length cap) ∧ Below w.heap.size w w' ∧ w'.ownsRow w.heap.size 5 1 (.slice (some ⟨g, 0, none⟩) (l.length + 12) cap) (l.length + 12) ((l ++ List.replicate 12 238).map (Value.int .u8))
theorem reads_take {k : IntKind} {w : World} {A : Option Addr} {c : Nat} {l : List Int} (h : Reads k w (.slice A l.length c) l) (m : Nat) (hm : m ≤ l.length) : Reads k w (.slice A m c) (l.take m) := by
  obtain ⟨_, hc, hk⟩ := h.at
  refine ⟨A, c, by rw [List.length_take, Nat.min_eq_left hm], by rw [List.length_take]; omega, fun i z hz => ?_⟩
  rw [List.getElem?_take] at hz
  split at hz
  · exact hk i z hz
  · cases hz

set_option maxRecDepth 100000 in
set_option maxHeartbeats 2000000 in
theorem head_any (l : List Int) (hl : l.length ≤ 9223372036854775807) (v : Value) (w : World) (h : Reads .u8 w v l) :
    Calls Try.prog 11 #[v] w (Head w (l.take 400)) := by
  obtain ⟨i0, hi, hz0, hz1, hz2⟩ := info_parts infoU8
  obtain ⟨A, c, rfl, hc, hk⟩ := h
  obtain ⟨m, hm, hm1, hm2⟩ : ∃ m, m = (l.take 400).length ∧ m ≤ 400 ∧ m ≤ l.length := ⟨_, rfl, by simp; omega, by simp; omega⟩
  have RT : Hid (Reads .u8 w (.slice A m c) (l.take 400)) := Lib.hid (by
    have := reads_take (A := A) (c := c) ⟨A, c, rfl, hc, hk⟩ m hm2
    have e : l.take m = l.take 400 := by
      rw [hm]
      by_cases g : l.length ≤ 400
      · rw [List.take_of_length_le g, List.take_of_length_le (by simp)]
      · rw [List.length_take, Nat.min_eq_left (by omega)]
    rwa [e] at this)
  have CL := Lib.hid (cloneB (l.take 400) (by omega) _ w RT.out)
  have HM := Lib.hid hm
  have hmin : min (l.length : Int) 400 = m := by rw [hm]; simp; omega
  generalize l.take 400 = L at *
  clear hk hm RT
  by_cases gs : l.length ≤ 400
  · have em : l.length = m := by omega
    clear hmin
    rw [em] at hc gs ⊢
    clear em hl hm2
    go_enter Try.func11, Try.ntmps11
    go_wp2_with fail
    refine CL.out.mono ?_
    rintro e w1 ⟨v1, rfl, hb1, ho1⟩
    have L0 : L.length ≤ 400 := by have := HM.out; omega
    clear CL
    go_wp2_with fail
    go_loopw [3, 10] (fun v3 i wr => ∃ k : Nat, i = .int .i64 k ∧ k ≤ 12 ∧ Below w.heap.size w wr ∧ wr.ownsRow w.heap.size 5 1 v3 (L ++ List.replicate k 238).length ((L ++ List.replicate k 238).map (Value.int .u8))) (fun _ i _ => 12 - (intOf i).toNat)
    case atStart => exact ⟨0, rfl, by omega, hb1, by simpa using ho1⟩
    case round =>
      obtain ⟨k, rfl, hk, hB, hown⟩ := hrel
      have hk2 : (L ++ List.replicate k 238).length ≤ 412 := by simp; omega
      by_cases g : k < 12
      · have e2 : L ++ List.replicate (k + 1) 238 = (L ++ List.replicate k 238) ++ [238] := by rw [List.replicate_succ', List.append_assoc]
        have E2 := Lib.hid e2
        clear e2 hb1 ho1
        generalize L ++ List.replicate k 238 = K at *
        go_wp2_with (at_builtin; refine wpList_append_own _ rfl _ _ 22 rfl w.heap.size 5 i0 (.int .u8 0) 1 1 Try.underlying22 hi hz0 hz1 hz2 rfl (by decide) _ _ _ rfl (hown.alloc _) ⟨wr.heap.size, 0, none⟩ 1 1 [.int .u8 238] rfl rfl one_cell64 (by simp [Value.oneCell']) ?c3 ?c4 ?c5 ?_)
        case c3 => unfold maxLen; omega
        case c4 => omega
        case c5 => have := hB.size; simp; omega
        intro v' w2 hown' hgrow _
        have hB2 : Below w.heap.size w w2 := (hB.alloc (by have := hB.size; omega) _).grown hgrow (by have := hB.size; simp; omega) (fun j hj => by have := (hown.lt j hj).1; omega)
        clear hgrow hown hB
        go_wp2_with fail
        go_roundw
        case rel => exact ⟨k + 1, by simp, by omega, hB2, by rw [E2.out]; simpa using hown'⟩
        case measure => simp [intOf]; omega
      · obtain rfl : k = 12 := by omega
        have hlen : (L ++ List.replicate 12 238).length = L.length + 12 := by simp
        rw [hlen] at hown
        obtain ⟨gb, cap, rfl⟩ := ownsRow_succ (k := L.length + 11) hown
        have hcap : L.length + 11 + 1 ≤ cap := by
          rcases hown.2 with ⟨e, _⟩ | ⟨g', cap', cur, e, _, _, h3, _⟩
          · cases e
          · cases e; exact h3
        have HO := Lib.hid hown
        clear hown hlen hk2 g hb1 ho1 hk
        go_wp2_with fail
        go_ret
        refine ⟨gb, cap, ?_, hB, HO.out⟩
        first | rfl | simp
  · have em : m = 400 := by omega
    subst em
    clear hmin
    go_enter Try.func11, Try.ntmps11
    go_wp2_with fail
    refine CL.out.mono ?_
    rintro e w1 ⟨v1, rfl, hb1, ho1⟩
    have L0 : L.length ≤ 400 := by have := HM.out; omega
    clear CL
    go_wp2_with fail
    go_loopw [3, 10] (fun v3 i wr => ∃ k : Nat, i = .int .i64 k ∧ k ≤ 12 ∧ Below w.heap.size w wr ∧ wr.ownsRow w.heap.size 5 1 v3 (L ++ List.replicate k 238).length ((L ++ List.replicate k 238).map (Value.int .u8))) (fun _ i _ => 12 - (intOf i).toNat)
    case atStart => exact ⟨0, rfl, by omega, hb1, by simpa using ho1⟩
    case round =>
      obtain ⟨k, rfl, hk, hB, hown⟩ := hrel
      have hk2 : (L ++ List.replicate k 238).length ≤ 412 := by simp; omega
      by_cases g : k < 12
      · have e2 : L ++ List.replicate (k + 1) 238 = (L ++ List.replicate k 238) ++ [238] := by rw [List.replicate_succ', List.append_assoc]
        have E2 := Lib.hid e2
        clear e2 hb1 ho1
        generalize L ++ List.replicate k 238 = K at *
        go_wp2_with (at_builtin; refine wpList_append_own _ rfl _ _ 22 rfl w.heap.size 5 i0 (.int .u8 0) 1 1 Try.underlying22 hi hz0 hz1 hz2 rfl (by decide) _ _ _ rfl (hown.alloc _) ⟨wr.heap.size, 0, none⟩ 1 1 [.int .u8 238] rfl rfl one_cell64 (by simp [Value.oneCell']) ?c3 ?c4 ?c5 ?_)
        case c3 => unfold maxLen; omega
        case c4 => omega
        case c5 => have := hB.size; simp; omega
        intro v' w2 hown' hgrow _
        have hB2 : Below w.heap.size w w2 := (hB.alloc (by have := hB.size; omega) _).grown hgrow (by have := hB.size; simp; omega) (fun j hj => by have := (hown.lt j hj).1; omega)
        clear hgrow hown hB
        go_wp2_with fail
        go_roundw
        case rel => exact ⟨k + 1, by simp, by omega, hB2, by rw [E2.out]; simpa using hown'⟩
        case measure => simp [intOf]; omega
      · obtain rfl : k = 12 := by omega
        have hlen : (L ++ List.replicate 12 238).length = L.length + 12 := by simp
        rw [hlen] at hown
        obtain ⟨gb, cap, rfl⟩ := ownsRow_succ (k := L.length + 11) hown
        have hcap : L.length + 11 + 1 ≤ cap := by
          rcases hown.2 with ⟨e, _⟩ | ⟨g', cap', cur, e, _, _, h3, _⟩
          · cases e
          · cases e; exact h3
        have HO := Lib.hid hown
        clear hown hlen hk2 g hb1 ho1 hk
        go_wp2_with fail
        go_ret
        refine ⟨gb, cap, ?_, hB, HO.out⟩
        first | rfl | simp
end Go.Proofs.Ytahfopednhmbiaa
