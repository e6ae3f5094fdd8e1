/-
 Layer 11: a segment's value at a place. Conditions: the segment may be.
-/
import Derived.Test.YtcfidimnbamnkaaGreatKitW
import Derived.Maps.RangeWalk
import Derived.Test.YtcfidimnbamnkaaGreatSgF
import Derived.Test.YtcfidimnbamnkaaGreatKitT
import Derived.Test.YtcfidimnbamnkaaGreatKitS
import Derived.Test.YtcfidimnbamnkaaGreatFC
import Derived.Test.YtcfidimnbamnkaaGreatNC
import Derived.Test.YtcfidimnbamnkaaGreatKitR
import Derived.Laws.EntriesVeiled
import Derived.Test.YtcfidimnbamnkaaGreatND
namespace Go.Proofs.YtcfidimnbamnkaaGreat.P11
open Go.RowKit Go.Shelf Go.Proofs.YtcfidimnbamnkaaGreat.P7

end Go.Proofs.YtcfidimnbamnkaaGreat.P11

/-
 Layer 11: the least and the greatest of numbers; what each part of a row comes to, together. Conditions: those written at each fact.
-/
namespace Go.Proofs.YtcfidimnbamnkaaGreat.P11
open Go.RowKit Go.Shelf Go.Proofs.YtcfidimnbamnkaaGreat.P7

end Go.Proofs.YtcfidimnbamnkaaGreat.P11

/-
 Layer 11: what the values at some places come to: plain numbers, and a piece's sum. Conditions: those written at each fact.
-/
namespace Go.Proofs.YtcfidimnbamnkaaGreat.P11
open Go.RowKit Go.Shelf Go.Proofs.YtcfidimnbamnkaaGreat.P7

end Go.Proofs.YtcfidimnbamnkaaGreat.P11

/-
 Layer 11: what a segment's values at some places come to, as its kind tells it. Conditions: the segment may be; the places are its own.
-/
namespace Go.Proofs.YtcfidimnbamnkaaGreat.P11
open Go.RowKit Go.Shelf Go.Proofs.YtcfidimnbamnkaaGreat.P7

end Go.Proofs.YtcfidimnbamnkaaGreat.P11

/-
 Layer 11: what numbers at some places of a row come to. Conditions: the places are its own.
-/
namespace Go.Proofs.YtcfidimnbamnkaaGreat.P11
open Go.RowKit Go.Shelf Go.Proofs.YtcfidimnbamnkaaGreat.P7

end Go.Proofs.YtcfidimnbamnkaaGreat.P11

/-
 Layer 11: what tells something of a segment that may be (ofSeg), and Count, Value, At. Conditions: those written at each fact.
-/
namespace Go.Proofs.YtcfidimnbamnkaaGreat.P11
open Go.RowKit Go.Shelf Go.Proofs.YtcfidimnbamnkaaGreat.P7

attribute [local go_sem] fieldK0 fieldK1 fieldK2
end Go.Proofs.YtcfidimnbamnkaaGreat.P11

/-
 Layer 11: what a segment's values at some times come to (Part). Conditions: those written at each fact.
-/
namespace Go.Proofs.YtcfidimnbamnkaaGreat.P11
open Go.RowKit Go.Shelf Go.Proofs.YtcfidimnbamnkaaGreat.P7

attribute [local go_sem] fieldK0 fieldK1 fieldK2
end Go.Proofs.YtcfidimnbamnkaaGreat.P11

/-
 Layer 11: Part. Conditions: those written at each fact.
-/
namespace Go.Proofs.YtcfidimnbamnkaaGreat.P11
open Go.RowKit Go.Shelf Go.Proofs.YtcfidimnbamnkaaGreat.P7

attribute [local go_sem] fieldK0 fieldK1 fieldK2
end Go.Proofs.YtcfidimnbamnkaaGreat.P11

/-
 Layer 11: a segment in memory of the law's own. Conditions: those written at each fact.
-/
namespace Go.Proofs.YtcfidimnbamnkaaGreat.P11
open Go.RowKit Go.Shelf Go.Proofs.YtcfidimnbamnkaaGreat.P7

structure Own2 (w' : World) (B : Nat) (s : Sg) (v u : Value) : Prop where
 runs : w'.ownsRow B 44 3 v s.R.length (flatR s.R)
 raws : w'.ownsRow B 2 1 u s.V.length (s.V.map (Value.int .i64))
theorem Own2.below {w w' : World} {B : Nat} {s : Sg} {v u : Value} (h : Own2 w B s v u) (hb : Below w.heap.size w w') : Own2 w' B s v u := ⟨owns_below h.runs hb, owns_below h.raws hb⟩
theorem Own2.reads {w : World} {B : Nat} {s : Sg} {v u : Value} (h : Own2 w B s v u) : Reads .i64 w u s.V := reads_own (k := .i64) h.raws
theorem own_sl {w : World} {B : Nat} {e : TypeId} {s n : Nat} {v : Value} {xs : List Value} (h : w.ownsRow B e s v n xs) : ∃ A m c, v = .slice A m c := by
 rcases h.2 with ⟨rfl, _⟩ | ⟨g, cap, cur, rfl, _⟩
 ·exact ⟨_, _, _, rfl⟩
 ·exact ⟨_, _, _, rfl⟩
theorem kupd {w W : World} {L M : List (Nat × Nat × Value)} {b o : Nat} {x : Value} (h : Keeps w L W) (ha : W.cell? ⟨b, o, none⟩ = some x) (hb : w.heap.size ≤ b) (u : Value) (hM : updL b o u L = M) : Keeps w M (W.setCell ⟨b, o, none⟩ u) := hM ▸ h.upd ha hb u
end Go.Proofs.YtcfidimnbamnkaaGreat.P11

/-
 Layer 11: a segment without what it shares (apart), Of and Raw. Conditions: those written at each fact.
-/
namespace Go.Proofs.YtcfidimnbamnkaaGreat.P11
open Go.RowKit Go.Shelf Go.Proofs.YtcfidimnbamnkaaGreat.P7

set_option maxRecDepth 100000 in
set_option maxHeartbeats 1000000 in
theorem cloneR_any (l : List Rn) (hl : l.length ≤ 1000000) (v : Value) (w : World) (h : ReadsR w v l) : Calls Tryz.prog 94 #[v] w (fun e w' => ∃ A n c, e = .returned (.slice A n c) ∧ Below w.heap.size w w' ∧ w'.ownsRow w.heap.size 44 3 (.slice A n c) l.length (flatR l)) := by
 obtain ⟨i0, hi, hz0, hz1, hz2⟩ := info_parts infoRun
 have hh := h
 obtain ⟨A, c, rfl, hc, hk⟩ := h
 have q : ∀ (w : World) (a : Option Addr) (n c n' c' : Nat), (binOp .eql 22 (.slice a n c) (.slice none n' c')).run Tryz.prog w = .ok (.bool a.isNone) w := fun w a n c n' c' => Lib.run_eql_slice_nil w _ _ a n c n' c' Tryz.underlying22
 cases A with
 | none =>
  have e : l = [] := by
   cases l with
   | nil => rfl
   | cons x l' =>
    obtain ⟨b, off, e1, _⟩ := hk 0 x rfl
    cases e1
  subst e
  clear hk hh
  go_enter Tryz.func94, Tryz.ntmps94
  go_wp2_with fail
  go_ret
  exact ⟨none, 0, 0, rfl, Below.refl _ _, rfl, .inl ⟨rfl, rfl⟩⟩
 | some ad =>
  have HH := Lib.hid hh
  clear hk hh
  go_enter Tryz.func94, Tryz.ntmps94
  go_wp2_with (at_builtin; refine wpList_append_own _ rfl _ _ 22 rfl w.heap.size 44 i0 (.agg #[.int .i64 0, .int .i64 0, .int .i64 0]) 3 24 Tryz.underlying22 hi hz0 hz1 hz2 rfl (by decide) _ _ _ rfl (World.ownsRow_made w #[] 0 (Nat.le_refl _) (Nat.zero_le _) rfl) ad l.length c (flatR l) rfl ?qc1 ?qc2 ?qc3 ?qc4 ?qc5 ?qc6 ?_)
  case qc1 => exact flatR_length l
  case qc2 => exact reads_flatR (HH.out.below (below_alloc w _))
  case qc3 => exact P7.flatR_one l
  case qc4 => unfold maxLen; omega
  case qc5 => omega
  case qc6 => simp
  intro v' w1 hown hgrow _
  obtain ⟨A9, n9, c9, rfl⟩ := own_sl hown
  have hB : Below w.heap.size w w1 := ((Below.refl _ w).alloc (Nat.le_refl _) _).grown hgrow (by simp) (by intro k hk; simp [Value.ownBlock] at hk; omega)
  replace hown := Lib.hid hown
  clear HH hgrow
  go_wp2_with fail
  go_ret
  exact ⟨A9, n9, c9, rfl, hB, by simpa using hown.out⟩
set_option maxRecDepth 100000 in
set_option maxHeartbeats 1000000 in
theorem cloneI_any (l : List Int) (hl : l.length ≤ 1000000) (v : Value) (w : World) (h : Reads .i64 w v l) : Calls Tryz.prog 95 #[v] w (fun e w' => ∃ A n c, e = .returned (.slice A n c) ∧ Below w.heap.size w w' ∧ w'.ownsRow w.heap.size 2 1 (.slice A n c) l.length (l.map (Value.int .i64))) := by
 obtain ⟨i0, hi, hz0, hz1, hz2⟩ := info_parts infoI64
 have hh := h
 obtain ⟨A, c, rfl, hc, hk⟩ := h
 have q : ∀ (w : World) (a : Option Addr) (n c n' c' : Nat), (binOp .eql 25 (.slice a n c) (.slice none n' c')).run Tryz.prog w = .ok (.bool a.isNone) w := fun w a n c n' c' => Lib.run_eql_slice_nil w _ _ a n c n' c' Tryz.underlying25
 cases A with
 | none =>
  have e : l = [] := by
   cases l with
   | nil => rfl
   | cons x l' =>
    obtain ⟨b, off, e1, _⟩ := hk 0 x rfl
    cases e1
  subst e
  clear hk hh
  go_enter Tryz.func95, Tryz.ntmps95
  go_wp2_with fail
  go_ret
  exact ⟨none, 0, 0, rfl, Below.refl _ _, rfl, .inl ⟨rfl, rfl⟩⟩
 | some ad =>
  have HH := Lib.hid hh
  clear hk hh
  go_enter Tryz.func95, Tryz.ntmps95
  go_wp2_with (at_builtin; refine wpList_append_own _ rfl _ _ 25 rfl w.heap.size 2 i0 (.int .i64 0) 1 8 Tryz.underlying25 hi hz0 hz1 hz2 rfl (by decide) _ _ _ rfl (World.ownsRow_made w #[] 0 (Nat.le_refl _) (Nat.zero_le _) rfl) ad l.length c (l.map (Value.int .i64)) rfl ?qc1 ?qc2 ?qc3 ?qc4 ?qc5 ?qc6 ?_)
  case qc1 => simp
  case qc2 => exact reads_addI (HH.out.below (below_alloc w _))
  case qc3 => exact P7.ints_one l
  case qc4 => unfold maxLen; omega
  case qc5 => omega
  case qc6 => simp
  intro v' w1 hown hgrow _
  obtain ⟨A9, n9, c9, rfl⟩ := own_sl hown
  have hB : Below w.heap.size w w1 := ((Below.refl _ w).alloc (Nat.le_refl _) _).grown hgrow (by simp) (by intro k hk; simp [Value.ownBlock] at hk; omega)
  replace hown := Lib.hid hown
  clear HH hgrow
  go_wp2_with fail
  go_ret
  exact ⟨A9, n9, c9, rfl, hB, by simpa using hown.out⟩
theorem store8 {w W : World} {B : Nat} (hB : Below w.heap.size w W) (hw : w.heap.size ≤ B) (x0 x1 x2 x3 x4 x5 x6 x7 : Value) : Below w.heap.size w ((((((((W.setCell ⟨B, 0, none⟩ x0).setCell ⟨B, 1, none⟩ x1).setCell ⟨B, 2, none⟩ x2).setCell ⟨B, 3, none⟩ x3).setCell ⟨B, 4, none⟩ x4).setCell ⟨B, 5, none⟩ x5).setCell ⟨B, 6, none⟩ x6).setCell ⟨B, 7, none⟩ x7) :=
 (((((((hB.setCell hw _).setCell hw _).setCell hw _).setCell hw _).setCell hw _).setCell hw _).setCell hw _).setCell hw _
theorem owns8 {W : World} {B B' m : Nat} {e : TypeId} {size n : Nat} {v : Value} {xs : List Value} (hr : W.ownsRow m e size v n xs) (hB : B < m) (hm : B' ≤ m) (x0 x1 x2 x3 x4 x5 x6 x7 : Value) : ((((((((W.setCell ⟨B, 0, none⟩ x0).setCell ⟨B, 1, none⟩ x1).setCell ⟨B, 2, none⟩ x2).setCell ⟨B, 3, none⟩ x3).setCell ⟨B, 4, none⟩ x4).setCell ⟨B, 5, none⟩ x5).setCell ⟨B, 6, none⟩ x6).setCell ⟨B, 7, none⟩ x7).ownsRow B' e size v n xs :=
 owns_less (owns_low (owns_low (owns_low (owns_low (owns_low (owns_low (owns_low (owns_low hr hB x0) hB x1) hB x2) hB x3) hB x4) hB x5) hB x6) hB x7) hm
end Go.Proofs.YtcfidimnbamnkaaGreat.P11

/-
 Layer 11: Of and Raw. Conditions: those written at each fact.
-/
namespace Go.Proofs.YtcfidimnbamnkaaGreat.P11
open Go.RowKit Go.Shelf Go.Proofs.YtcfidimnbamnkaaGreat.P7

abbrev sgOf (s : Sg) (v u : Value) : Value := sgV s.k v s.a s.r s.n s.d u s.e
end Go.Proofs.YtcfidimnbamnkaaGreat.P11
