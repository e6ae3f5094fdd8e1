/-
  The document's own answers, first part: the binary digits of a number from 0 on, as a row. Conditions: those written at each fact.
-/
import Derived.Test.YtmkminaipeodnaaProg
import Derived.Test.YtmkminaipeodnaaKit
import Derived.WalkKit
namespace Go.Proofs.Ytmkminaipeodnaa
open Go.RowKit

/-- The binary digits, the lowest first, without noughts at the end. -/
def sizeL (u : Nat) : List Int := if h : u = 0 then [] else ((u : Int) % 2) :: sizeL (u / 2)
termination_by u
decreasing_by omega
theorem sizeL_zero : sizeL 0 = [] := by rw [sizeL]; rfl
theorem sizeL_pos {u : Nat} (h : u ≠ 0) : sizeL u = ((u : Int) % 2) :: sizeL (u / 2) := by rw [sizeL, dif_neg h]
theorem sizeL_length : ∀ (k u : Nat), u < 2 ^ k → (sizeL u).length ≤ k
  | 0, u, h => by
    have : u = 0 := by simpa using h
    subst this
    rw [sizeL_zero]
    exact Nat.le_refl _
  | k + 1, u, h => by
    by_cases g : u = 0
    · subst g; rw [sizeL_zero]; simp
    · rw [sizeL_pos g, List.length_cons]
      have := sizeL_length k (u / 2) (by rw [Nat.pow_succ] at h; omega)
      omega
theorem infoInt : (Try.prog.info? 3).map (fun i => (i.zero, i.size, i.bytes)) = some (some (.int .i64 0), 1, 8) := by kernel_rfl

/-- What a function hands back that makes a row of its own. -/
def Made (w : World) (l : List Int) (e : Ending) (w' : World) : Prop :=
  ∃ v, e = .returned v ∧ Below w.heap.size w w' ∧ w'.ownsRow w.heap.size 3 1 v l.length (l.map (Value.int .i64))

/-- One more element behind a row of the call's own. -/
theorem row_more {B : Nat} {K : List Int} {z : Int} {w wr w1 : World} {v v' : Value} {o : Obj} (hB : B ≤ wr.heap.size)
    (hown : wr.ownsRow B 3 1 v K.length (K.map (Value.int .i64))) (hnx : Below B w wr)
    (hown' : w1.ownsRow B 3 1 v' (K.length + 1) (K.map (Value.int .i64) ++ [.int .i64 z])) (hgrow : (wr.alloc o).grownBy w1 v.ownBlock) :
    w1.ownsRow B 3 1 v' (K ++ [z]).length ((K ++ [z]).map (Value.int .i64)) ∧ Below B w w1 :=
  ⟨by simpa using hown', (hnx.alloc (by omega) o).grown hgrow (by simp; omega) (fun j hj => by have := (hown.lt j hj).1; omega)⟩

set_option maxRecDepth 100000 in
set_option maxHeartbeats 1600000 in
theorem size_any (u : Nat) (hu : u < 18446744073709551616) (w : World) :
    Calls Try.prog 56 #[.int .u64 u] w (Made w (sizeL u)) := by
  have HL := Lib.hid (sizeL_length 64 u (by omega))
  obtain ⟨i0, hi, hz0, hz1, hz2⟩ := info_parts infoInt
  go_enter Try.func56, Try.ntmps56
  go_wp2_with fail
  go_loopw [3, 0] (fun v i wr => ∃ (x : Nat) (K : List Int), i = .int .u64 x ∧ x < 18446744073709551616 ∧ Hid (K ++ sizeL x = sizeL u) ∧ wr.ownsRow w.heap.size 3 1 v K.length (K.map (Value.int .i64)) ∧ Below w.heap.size w wr)
    (fun _ i _ => (intOf i).toNat)
  case atStart => exact ⟨u, [], rfl, hu, Lib.hid rfl, World.ownsRow_nil _ _ _ _, Below.refl _ _⟩
  case round =>
    obtain ⟨x, K, rfl, hx, hK, hown, hnx⟩ := hrel
    have hle : K.length ≤ 64 := by
      have := HL.out
      rw [← hK.out, List.length_append] at this
      omega
    by_cases g : x = 0
    · subst g
      have e := hK.out
      rw [sizeL_zero, List.append_nil] at e
      have E := Lib.hid e
      clear e hK
      go_wp2_with fail
      go_ret
      rw [← E.out]
      exact ⟨_, rfl, hnx, hown⟩
    · have g1 : (0 : Int) < (x : Int) := by omega
      go_wp2_with (at_builtin; refine wpList_append_own _ rfl _ _ 43 rfl w.heap.size 3 i0 (.int .i64 0) 1 8 Try.underlying43 hi hz0 hz1 hz2 rfl (by decide) _ _ _ rfl (hown.alloc _) ⟨wr.heap.size, 0, none⟩ 1 1 [.int .i64 ((x : Int) % 2)] rfl rfl ?c1 ?c2 ?c3 ?c4 ?c5 ?_)
      case c1 =>
        intro j u hj
        match j, hj with
        | 0, hj => simp at hj; subst hj; simp [Addr.add]
      case c2 => intro u hu; simp at hu; subst hu; rfl
      case c3 => unfold maxLen; omega
      case c4 => omega
      case c5 => have := hnx.size; simp; omega
      intro v' w1 hown' hgrow _
      have R := row_more hnx.size hown hnx hown' hgrow
      have hK' : Hid ((K ++ [(x : Int) % 2]) ++ sizeL (x / 2) = sizeL u) := Lib.hid (by rw [← hK.out, sizeL_pos g, List.append_assoc]; rfl)
      clear hown' hgrow hown hnx hK
      go_wp2_with fail
      go_roundw
      case rel => exact ⟨x / 2, _, by simp, by omega, hK', R.1, R.2⟩
      case measure => simp [intOf]; omega
end Go.Proofs.Ytmkminaipeodnaa
