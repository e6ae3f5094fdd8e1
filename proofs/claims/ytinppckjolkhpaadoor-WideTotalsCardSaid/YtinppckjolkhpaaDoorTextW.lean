/-
  What package wide's texts are made of: groups of digits. Conditions: words are of 64 bits; the table of powers of ten holds what its initialiser lays.
-/
import Derived.Test.YtinppckjolkhpaaDoorText
import Derived.Test.YtinppckjolkhpaaDoorTextM
import Derived.Test.YtinppckjolkhpaaDoorWideH
namespace Go.Proofs.YtinppckjolkhpaaDoor
open Go.RowKit Go.Shelf

set_option maxRecDepth 100000 in
theorem padded_any (n : Int) (h0 : 0 ≤ n) (h1 : n < 10000000000000000000) (w : World) (htab : Tab w) :
    Calls Tryd.prog 53 #[.int .u64 n] w (Ret w (strV (pad19 n))) := by
  have hl : Lib.nDigits n.toNat ≤ 19 := nDigits_le (by omega) (by decide)
  have hp : pad19 n = Lib.repeatL [48] (19 - Lib.nDigits n.toNat) ++ Lib.decDigits n.toNat := by
    unfold pad19; rw [repeat_nought, pad_dec _ _ hl]
  have hlen := Lib.decDigits_length n.toNat
  have f := fmtU_any n ⟨h0, by omega⟩ w htab
  have r := fun w => Tryd.strings_Repeat ⟨#[48]⟩ (19 - Lib.nDigits n.toNat) w (by omega) (by show 1 * _ ≤ _; omega)
  rw [hp]
  have F := Lib.hid f
  have R := Lib.hid r
  have HL := Lib.hid hlen
  clear f r htab hp hlen
  generalize Lib.decDigits n.toNat = ds at *
  generalize Lib.nDigits n.toNat = k at *
  go_enter Tryd.func53, Tryd.ntmps53
  go_wp2_with fail
  refine F.out.mono ?_
  rintro e w1 ⟨rfl, hb⟩
  go_wp2_with fail
  have e1 : wrap64 (19 - (ds.length : Int)) = ((19 - k : Nat) : Int) := by rw [HL.out]; unfold wrap64; omega
  rw [e1]
  refine (R.out _).mono ?_
  rintro e w2 ⟨rfl, hb2⟩
  have hlr := Lib.repeatL_length [48] (19 - k)
  have hlim : ¬ 9223372036854775807 < (Lib.repeatL [48] (19 - k)).length + ds.length := by
    rw [hlr, HL.out]; simp only [List.length_cons, List.length_nil]; omega
  generalize Lib.repeatL [48] (19 - k) = rs at *
  clear e1 HL hlr
  go_wp2_with fail
  go_ret
  exact ⟨congrArg (fun x => Ending.returned (Value.string x)) (str_append _ _), under hb hb2⟩

set_option maxRecDepth 100000 in
set_option maxHeartbeats 1600000 in
theorem groups_any (h l : Int) (hh : U64 h) (hl : U64 l) (w : World) :
    Calls Tryd.prog 50 #[distV h l] w (Ret w (.agg #[.int .u64 (g0 (val h l)), .int .u64 (g1 (val h l)), .int .u64 (g2 (val h l))])) := by
  have n0 : 0 ≤ val h l := by unfold val; have := hh.1; have := hl.1; omega
  have n1 : val h l < 340282366920938463463374607431768211456 := by unfold val; have := hh.2; have := hl.2; omega
  have uT : U64 10000000000000000000 := ⟨by decide, by decide⟩
  have A0 : 0 ≤ val h l / 10000000000000000000 := by omega
  have A1 : val h l / 10000000000000000000 < 340282366920938463463374607431768211456 := by omega
  have B0 : 0 ≤ val h l / 10000000000000000000 / 10000000000000000000 := by omega
  have B1 : val h l / 10000000000000000000 / 10000000000000000000 < 340282366920938463463374607431768211456 := by omega
  have o0 := over_any h l _ hh hl uT (by decide)
  have o1 := over_any _ _ _ (dh_u64 A0 A1) (dl_u64 (val h l / 10000000000000000000)) uT (by decide)
  have o2 := over_any _ _ _ (dh_u64 B0 B1) (dl_u64 (val h l / 10000000000000000000 / 10000000000000000000)) uT (by decide)
  rw [val_d] at o1 o2
  have e0 : g0 (val h l) = val h l % 10000000000000000000 := by unfold g0; rfl
  have e1 : g1 (val h l) = val h l / 10000000000000000000 % 10000000000000000000 := by unfold g1; rfl
  have e2 : g2 (val h l) = val h l / 10000000000000000000 / 10000000000000000000 % 10000000000000000000 := by unfold g2; rfl
  rw [← e0] at o0
  rw [← e1] at o1
  rw [← e2] at o2
  clear n0 n1 A0 A1 B0 B1 uT e0 e1 e2
  generalize g0 (val h l) = G0 at *
  generalize g1 (val h l) = G1 at *
  generalize g2 (val h l) = G2 at *
  generalize dh (val h l / 10000000000000000000) = a1 at *
  generalize dl (val h l / 10000000000000000000) = a2 at *
  generalize dh (val h l / 10000000000000000000 / 10000000000000000000) = b1 at *
  generalize dl (val h l / 10000000000000000000 / 10000000000000000000) = b2 at *
  generalize dh (val h l / 10000000000000000000 / 10000000000000000000 / 10000000000000000000) = c1 at *
  generalize dl (val h l / 10000000000000000000 / 10000000000000000000 / 10000000000000000000) = c2 at *
  have H0 := Lib.hid o0
  have H1 := Lib.hid o1
  have H2 := Lib.hid o2
  clear o0 o1 o2 hh hl
  go_enter Tryd.func50, Tryd.ntmps50
  go_wp2_with fail
  refine wp_loop_rounds 4 ?_
  rw [rounds_succ]
  go_wp2_with fail
  refine (H0.out _).mono ?_
  rintro e w1 ⟨rfl, hb⟩
  have hHeld : Keeps w [(w.heap.size, 0, .int .u64 h), (w.heap.size, 1, .int .u64 l), (w.heap.size + 1, 0, .int .u64 0), (w.heap.size + 1, 1, .int .u64 0), (w.heap.size + 1, 2, .int .u64 0), (w.heap.size + 1 + 1, 0, .int .u64 0), (w.heap.size + 1 + 1, 1, .int .u64 0), (w.heap.size + 1 + 1, 2, .int .u64 0)] _ := Keeps.next (by refine ⟨by go_grown, ?_⟩; simp [Cells, go_sem]) hb
  clear hb
  obtain ⟨⟨kz0, kc0, kf0⟩, ⟨kz1, kc1, kf1⟩, ⟨kz2, kc2, kf2⟩, ⟨kz3, kc3, kf3⟩, ⟨kz4, kc4, kf4⟩, ⟨kz5, kc5, kf5⟩, ⟨kz6, kc6, kf6⟩, ⟨kz7, kc7, kf7⟩, _⟩ := hHeld.2
  go_wp2_with fail
  rw [rounds_succ]
  go_wp2_with fail
  refine (H1.out _).mono ?_
  rintro e w2 ⟨rfl, hb⟩
  replace hHeld : Keeps w [(w.heap.size, 0, .int .u64 a1), (w.heap.size, 1, .int .u64 a2), (w.heap.size + 1, 0, .int .u64 0), (w.heap.size + 1, 1, .int .u64 0), (w.heap.size + 1, 2, .int .u64 0), (w.heap.size + 1 + 1, 0, .int .u64 G0), (w.heap.size + 1 + 1, 1, .int .u64 0), (w.heap.size + 1 + 1, 2, .int .u64 0)] _ := Keeps.next ((by exact ⟨by (have hB := hHeld.1; have hz := hB.size; go_grown), by simp [Cells, go_sem, *]⟩)) hb
  clear hb kz0 kc0 kf0 kz1 kc1 kf1 kz2 kc2 kf2 kz3 kc3 kf3 kz4 kc4 kf4 kz5 kc5 kf5 kz6 kc6 kf6 kz7 kc7 kf7
  obtain ⟨⟨kz0, kc0, kf0⟩, ⟨kz1, kc1, kf1⟩, ⟨kz2, kc2, kf2⟩, ⟨kz3, kc3, kf3⟩, ⟨kz4, kc4, kf4⟩, ⟨kz5, kc5, kf5⟩, ⟨kz6, kc6, kf6⟩, ⟨kz7, kc7, kf7⟩, _⟩ := hHeld.2
  go_wp2_with fail
  rw [rounds_succ]
  go_wp2_with fail
  refine (H2.out _).mono ?_
  rintro e w3 ⟨rfl, hb⟩
  replace hHeld : Keeps w [(w.heap.size, 0, .int .u64 b1), (w.heap.size, 1, .int .u64 b2), (w.heap.size + 1, 0, .int .u64 0), (w.heap.size + 1, 1, .int .u64 0), (w.heap.size + 1, 2, .int .u64 0), (w.heap.size + 1 + 1, 0, .int .u64 G0), (w.heap.size + 1 + 1, 1, .int .u64 G1), (w.heap.size + 1 + 1, 2, .int .u64 0)] _ := Keeps.next ((by exact ⟨by (have hB := hHeld.1; have hz := hB.size; go_grown), by simp [Cells, go_sem, *]⟩)) hb
  clear hb kz0 kc0 kf0 kz1 kc1 kf1 kz2 kc2 kf2 kz3 kc3 kf3 kz4 kc4 kf4 kz5 kc5 kf5 kz6 kc6 kf6 kz7 kc7 kf7
  obtain ⟨⟨kz0, kc0, kf0⟩, ⟨kz1, kc1, kf1⟩, ⟨kz2, kc2, kf2⟩, ⟨kz3, kc3, kf3⟩, ⟨kz4, kc4, kf4⟩, ⟨kz5, kc5, kf5⟩, ⟨kz6, kc6, kf6⟩, ⟨kz7, kc7, kf7⟩, _⟩ := hHeld.2
  go_wp2_with fail
  rw [rounds_succ]
  go_wp2_with fail
  refine bodyPost_ret (v := .agg #[.int .u64 G0, .int .u64 G1, .int .u64 G2]) (by simp [results, Tryd.results50, go_sem, *]) rfl ?_
  exact ⟨rfl, by first | (with_reducible exact hHeld.1) | (have hB := hHeld.1; have hz := hB.size; go_grown)⟩
end Go.Proofs.YtinppckjolkhpaaDoor
