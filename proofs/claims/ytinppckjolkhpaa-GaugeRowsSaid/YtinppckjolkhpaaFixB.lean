/-
  Layer 3: a reading by its bits; Fixed, Kind. Conditions: those written at each fact.
-/
import Derived.Test.YtinppckjolkhpaaFix
import Derived.Test.YtinppckjolkhpaaStruct
namespace Go.Proofs.Ytinppckjolkhpaa
open Go.RowKit Go.Shelf

set_option maxRecDepth 100000 in
set_option maxHeartbeats 2000000 in
theorem reading_any (b : Nat) (hb : b < 18446744073709551616) (w : World) :
    Calls Try.prog 19 #[fl b] w (Ret w (readV (below b) (expo b) (frac b) (kindF b))) := by
  have B0 := below_bits b
  have B1 := expo_bits b hb
  have B2 := frac_bits b hb
  have q0 := Lib.hid (bits_run b)
  have K := Lib.hid (fun k W => kindOf_any (below b) (expo b) (frac b) k W)
  rw [kindP_F] at K
  have he := expo_lt b
  clear hb
  generalize below b = sb at *
  generalize expo b = e at *
  generalize frac b = f at *
  generalize kindF b = k at *
  go_enter Try.func19, Try.ntmps19
  go_wp2_with (simp only [q0.out])
  refine (K.out _ _).mono ?_
  rintro en w1 ⟨rfl, hb1⟩
  have HB1 := Lib.hid hb1
  have hz := hb1.size
  have c0 : w1.cell? ⟨w.heap.size + 1, 0, none⟩ = some (.bool sb) := (hb1.cell (p := ⟨w.heap.size + 1, 0, none⟩) (by simp)).trans (by simp [go_sem])
  have c1 : w1.cell? ⟨w.heap.size + 1, 1, none⟩ = some (.int .i64 e) := (hb1.cell (p := ⟨w.heap.size + 1, 1, none⟩) (by simp)).trans (by simp [go_sem])
  have c2 : w1.cell? ⟨w.heap.size + 1, 2, none⟩ = some (.int .u64 f) := (hb1.cell (p := ⟨w.heap.size + 1, 2, none⟩) (by simp)).trans (by simp [go_sem])
  have c3 : w1.cell? ⟨w.heap.size + 1, 3, none⟩ = some (.int .i64 0) := (hb1.cell (p := ⟨w.heap.size + 1, 3, none⟩) (by simp)).trans (by simp [go_sem])
  have f3 : w1.frozen? ⟨w.heap.size + 1, 3, none⟩ = false := (hb1.frozen (p := ⟨w.heap.size + 1, 3, none⟩) (by simp)).trans (by simp [go_sem])
  have r0 : w1.cell? ⟨w.heap.size, 0, none⟩ = some (.bool false) := (hb1.cell (p := ⟨w.heap.size, 0, none⟩) (by simp; omega)).trans (by simp [go_sem])
  have r1 : w1.cell? ⟨w.heap.size, 1, none⟩ = some (.int .i64 0) := (hb1.cell (p := ⟨w.heap.size, 1, none⟩) (by simp; omega)).trans (by simp [go_sem])
  have r2 : w1.cell? ⟨w.heap.size, 2, none⟩ = some (.int .u64 0) := (hb1.cell (p := ⟨w.heap.size, 2, none⟩) (by simp; omega)).trans (by simp [go_sem])
  have r3 : w1.cell? ⟨w.heap.size, 3, none⟩ = some (.int .i64 0) := (hb1.cell (p := ⟨w.heap.size, 3, none⟩) (by simp; omega)).trans (by simp [go_sem])
  have g0 : w1.frozen? ⟨w.heap.size, 0, none⟩ = false := (hb1.frozen (p := ⟨w.heap.size, 0, none⟩) (by simp; omega)).trans (by simp [go_sem])
  have g1 : w1.frozen? ⟨w.heap.size, 1, none⟩ = false := (hb1.frozen (p := ⟨w.heap.size, 1, none⟩) (by simp; omega)).trans (by simp [go_sem])
  have g2 : w1.frozen? ⟨w.heap.size, 2, none⟩ = false := (hb1.frozen (p := ⟨w.heap.size, 2, none⟩) (by simp; omega)).trans (by simp [go_sem])
  have g3 : w1.frozen? ⟨w.heap.size, 3, none⟩ = false := (hb1.frozen (p := ⟨w.heap.size, 3, none⟩) (by simp; omega)).trans (by simp [go_sem])
  obtain ⟨d0, d1, d2, d3⟩ := set4 (W := w1.setCell ⟨w.heap.size + 1, 3, none⟩ (.int .i64 k)) (B := w.heap.size) (u0 := .bool sb) (u1 := .int .i64 e) (u2 := .int .u64 f) (u3 := .int .i64 k) (off_cell (by simp) r0) (off_cell (by simp) r1) (off_cell (by simp) r2) (off_cell (by simp) r3)
  clear hb1 hz
  go_wp2_with fail
  refine bodyPost_ret (v := readV sb e f k) (by simp [results, Try.results19, go_sem, d0, d1, d2, d3]) rfl ?_
  exact ⟨rfl, (((((under (under (below_alloc w _) (below_alloc _ _)) HB1.out).setCell (p := ⟨w.heap.size + 1, 3, none⟩) (by simp) _).setCell (p := ⟨w.heap.size, 0, none⟩) (by simp) _).setCell (p := ⟨w.heap.size, 1, none⟩) (by simp) _).setCell (p := ⟨w.heap.size, 2, none⟩) (by simp) _).setCell (p := ⟨w.heap.size, 3, none⟩) (by simp) _⟩
end Go.Proofs.Ytinppckjolkhpaa
