/-
  Layer 3: Float, Step. Conditions: those written at each fact.
-/
import Derived.Test.YtinppckjolkhpaaFlo
namespace Go.Proofs.Ytinppckjolkhpaa
open Go.RowKit Go.Shelf

theorem or_low (e f : Nat) (he : e < 2048) (hf : f < 4503599627370496) : bits .or .u64 ((e * 4503599627370496 : Nat) : Int) (f : Int) = ((e * 4503599627370496 + f : Nat) : Int) := by
  rw [bits_or_u64_nat _ _ (by omega) (by omega)]
  have := Nat.two_pow_add_eq_or_of_lt (show f < 2 ^ 52 by omega) e
  rw [show 2 ^ 52 * e = e * 4503599627370496 by rw [Nat.mul_comm]] at this
  rw [← this]
theorem or_top (z : Nat) (hz : z < 9223372036854775808) : bits .or .u64 (z : Int) 9223372036854775808 = ((z + 9223372036854775808 : Nat) : Int) := by
  have e := bits_or_u64_nat z 9223372036854775808 (by omega) (by decide)
  rw [show ((9223372036854775808 : Nat) : Int) = 9223372036854775808 from rfl] at e
  rw [e]
  have := Nat.two_pow_add_eq_or_of_lt (show z < 2 ^ 63 by omega) 1
  rw [show 2 ^ 63 * 1 = 9223372036854775808 from rfl] at this
  rw [Nat.or_comm, ← this, Nat.add_comm]
/-- The float of its parts. -/
theorem float_some (v s : Int) (hv : v ≠ 0) (h : v.natAbs ≤ 2305843009213693952) (hs : Scale s) (w : World) :
    Calls Try.prog 26 #[partsV (decide (v < 0)) (FE v.natAbs s) ((FM v.natAbs : Int) - 4503599627370496)] w (Ret w (fl (floatW v s))) := by
  have hx : v.natAbs ≠ 0 := by omega
  obtain ⟨e1, e2⟩ := FE_range hx h hs
  obtain ⟨m1, m2⟩ := FM_range hx h
  have hW : floatW v s = (if v = 0 then 0 else (FE v.natAbs s).toNat * 4503599627370496 + (FM v.natAbs - 4503599627370496) + (if v < 0 then 9223372036854775808 else 0)) := by unfold floatW; rfl
  rw [if_neg hv] at hW
  obtain ⟨e, he⟩ : ∃ e : Nat, FE v.natAbs s = (e : Int) := ⟨(FE v.natAbs s).toNat, by omega⟩
  obtain ⟨f, hf⟩ : ∃ f : Nat, FM v.natAbs = 4503599627370496 + f := ⟨FM v.natAbs - 4503599627370496, by omega⟩
  rw [he, hf] at hW
  rw [he] at e1 e2
  rw [Int.toNat_natCast, Nat.add_sub_cancel_left] at hW
  rw [he, hf, show ((4503599627370496 + f : Nat) : Int) - 4503599627370496 = (f : Int) by omega]
  have k1 : IntKind.u64.wrap ((e : Int) * 4503599627370496) = ((e * 4503599627370496 : Nat) : Int) := by rw [IntKind.wrap_u64]; omega
  have k2 := or_low e f (by omega) (by omega)
  have k3 := or_top (e * 4503599627370496 + f) (by omega)
  have key := float_walk (decide (v < 0)) e f _ _ _ (by omega) (by omega) k1 k2 k3 (by omega) (by omega) w
  have er : (if decide (v < 0) = true then ((e * 4503599627370496 + f + 9223372036854775808 : Nat) : Int) else ((e * 4503599627370496 + f : Nat) : Int)).toNat = floatW v s := by
    rw [hW]
    by_cases g : v < 0
    · simp only [g, decide_true, if_true, Int.toNat_natCast]
    · simp only [g, decide_false, Bool.false_eq_true, if_false, Int.toNat_natCast, Nat.add_zero]
  rw [er] at key
  exact key
theorem float_none (s : Int) (w : World) : Calls Try.prog 26 #[partsV false 0 0] w (Ret w (fl (floatW 0 s))) := by
  have key := float_walk false 0 0 0 0 9223372036854775808 (by omega) (by omega) rfl rfl rfl (by omega) (by omega) w
  rw [float_zero]
  exact key
@[local go_sem] theorem run_store_float {P : Program} {w : World} {a : Addr} {m : Mode} (k : FloatKind) (b : Nat) : (store a (.float k b) m).run P w = stored P w a (.float k b) m := run_store P w a _ m rfl
abbrev nearV (b : Nat) (ex : Bool) : Value := .agg #[.float .f64 b, .bool ex]

set_option maxRecDepth 100000 in
set_option maxHeartbeats 2000000 in
/-- What Float's work is, where the number may be. -/
theorem near_walk (v s : Int) (sb : Bool) (e f : Int) (ex : Bool) (b : Nat) (X Y : Nat) (h1 : -2305843009213693952 ≤ v) (h2 : v ≤ 2305843009213693952)
    (PO : ∀ W, Calls Try.prog 25 #[.int .i64 v, .int .i64 s] W (Ret W (.tuple #[partsV sb e f, .bool ex])))
    (FO : ∀ W, Calls Try.prog 26 #[partsV sb e f] W (Ret W (fl b)))
    (w : World) (hX : X < w.heap.size) (hY : Y < w.heap.size) (cx : w.cell? ⟨X, 0, none⟩ = some (.int .i64 v)) (cy : w.cell? ⟨Y, 0, none⟩ = some (.int .i64 s)) :
    Calls Try.prog 24 #[.pointer (some ⟨X, 0, none⟩), .pointer (some ⟨Y, 0, none⟩)] w (Ret w (.tuple #[nearV b ex, .int .i64 0])) := by
  have PO := Lib.hid PO
  have FO := Lib.hid FO
  have cx1 : (w.alloc (.cells #[.float .f64 0, .bool false] 61)).cell? ⟨X, 0, none⟩ = some (.int .i64 v) := ((below_alloc w _).cell (p := ⟨X, 0, none⟩) hX).trans cx
  have cy1 : (w.alloc (.cells #[.float .f64 0, .bool false] 61)).cell? ⟨Y, 0, none⟩ = some (.int .i64 s) := ((below_alloc w _).cell (p := ⟨Y, 0, none⟩) hY).trans cy
  go_enter Try.func24, Try.ntmps24
  go_wp2_with fail
  refine (PO.out _).mono ?_
  rintro en w1 ⟨rfl, hb1⟩
  have c0 : w1.cell? ⟨w.heap.size, 0, none⟩ = some (.float .f64 0) := (hb1.cell (p := ⟨w.heap.size, 0, none⟩) (by simp)).trans (by simp [go_sem])
  have c1 : w1.cell? ⟨w.heap.size, 1, none⟩ = some (.bool false) := (hb1.cell (p := ⟨w.heap.size, 1, none⟩) (by simp)).trans (by simp [go_sem])
  have f0 : w1.frozen? ⟨w.heap.size, 0, none⟩ = false := (hb1.frozen (p := ⟨w.heap.size, 0, none⟩) (by simp)).trans (by simp [go_sem])
  have f1 : w1.frozen? ⟨w.heap.size, 1, none⟩ = false := (hb1.frozen (p := ⟨w.heap.size, 1, none⟩) (by simp)).trans (by simp [go_sem])
  have z1 : w.heap.size < w1.heap.size := by have := hb1.size; simp at this; omega
  have HB1 := Lib.hid (under (below_alloc w _) hb1)
  clear hb1 cx1 cy1 cx cy
  go_wp2_with fail
  refine (FO.out _).mono ?_
  rintro en w2 ⟨rfl, hb2⟩
  replace c0 : w2.cell? ⟨w.heap.size, 0, none⟩ = some (.float .f64 0) := (hb2.cell (p := ⟨w.heap.size, 0, none⟩) (by simp; omega)).trans (((below_alloc w1 _).cell (p := ⟨w.heap.size, 0, none⟩) z1).trans c0)
  replace c1 : w2.cell? ⟨w.heap.size, 1, none⟩ = some (.bool false) := (hb2.cell (p := ⟨w.heap.size, 1, none⟩) (by simp; omega)).trans (((below_alloc w1 _).cell (p := ⟨w.heap.size, 1, none⟩) z1).trans c1)
  replace f0 : w2.frozen? ⟨w.heap.size, 0, none⟩ = false := (hb2.frozen (p := ⟨w.heap.size, 0, none⟩) (by simp; omega)).trans (((below_alloc w1 _).frozen (p := ⟨w.heap.size, 0, none⟩) z1).trans f0)
  replace f1 : w2.frozen? ⟨w.heap.size, 1, none⟩ = false := (hb2.frozen (p := ⟨w.heap.size, 1, none⟩) (by simp; omega)).trans (((below_alloc w1 _).frozen (p := ⟨w.heap.size, 1, none⟩) z1).trans f1)
  have HB2 := Lib.hid (under (under HB1.out (below_alloc w1 _)) hb2)
  clear hb2 HB1
  go_wp2_with fail
  obtain ⟨d0, d1⟩ := set2 (W := w2) (B := w.heap.size) (u0 := .float .f64 b) (u1 := .bool ex) c0 c1
  refine bodyPost_ret (v := .tuple #[nearV b ex, .int .i64 0]) (by simp [results, Try.results24, go_sem, d0, d1]) rfl ?_
  exact ⟨rfl, (HB2.out.setCell (p := ⟨w.heap.size, 0, none⟩) (by simp) _).setCell (p := ⟨w.heap.size, 1, none⟩) (by simp) _⟩
set_option maxRecDepth 100000 in
set_option maxHeartbeats 2000000 in
theorem near_bad (v : Int) (X : Nat) (Y : Option Addr) (h : v < -2305843009213693952 ∨ 2305843009213693952 < v) (w : World) (hX : X < w.heap.size) (cx : w.cell? ⟨X, 0, none⟩ = some (.int .i64 v)) :
    Calls Try.prog 24 #[.pointer (some ⟨X, 0, none⟩), .pointer Y] w (Ret w (.tuple #[nearV 0 false, .int .i64 2])) := by
  have cx1 : (w.alloc (.cells #[.float .f64 0, .bool false] 61)).cell? ⟨X, 0, none⟩ = some (.int .i64 v) := ((below_alloc w _).cell (p := ⟨X, 0, none⟩) hX).trans cx
  clear cx
  by_cases g : v < -2305843009213693952
  · clear h
    go_enter Try.func24, Try.ntmps24
    go_wp2_with fail
    exact bodyPost_ret (v := .tuple #[nearV 0 false, .int .i64 2]) (by simp [results, Try.results24, go_sem]) rfl ⟨rfl, below_alloc w _⟩
  · have g2 : 2305843009213693952 < v := by omega
    clear h
    go_enter Try.func24, Try.ntmps24
    go_wp2_with fail
    exact bodyPost_ret (v := .tuple #[nearV 0 false, .int .i64 2]) (by simp [results, Try.results24, go_sem]) rfl ⟨rfl, below_alloc w _⟩
set_option maxRecDepth 100000 in
set_option maxHeartbeats 2000000 in
theorem scaleNear_no (s : Int) (hs : ¬ Scale s) (g : FuncId) (fs : Array Value) (w : World) : Calls Try.prog 23 #[.int .i64 s, .func (.func g) #[] fs] w (Ret w (.tuple #[nearV 0 false, .int .i64 2])) := by
  unfold Scale at hs
  by_cases h : s < -40
  · clear hs
    go_enter Try.func23, Try.ntmps23
    go_wp2_with fail
    exact bodyPost_ret (v := .tuple #[nearV 0 false, .int .i64 2]) (by simp [results, Try.results23, go_sem]) rfl ⟨rfl, by go_grown⟩
  · have h2 : 40 < s := by omega
    clear hs
    go_enter Try.func23, Try.ntmps23
    go_wp2_with fail
    exact bodyPost_ret (v := .tuple #[nearV 0 false, .int .i64 2]) (by simp [results, Try.results23, go_sem]) rfl ⟨rfl, by go_grown⟩
set_option maxRecDepth 100000 in
set_option maxHeartbeats 2000000 in
theorem scaleNear_ok (s : Int) (hs : Scale s) (X Y : Option Addr) (b : Nat) (ex : Bool) (e : Int) (he : e = 0 ∨ e = 2 ∧ b = 0 ∧ ex = false) (w : World)
    (WK : Calls Try.prog 24 #[.pointer X, .pointer Y] ((w.alloc (.cells #[.float .f64 0, .bool false] 61)).alloc (.cells #[.float .f64 0, .bool false] 61)) (Ret ((w.alloc (.cells #[.float .f64 0, .bool false] 61)).alloc (.cells #[.float .f64 0, .bool false] 61)) (.tuple #[nearV b ex, .int .i64 e]))) :
    Calls Try.prog 23 #[.int .i64 s, .func (.func 24) #[] #[.pointer X, .pointer Y]] w (Ret w (.tuple #[nearV b ex, .int .i64 e])) := by
  obtain ⟨h1, h2⟩ := hs
  have k1 : ¬ s < -40 := by omega
  have k2 : ¬ 40 < s := by omega
  have WK := Lib.hid WK
  rcases he with rfl | ⟨rfl, rfl, rfl⟩
  all_goals
    go_enter Try.func23, Try.ntmps23
    go_wp2_with fail
    refine (WK.out).mono ?_
    rintro en w1 ⟨rfl, hb1⟩
    have c0 : w1.cell? ⟨w.heap.size, 0, none⟩ = some (.float .f64 0) := (hb1.cell (p := ⟨w.heap.size, 0, none⟩) (by simp; omega)).trans (by simp [go_sem])
    have c1 : w1.cell? ⟨w.heap.size, 1, none⟩ = some (.bool false) := (hb1.cell (p := ⟨w.heap.size, 1, none⟩) (by simp; omega)).trans (by simp [go_sem])
    have f0 : w1.frozen? ⟨w.heap.size, 0, none⟩ = false := (hb1.frozen (p := ⟨w.heap.size, 0, none⟩) (by simp; omega)).trans (by simp [go_sem])
    have f1 : w1.frozen? ⟨w.heap.size, 1, none⟩ = false := (hb1.frozen (p := ⟨w.heap.size, 1, none⟩) (by simp; omega)).trans (by simp [go_sem])
    have n0 : w1.cell? ⟨w.heap.size + 1, 0, none⟩ = some (.float .f64 0) := (hb1.cell (p := ⟨w.heap.size + 1, 0, none⟩) (by simp)).trans (by simp [go_sem])
    have n1 : w1.cell? ⟨w.heap.size + 1, 1, none⟩ = some (.bool false) := (hb1.cell (p := ⟨w.heap.size + 1, 1, none⟩) (by simp)).trans (by simp [go_sem])
    have z1 : w.heap.size < w1.heap.size := by have := hb1.size; simp at this; omega
    have z2 : w.heap.size + 1 < w1.heap.size := by have := hb1.size; simp at this; omega
    have HB := Lib.hid (under (under (below_alloc w _) (below_alloc _ _)) hb1)
    clear hb1
    go_wp2_with fail
  · obtain ⟨d0, d1⟩ := set2 (W := w1) (B := w.heap.size) (u0 := .float .f64 b) (u1 := .bool ex) c0 c1
    have z3 : w.heap.size < ((w1.setCell ⟨w.heap.size, 0, none⟩ (.float .f64 b)).setCell ⟨w.heap.size, 1, none⟩ (.bool ex)).heap.size := by simpa [World.setCell] using z1
    have d2 := ((below_alloc ((w1.setCell ⟨w.heap.size, 0, none⟩ (.float .f64 b)).setCell ⟨w.heap.size, 1, none⟩ (.bool ex)) (.cells #[.float .f64 b, .bool ex] 61)).cell (p := ⟨w.heap.size, 0, none⟩) z3).trans d0
    have d3 := ((below_alloc ((w1.setCell ⟨w.heap.size, 0, none⟩ (.float .f64 b)).setCell ⟨w.heap.size, 1, none⟩ (.bool ex)) (.cells #[.float .f64 b, .bool ex] 61)).cell (p := ⟨w.heap.size, 1, none⟩) z3).trans d1
    refine bodyPost_ret (v := .tuple #[nearV b ex, .int .i64 0]) (by simp [results, Try.results23, go_sem, d2, d3]) rfl ?_
    exact ⟨rfl, under ((HB.out.setCell (p := ⟨w.heap.size, 0, none⟩) (by simp) _).setCell (p := ⟨w.heap.size, 1, none⟩) (by simp) _) (below_alloc _ _)⟩
  · obtain ⟨d0, d1⟩ := set2 (W := w1) (B := w.heap.size) (u0 := .float .f64 0) (u1 := .bool false) c0 c1
    have z3 : w.heap.size < ((w1.setCell ⟨w.heap.size, 0, none⟩ (.float .f64 0)).setCell ⟨w.heap.size, 1, none⟩ (.bool false)).heap.size := by simpa [World.setCell] using z1
    have d2 := ((below_alloc ((w1.setCell ⟨w.heap.size, 0, none⟩ (.float .f64 0)).setCell ⟨w.heap.size, 1, none⟩ (.bool false)) (.cells #[.float .f64 0, .bool false] 61)).cell (p := ⟨w.heap.size, 0, none⟩) z3).trans d0
    have d3 := ((below_alloc ((w1.setCell ⟨w.heap.size, 0, none⟩ (.float .f64 0)).setCell ⟨w.heap.size, 1, none⟩ (.bool false)) (.cells #[.float .f64 0, .bool false] 61)).cell (p := ⟨w.heap.size, 1, none⟩) z3).trans d1
    refine bodyPost_ret (v := .tuple #[nearV 0 false, .int .i64 2]) (by simp [results, Try.results23, go_sem, d2, d3]) rfl ?_
    exact ⟨rfl, under ((HB.out.setCell (p := ⟨w.heap.size, 0, none⟩) (by simp) _).setCell (p := ⟨w.heap.size, 1, none⟩) (by simp) _) (below_alloc _ _)⟩

/-- What Float answers. -/
def okF (v s : Int) : Prop := Scale s ∧ v.natAbs ≤ 2305843009213693952
instance (v s : Int) : Decidable (okF v s) := by unfold okF; infer_instance
def floatF (v s : Int) : Nat := if okF v s then floatW v s else 0
def exactF (v s : Int) : Bool := if okF v s then decide (keep v.natAbs = v.natAbs) else false
def errF (v s : Int) : Int := if okF v s then 0 else 2
set_option maxRecDepth 100000 in
set_option maxHeartbeats 2000000 in
theorem floatCall (v s : Int) (b : Nat) (ex : Bool) (e : Int) (w : World)
    (G : Calls Try.prog 23 #[.int .i64 s, .func (.func 24) #[] #[.pointer (some ⟨w.heap.size, 0, none⟩), .pointer (some ⟨w.heap.size + 1, 0, none⟩)]] ((w.alloc (.cells #[.int .i64 v] 2)).alloc (.cells #[.int .i64 s] 3)) (Ret ((w.alloc (.cells #[.int .i64 v] 2)).alloc (.cells #[.int .i64 s] 3)) (.tuple #[nearV b ex, .int .i64 e]))) :
    Calls Try.prog 10 #[.int .i64 v, .int .i64 s] w (Ret w (.tuple #[fl b, .bool ex, .int .i64 e])) := by
  have G := Lib.hid G
  go_enter Try.func10, Try.ntmps10
  go_wp2_with fail
  refine (G.out).mono ?_
  rintro en w1 ⟨rfl, hb1⟩
  have HB := Lib.hid (under (under (below_alloc w _) (below_alloc _ _)) hb1)
  clear hb1
  go_wp2_with fail
  have e0 : (w1.alloc (.cells #[.float .f64 b, .bool ex] 61)).cell? ⟨w1.heap.size, 0, none⟩ = some (.float .f64 b) := by simp [go_sem]
  have e1 : (w1.alloc (.cells #[.float .f64 b, .bool ex] 61)).cell? ⟨w1.heap.size, 1, none⟩ = some (.bool ex) := by simp [go_sem]
  go_quiet (fail)
  go_wp2_with fail
  go_ret3
  exact ⟨rfl, drewN_below (under HB.out (below_alloc w1 _)) _⟩
theorem float_any (v s : Int) (w : World) : Calls Try.prog 10 #[.int .i64 v, .int .i64 s] w (Ret w (.tuple #[fl (floatF v s), .bool (exactF v s), .int .i64 (errF v s)])) := by
  refine floatCall v s _ _ _ w ?_
  generalize hw0 : (w.alloc (.cells #[.int .i64 v] 2)).alloc (.cells #[.int .i64 s] 3) = w0
  have hX : w.heap.size < w0.heap.size := by rw [← hw0]; simp; omega
  have hY : w.heap.size + 1 < w0.heap.size := by rw [← hw0]; simp
  have cx : w0.cell? ⟨w.heap.size, 0, none⟩ = some (.int .i64 v) := by rw [← hw0]; simp [go_sem]
  have cy : w0.cell? ⟨w.heap.size + 1, 0, none⟩ = some (.int .i64 s) := by rw [← hw0]; simp [go_sem]
  clear hw0
  by_cases hs : Scale s
  · generalize hw1 : (w0.alloc (.cells #[.float .f64 0, .bool false] 61)).alloc (.cells #[.float .f64 0, .bool false] 61) = w1
    have hb : Below w0.heap.size w0 w1 := by rw [← hw1]; exact under (below_alloc _ _) (below_alloc _ _)
    have hX1 := Nat.lt_of_lt_of_le hX hb.size
    have hY1 := Nat.lt_of_lt_of_le hY hb.size
    have cx1 := (hb.cell (p := ⟨w.heap.size, 0, none⟩) hX).trans cx
    have cy1 := (hb.cell (p := ⟨w.heap.size + 1, 0, none⟩) hY).trans cy
    by_cases hv : v.natAbs ≤ 2305843009213693952
    · have ok : okF v s := ⟨hs, hv⟩
      have t1 : floatF v s = floatW v s := by unfold floatF; rw [if_pos ok]
      have t2 : exactF v s = decide (keep v.natAbs = v.natAbs) := by unfold exactF; rw [if_pos ok]
      have t3 : errF v s = 0 := by unfold errF; rw [if_pos ok]
      rw [t1, t2, t3]
      refine scaleNear_ok s hs _ _ _ _ 0 (Or.inl rfl) w0 ?_
      rw [hw1]
      by_cases g : v = 0
      · subst g
        rw [show decide (keep (0 : Int).natAbs = (0 : Int).natAbs) = true by rw [keep_small (by decide)]; rfl]
        exact near_walk 0 s false 0 0 true _ _ _ (by omega) (by omega) (fun W => parts_zero s W) (fun W => float_none s W) w1 hX1 hY1 cx1 cy1
      · exact near_walk v s _ _ _ _ _ _ _ (by omega) (by omega) (fun W => parts_some v s g hv hs W) (fun W => float_some v s g hv hs W) w1 hX1 hY1 cx1 cy1
    · have ok : ¬ okF v s := fun h => hv h.2
      have t1 : floatF v s = 0 := by unfold floatF; rw [if_neg ok]
      have t2 : exactF v s = false := by unfold exactF; rw [if_neg ok]
      have t3 : errF v s = 2 := by unfold errF; rw [if_neg ok]
      rw [t1, t2, t3]
      refine scaleNear_ok s hs _ _ _ _ 2 (Or.inr ⟨rfl, rfl, rfl⟩) w0 ?_
      rw [hw1]
      exact near_bad v _ _ (by omega) w1 hX1 cx1
  · have ok : ¬ okF v s := fun h => hs h.1
    have t1 : floatF v s = 0 := by unfold floatF; rw [if_neg ok]
    have t2 : exactF v s = false := by unfold exactF; rw [if_neg ok]
    have t3 : errF v s = 2 := by unfold errF; rw [if_neg ok]
    rw [t1, t2, t3]
    exact scaleNear_no s hs _ _ w0
end Go.Proofs.Ytinppckjolkhpaa
