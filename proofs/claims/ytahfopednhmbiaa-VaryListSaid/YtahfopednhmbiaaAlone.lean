/-
  Layer 2: the law VaryAlone, its walk. Conditions: those written at each fact.
-/
import Derived.Test.YtahfopednhmbiaaAloneM
import Derived.Test.YtahfopednhmbiaaBack2
namespace Go.Proofs.Ytahfopednhmbiaa
open Go.RowKit Go.Shelf

theorem Keeps.low {w0 W : World} {L : List (Nat × Nat × Value)} (h : Keeps w0 L W) : Below w0.heap.size w0 W := h.1
theorem lie_at {w : World} {g a p : Nat} {l : List Int} (h : Lie w g 0 l) : Lie w g a ((l.drop a).take (p - a)) := by
  intro i z hz
  rw [List.getElem?_take] at hz
  split at hz
  · rw [List.getElem?_drop] at hz
    have := h (a + i) z hz
    rwa [Nat.zero_add] at this
  · cases hz
theorem reads_at {w : World} {g a c : Nat} {l : List Int} (h : Lie w g a l) (hg : g < w.heap.size) (hc : l.length ≤ c) : Reads .u8 w (.slice (some ⟨g, a, none⟩) l.length c) l :=
  ⟨_, c, rfl, hc, fun i z hz => ⟨g, a, rfl, hg, h i z hz⟩⟩

/-- A number whose end is cut off is told as such. -/
theorem cut_get (n : Nat) (hn : n < 18446744073709551616) (k : Nat) (hk : k < (digs n).length) (g7 c7 : Nat) (W : World) (hg : g7 < W.heap.size) (hlie : Lie W g7 0 (digs n)) (hc : (digs n).length ≤ c7) :
    Calls Try.prog 21 #[.slice (some ⟨g7, 0, none⟩) k c7, .int .i64 0] W (Ret W (.tuple #[.int .u64 (gotN ((digs n).take k) 0), .int .i64 (gotP ((digs n).take k) 0), .int .i64 6])) := by
  have hr := reads_take (reads_lie hlie hg hc) k (by omega)
  have d1 := digs_ten hn
  have := getU_any ((digs n).take k) (by simp; omega) (fun z hz => digs_b hn z (List.mem_of_mem_take hz)) 0 _ W hr
  rwa [got_cut hn hk] at this

set_option maxRecDepth 100000 in
set_option maxHeartbeats 4000000 in
theorem alone_err (b : List Int) (hbl : b.length ≤ 9223372036854775807) (hbb : ∀ z ∈ b, 0 ≤ z ∧ z < 256) (a : Int) (n : Nat) (hn : n < 18446744073709551616) (v : Value) (w : World) (h : Reads .u8 w v b) (he : gotE (b.take 400) a ≠ 0) :
    Calls Try.prog 7 #[v, .int .i64 a, .int .u64 n] w (Ret w (.bool true)) := by
  have d1 := digs_ten hn
  have NE := Lib.hid (digs_ne n)
  have HH := Lib.hid (fun W (hb : Below w.heap.size w W) => head_any b hbl v W (h.below hb))
  have hl4 : (b.take 400).length ≤ 400 := by simp; omega
  have hlb : ∀ z ∈ b.take 400, 0 ≤ z ∧ z < 256 := fun z hz => hbb z (List.mem_of_mem_take hz)
  generalize b.take 400 = l at *
  have PN := Lib.hid (fun W => putU_any [] (by simp) n hn _ W (Reads.nil (k := .u8)))
  rw [List.nil_append] at PN
  have GC := Lib.hid (fun (k : Nat) (hk : k < (digs n).length) (g7 c7 : Nat) (W : World) (hg : g7 < W.heap.size) (hlie : Lie W g7 0 (digs n)) (hc : (digs n).length ≤ c7) =>
    cut_get n hn k hk g7 c7 W hg hlie hc)
  have GU := Lib.hid (fun v W (hr : Reads .u8 W v l) => getU_any l (by omega) hlb a v W hr)
  have GS := Lib.hid (fun v W (hr : Reads .u8 W v l) => get_any l (by omega) hlb a v W hr)
  generalize gotN l a = uu at *
  generalize gotP l a = pp at *
  generalize gotE l a = ev at *
  generalize unz uu = mm at *
  have t1 : (ev == 0) = false := beq_eq_false_iff_ne.2 he
  have t2 : (ev != 0) = true := by rw [bne_iff_ne]; exact he
  have t3 : (ev != ev) = false := by simp
  clear h hbb hbl he hlb
  go_enter Try.func7, Try.ntmps7
  go_wp2_with fail
  refine (wakes_any _).mono ?_
  rintro e w1 ⟨rfl, hb1⟩
  have B1 := Lib.hid hb1
  clear hb1
  go_wp2_with fail
  refine (HH.out _ B1.out).mono ?_
  intro e w2 hhead
  obtain ⟨g, cap, rfl, hb2, hg, hcap, hlie, _⟩ := head_parts hhead
  have B2 := Lib.hid (under B1.out hb2)
  have LI := Lib.hid hlie.left
  clear hb2 hhead hlie B1
  go_wp2_with fail
  refine (GU.out _ _ (reads_lie LI.out hg (by omega))).mono ?_
  rintro e w3 ⟨rfl, hb3⟩
  have B3 := Lib.hid (under B2.out hb3)
  have LI3 := Lib.hid (LI.out.below hg hb3)
  have hg3 : g < w3.heap.size := Nat.lt_of_lt_of_le hg hb3.size
  clear hb3 B2 LI hg
  go_wp2_with fail
  go_quiet (fail)
  go_wp2_with fail
  have B3' := Lib.hid (below_drewN B3.out nq)
  have LI3' : Hid (Lie (w3.drewN nq) g 0 l) := LI3
  have hg3' : g < (w3.drewN nq).heap.size := hg3
  generalize w3.drewN nq = w4 at *
  clear B3 LI3 hg3
  refine (GS.out _ _ (reads_lie LI3'.out hg3' (by omega))).mono ?_
  rintro e w5 ⟨rfl, hb5⟩
  have B5 := Lib.hid (under B3'.out hb5)
  have LI5 := Lib.hid (LI3'.out.below hg3' hb5)
  have hg5 : g < w5.heap.size := Nat.lt_of_lt_of_le hg3' hb5.size
  clear hb5 B3' LI3' hg3'
  go_wp2_with fail
  go_quiet (fail)
  go_wp2_with fail
  have B6 := Lib.hid (below_drewN B5.out nq)
  have LI6 : Hid (Lie (w5.drewN nq) g 0 l) := LI5
  have hg6 : g < (w5.drewN nq).heap.size := hg5
  generalize w5.drewN nq = w6 at *
  clear B5 LI5 hg5

  refine (PN.out _).mono ?_
  rintro e w7 ⟨v7, rfl, hb7, ho7⟩
  obtain ⟨g7, c7, rfl, hc7, hg7, li7, _⟩ := made_parts ho7 NE.out
  have B7 := Lib.hid (under B6.out hb7)
  have LI7 := Lib.hid (LI6.out.below hg6 hb7)
  have hgh7 : g < w7.heap.size := Nat.lt_of_lt_of_le hg6 hb7.size
  have P7 := Lib.hid li7
  clear hb7 ho7 B6 LI6 hg6 li7
  go_wp2_with fail
  go_loopw [86] (fun i wr => ∃ k : Nat, i = .int .i64 k ∧ k ≤ (digs n).length ∧ Below w7.heap.size w7 wr) (fun i _ => (digs n).length - (intOf i).toNat)
  case atStart => exact ⟨0, rfl, by omega, Below.refl _ _⟩
  case round =>
    obtain ⟨k, rfl, hk, hBr⟩ := hrel
    by_cases gk : k < (digs n).length
    · have GK := Lib.hid (GC.out k gk g7 c7 wr (Nat.lt_of_lt_of_le hg7 hBr.size) (P7.out.below hg7 hBr) (by omega))
      go_wp2_with fail
      refine GK.out.mono ?_
      rintro e w8 ⟨rfl, hb8⟩
      have hB8 := under hBr hb8
      clear hb8 hBr GK
      go_wp2_with fail
      go_roundw
      case rel => exact ⟨k + 1, by simp, by omega, hB8⟩
      case measure => simp [intOf]; omega
    · have B8 := Lib.hid (under B7.out hBr)
      have LI8 := Lib.hid (LI7.out.below hgh7 hBr)
      have P8 := Lib.hid (P7.out.below hg7 hBr)
      have i8 : g < wr.heap.size ∧ g7 < wr.heap.size := ⟨Nat.lt_of_lt_of_le hgh7 hBr.size, Nat.lt_of_lt_of_le hg7 hBr.size⟩
      clear B7 LI7 P7 hgh7 hg7 hBr
      go_wp2_with fail
      go_ret
      exact ⟨rfl, B8.out⟩

theorem made_parts2 {w : World} {t : TypeId} {v : Value} {l : List Int} {B k : Nat} (h : w.ownsRow B t 1 v l.length (l.map (Value.int .u8))) (hk : l.length = k) (hne : 1 ≤ k) : ∃ g c, v = .slice (some ⟨g, 0, none⟩) k c ∧ k ≤ c ∧ g < w.heap.size ∧ Lie w g 0 l := by
  obtain ⟨g, c, h1, h2, h3, h4, _⟩ := made_parts h (by intro e; rw [e] at hk; simp at hk; omega)
  exact ⟨g, c, by rw [h1, hk], by omega, h3, h4⟩
/-- Equal bytes. -/
theorem same_eq {D : List Int} {k : Nat} (hD : D.length = k) (hk : k ≤ 10) (g4 c4 g a c : Nat) (W : World) (h1 : Lie W g4 0 D) (i1 : g4 < W.heap.size) (hc4 : k ≤ c4) (h2 : Lie W g a D) (i2 : g < W.heap.size) (hc : k ≤ c) :
    Calls Try.prog 16 #[.slice (some ⟨g4, 0, none⟩) k c4, .slice (some ⟨g, a, none⟩) k c] W (Ret W (.bool true)) := by
  subst hD
  have := equalB D D (by omega) _ _ W (reads_lie h1 i1 hc4) (reads_at h2 i2 hc)
  rwa [eqB_true rfl] at this

set_option maxRecDepth 100000 in
set_option maxHeartbeats 8000000 in
theorem alone_ok (b : List Int) (hbl : b.length ≤ 9223372036854775807) (hbb : ∀ z ∈ b, 0 ≤ z ∧ z < 256) (a : Nat) (n : Nat) (hn : n < 18446744073709551616) (v : Value) (w : World) (h : Reads .u8 w v b) (ha : a ≤ (b.take 400).length) (he : gotE (b.take 400) a = 0) :
    Calls Try.prog 7 #[v, .int .i64 a, .int .u64 n] w (Ret w (.bool true)) := by
  have d1 := digs_ten hn
  have NE := Lib.hid (digs_ne n)
  have HH := Lib.hid (fun W (hb : Below w.heap.size w W) => head_any b hbl v W (h.below hb))
  have hl4 : (b.take 400).length ≤ 400 := by simp; omega
  have hlb : ∀ z ∈ b.take 400, 0 ≤ z ∧ z < 256 := fun z hz => hbb z (List.mem_of_mem_take hz)
  generalize b.take 400 = l at *
  have PN := Lib.hid (fun W => putU_any [] (by simp) n hn _ W (Reads.nil (k := .u8)))
  rw [List.nil_append] at PN
  have GC := Lib.hid (fun (k : Nat) (hk : k < (digs n).length) (g7 c7 : Nat) (W : World) (hg : g7 < W.heap.size) (hlie : Lie W g7 0 (digs n)) (hc : (digs n).length ≤ c7) =>
    cut_get n hn k hk g7 c7 W hg hlie hc)
  have GU := Lib.hid (fun v W (hr : Reads .u8 W v l) => getU_any l (by omega) hlb a v W hr)
  have GS := Lib.hid (fun v W (hr : Reads .u8 W v l) => get_any l (by omega) hlb a v W hr)
  obtain ⟨u, p, e1, e2, hu, hap, hpl, e3⟩ := got_alone hlb ha he
  have ez : Lib.zigzag (unz u) = u := zig_unz
  have hur := unz_range (n := (u : Int)) (by omega) (by omega)
  obtain ⟨k, rfl⟩ : ∃ k, p = a + k := ⟨p - a, by omega⟩
  rw [show a + k - a = k from by omega] at e3
  have hD : (digs u).length = k := by rw [e3]; simp; omega
  have hk10 : 1 ≤ k ∧ k ≤ 10 := by have := digs_ten hu; omega
  rw [e1, e2, he, Int.natCast_add] at GU
  rw [e1, e2, he, Int.natCast_add] at GS
  have PUu := Lib.hid (fun W => putU_any [] (by simp) u hu _ W (Reads.nil (k := .u8)))
  have PSu := Lib.hid (fun W => put_any [] (by simp) (unz u) hur.1 hur.2 _ W (Reads.nil (k := .u8)))
  rw [ez] at PSu
  rw [List.nil_append] at PUu PSu
  have LA : Hid (∀ (W : World) (g : Nat), Lie W g 0 l → Lie W g a (digs u)) := Lib.hid (fun W g hlie => by rw [e3]; have := lie_at (a := a) (p := a + k) hlie; rwa [show a + k - a = k from by omega] at this)
  have HD := Lib.hid hD
  have PR : Hid (u ≠ n → prefB (digs n) (digs u) = false ∧ prefB (digs u) (digs n) = false) := Lib.hid (fun hne => ⟨pref_no hu hn hne, pref_no hn hu (Ne.symm hne)⟩)
  have DB := Lib.hid (digs_b hn)
  have DBu := Lib.hid (digs_b hu)
  generalize unz (u : Int) = mm at *
  have HP1 := Lib.hid (fun b1 c1 b2 c2 W hc h1 h2 => hasPrefix (digs n) (digs u) (digs_b hn) (digs_b hu) b1 0 c1 b2 a c2 W hc h1 h2)
  have HP2 := Lib.hid (fun b1 c1 b2 c2 W hc h1 h2 => hasPrefix (digs u) (digs n) (digs_b hu) (digs_b hn) b1 a c1 b2 0 c2 W hc h1 h2)
  rw [hD] at HP1 HP2
  have HSE := Lib.hid (@same_eq (digs u) k hD hk10.2)
  have f1 : decide ((a : Int) + (k : Int) ≤ (a : Int)) = false := by simp; omega
  have f2 : decide ((l.length : Int) < (a : Int) + (k : Int)) = false := by simp; omega
  clear h hbb hbl he hlb e1 e2 e3 ez hD
  go_enter Try.func7, Try.ntmps7
  go_wp2_with fail
  refine (wakes_any _).mono ?_
  rintro e w1 ⟨rfl, hb1⟩
  have B1 := Lib.hid hb1
  clear hb1
  go_wp2_with fail
  refine (HH.out _ B1.out).mono ?_
  intro e w2 hhead
  obtain ⟨g, cap, rfl, hb2, hg, hcap, hlie, _⟩ := head_parts hhead
  have B2 := Lib.hid (under B1.out hb2)
  have LI := Lib.hid hlie.left
  clear hb2 hhead hlie B1
  go_wp2_with fail
  refine (GU.out _ _ (reads_lie LI.out hg (by omega))).mono ?_
  rintro e w3 ⟨rfl, hb3⟩
  have B3 := Lib.hid (under B2.out hb3)
  have LI3 := Lib.hid (LI.out.below hg hb3)
  have hg3 : g < w3.heap.size := Nat.lt_of_lt_of_le hg hb3.size
  clear hb3 B2 LI hg
  go_wp2_with fail
  have s1 : (0 : Int) ≤ (a : Int) + (k : Int) := by omega
  have s2 : (a : Int) + (k : Int) ≤ (cap : Int) := by omega
  have s4 : ¬ cap = a := by omega
  have s3 : ((a : Int) + (k : Int)).toNat = a + k := by omega
  refine region_keeps (w0 := w3) (L := []) (by kernel_rfl) (⟨Below.refl _ _, trivial⟩) (fun hHeld0 => ?_)
  refine wpAnyH_take (i := 0) (oi := ⟨some 30, _, _, _, _, _⟩) (v := ?_) rfl (by kernel_rfl) (by kernel_rfl) (by kernel_rfl) (fun _ _ _ h => h) (Or.inl ⟨by rfl, ?_⟩) (by assumption) ?_
  rotate_left
  · intro wq hSw; go_simp; (try with_reducible rfl)
  try simp only [Act.put, List.setIfInBounds_toArray, List.set_cons_zero, List.set_cons_succ]
  refine wpAnyH_take (i := 1) (oi := ⟨some 31, _, _, _, _, _⟩) (v := ?_) rfl (by kernel_rfl) (by kernel_rfl) (by kernel_rfl) (fun _ _ _ h => h) (Or.inl ⟨by rfl, ?_⟩) (by assumption) ?_
  rotate_left
  · intro wq hSw; go_simp; (try with_reducible rfl)
  try simp only [Act.put, List.setIfInBounds_toArray, List.set_cons_zero, List.set_cons_succ]
  refine wpAnyH_take (i := 2) (oi := ⟨some 32, _, _, _, _, _⟩) (v := ?_) rfl (by kernel_rfl) (by kernel_rfl) (by kernel_rfl) (fun _ _ _ h => h) (Or.inl ⟨by rfl, ?_⟩) (by assumption) ?_
  rotate_left
  · intro wq hSw; go_simp; (try with_reducible rfl)
  try simp only [Act.put, List.setIfInBounds_toArray, List.set_cons_zero, List.set_cons_succ]
  refine wpAnyH_take (i := 3) (oi := ⟨some 33, _, _, _, _, _⟩) (v := ?_) rfl (by kernel_rfl) (by kernel_rfl) (by kernel_rfl) (fun _ _ _ h => h) (Or.inl ⟨by rfl, ?_⟩) (by assumption) ?_
  rotate_left
  · intro wq hSw; go_simp; (try with_reducible rfl)
  try simp only [Act.put, List.setIfInBounds_toArray, List.set_cons_zero, List.set_cons_succ]
  refine wpAnyH_take (i := 4) (oi := ⟨some 34, _, _, _, _, _⟩) (v := ?_) rfl (by kernel_rfl) (by kernel_rfl) (by kernel_rfl) (fun _ _ _ h => h) (Or.inl ⟨by rfl, ?_⟩) (by assumption) ?_
  rotate_left
  · intro wq hSw; go_simp; (try with_reducible rfl)
  try simp only [Act.put, List.setIfInBounds_toArray, List.set_cons_zero, List.set_cons_succ]
  refine wpAnyH_take (i := 5) (oi := ⟨some 35, _, _, _, _, _⟩) (v := ?_) rfl (by kernel_rfl) (by kernel_rfl) (by kernel_rfl) (fun _ _ _ h => h) (Or.inl ⟨by rfl, ?_⟩) (by assumption) ?_
  rotate_left
  · intro wq hSw; go_simp; (try with_reducible rfl)
  try simp only [Act.put, List.setIfInBounds_toArray, List.set_cons_zero, List.set_cons_succ]
  refine wpAnyH_take (i := 6) (oi := ⟨some 36, _, _, _, _, _⟩) (v := ?_) rfl (by kernel_rfl) (by kernel_rfl) (by kernel_rfl) (fun _ _ _ h => h) (Or.inl ⟨by rfl, ?_⟩) (by assumption) ?_
  rotate_left
  · intro wq hSw; go_simp; (try with_reducible rfl)
  try simp only [Act.put, List.setIfInBounds_toArray, List.set_cons_zero, List.set_cons_succ]
  refine wpAnyH_take (i := 7) (oi := ⟨some 37, _, _, _, _, _⟩) (v := ?_) rfl (by kernel_rfl) (by kernel_rfl) (by kernel_rfl) (fun _ _ _ h => h) (Or.inl ⟨by rfl, ?_⟩) (by assumption) ?_
  rotate_left
  · intro wq hSw; go_simp; (try with_reducible rfl)
  try simp only [Act.put, List.setIfInBounds_toArray, List.set_cons_zero, List.set_cons_succ]
  refine wpAnyH_take (i := 8) (oi := ⟨some 38, _, _, _, _, _⟩) (v := ?_) rfl (by kernel_rfl) (by kernel_rfl) (by kernel_rfl) (fun _ _ _ h => h) (Or.inl ⟨by rfl, ?_⟩) (by assumption) ?_
  rotate_left
  · intro wq hSw; go_simp; (try with_reducible rfl)
  try simp only [Act.put, List.setIfInBounds_toArray, List.set_cons_zero, List.set_cons_succ]
  refine wpAnyH_take (i := 9) (oi := ⟨some 39, _, _, _, _, _⟩) (v := ?_) rfl (by kernel_rfl) (by kernel_rfl) (by kernel_rfl) (fun _ _ _ h => h) (Or.inl ⟨by rfl, ?_⟩) (by assumption) ?_
  rotate_left
  · intro wq hSw; go_simp; (try with_reducible rfl)
  try simp only [Act.put, List.setIfInBounds_toArray, List.set_cons_zero, List.set_cons_succ]
  refine wpAnyH_take (i := 10) (oi := ⟨some 40, _, _, _, _, _⟩) (v := ?_) rfl (by kernel_rfl) (by kernel_rfl) (by kernel_rfl) (fun _ _ _ h => h) (Or.inl ⟨by rfl, ?_⟩) (by assumption) ?_
  rotate_left
  · intro wq hSw; go_simp; (try with_reducible rfl)
  try simp only [Act.put, List.setIfInBounds_toArray, List.set_cons_zero, List.set_cons_succ]
  refine wpAnyH_take (i := 11) (oi := ⟨some 41, _, _, _, _, _⟩) (v := ?_) rfl (by kernel_rfl) (by kernel_rfl) (by kernel_rfl) (fun _ _ _ h => h) (Or.inl ⟨by rfl, ?_⟩) (by assumption) ?_
  rotate_left
  · intro wq hSw; go_simp; (try with_reducible rfl)
  try simp only [Act.put, List.setIfInBounds_toArray, List.set_cons_zero, List.set_cons_succ]
  refine wpAnyH_take (i := 12) (oi := ⟨some 42, _, _, _, _, _⟩) (v := ?_) rfl (by kernel_rfl) (by kernel_rfl) (by kernel_rfl) (fun _ _ _ h => h) (Or.inl ⟨by rfl, ?_⟩) (by assumption) ?_
  rotate_left
  · intro wq hSw; go_simp; (try with_reducible rfl)
  try simp only [Act.put, List.setIfInBounds_toArray, List.set_cons_zero, List.set_cons_succ]
  refine wpAnyH_take (i := 13) (oi := ⟨some 43, _, _, _, _, _⟩) (v := ?_) rfl (by kernel_rfl) (by kernel_rfl) (by kernel_rfl) (fun _ _ _ h => h) (Or.inl ⟨by rfl, ?_⟩) (by assumption) ?_
  rotate_left
  · intro wq hSw; go_simp; (try with_reducible rfl)
  try simp only [Act.put, List.setIfInBounds_toArray, List.set_cons_zero, List.set_cons_succ]
  refine wpAnyH_take (i := 15) (oi := ⟨some 45, _, _, _, _, _⟩) (v := ?_) rfl (by kernel_rfl) (by kernel_rfl) (by kernel_rfl) (fun _ _ _ h => h) (Or.inl ⟨by rfl, ?_⟩) (by assumption) ?_
  rotate_left
  · intro wq hSw; go_simp; (try with_reducible rfl)
  try simp only [Act.put, List.setIfInBounds_toArray, List.set_cons_zero, List.set_cons_succ]
  refine wpAnyH_take (i := 16) (oi := ⟨some 46, _, _, _, _, _⟩) (v := ?_) rfl (by kernel_rfl) (by kernel_rfl) (by kernel_rfl) (fun _ _ _ h => h) (Or.inl ⟨by rfl, ?_⟩) (by assumption) ?_
  rotate_left
  · intro wq hSw; go_simp; (try with_reducible rfl)
  try simp only [Act.put, List.setIfInBounds_toArray, List.set_cons_zero, List.set_cons_succ]
  refine wpAnyH_take (i := 17) (oi := ⟨some 47, _, _, _, _, _⟩) (v := ?_) rfl (by kernel_rfl) (by kernel_rfl) (by kernel_rfl) (fun _ _ _ h => h) (Or.inl ⟨by rfl, ?_⟩) (by assumption) ?_
  rotate_left
  · intro wq hSw; go_simp; (try with_reducible rfl)
  try simp only [Act.put, List.setIfInBounds_toArray, List.set_cons_zero, List.set_cons_succ]
  refine wpAnyH_take (i := 18) (oi := ⟨some 48, _, _, _, _, _⟩) (v := ?_) rfl (by kernel_rfl) (by kernel_rfl) (by kernel_rfl) (fun _ _ _ h => h) (Or.inl ⟨by rfl, ?_⟩) (by assumption) ?_
  rotate_left
  · intro wq hSw; go_simp; (try with_reducible rfl)
  try simp only [Act.put, List.setIfInBounds_toArray, List.set_cons_zero, List.set_cons_succ]
  refine wpAnyH_ready (rs := [14]) (by kernel_rfl) (by simp) ?_
  refine AllReadyH.cons (o := ⟨some 44, _, _, _, _, _⟩) rfl (fun K hK => ?_) AllReadyH.nil
  go_simp
  (first | ((with_reducible refine (PUu.out _).mono ?_); rintro e w4 ⟨v4, rfl, hb, ho⟩; obtain ⟨g4, c4, rfl, hc4, hg4, li4⟩ := made_parts2 ho HD.out hk10.1; have P4 := Lib.hid li4; clear ho li4) | ((with_reducible refine (HSE.out g4 c4 g a (cap - a) _ P4.out hg4 hc4 (LA.out _ _ (LI3.out.below hg3 (Keeps.low (by assumption)))) (Nat.lt_of_lt_of_le hg3 (Keeps.low (by assumption)).size) (by omega)).mono ?_); rintro e w5 ⟨rfl, hb⟩))
  refine hK.out _ _ (hHeld0.next hb) (fun hHeld1 => ?_)
  clear hK K
  try clear hb
  try simp only [Act.put, List.setIfInBounds_toArray, List.set_cons_zero, List.set_cons_succ]
  refine wpAnyH_ready (rs := [19]) (by kernel_rfl) (by simp) ?_
  refine AllReadyH.cons (o := ⟨some 49, _, _, _, _, _⟩) rfl (fun K hK => ?_) AllReadyH.nil
  go_simp
  (first | ((with_reducible refine (PUu.out _).mono ?_); rintro e w4 ⟨v4, rfl, hb, ho⟩; obtain ⟨g4, c4, rfl, hc4, hg4, li4⟩ := made_parts2 ho HD.out hk10.1; have P4 := Lib.hid li4; clear ho li4) | ((with_reducible refine (HSE.out g4 c4 g a (cap - a) _ P4.out hg4 hc4 (LA.out _ _ (LI3.out.below hg3 (Keeps.low (by assumption)))) (Nat.lt_of_lt_of_le hg3 (Keeps.low (by assumption)).size) (by omega)).mono ?_); rintro e w5 ⟨rfl, hb⟩))
  refine hK.out _ _ (hHeld1.next hb) (fun hHeld2 => ?_)
  clear hK K
  try clear hb
  try simp only [Act.put, List.setIfInBounds_toArray, List.set_cons_zero, List.set_cons_succ]
  refine wpAnyH_take (i := 20) (oi := ⟨some 50, _, _, _, _, _⟩) (v := ?_) rfl (by kernel_rfl) (by kernel_rfl) (by kernel_rfl) (fun _ _ _ h => h) (Or.inl ⟨by rfl, ?_⟩) (by assumption) ?_
  rotate_left
  · intro wq hSw; go_simp; (try with_reducible rfl)
  try simp only [Act.put, List.setIfInBounds_toArray, List.set_cons_zero, List.set_cons_succ]
  refine wpAnyH_take (i := 21) (oi := ⟨some 51, _, _, _, _, _⟩) (v := ?_) rfl (by kernel_rfl) (by kernel_rfl) (by kernel_rfl) (fun _ _ _ h => h) (Or.inl ⟨by rfl, ?_⟩) (by assumption) ?_
  rotate_left
  · intro wq hSw; go_simp; (try with_reducible rfl)
  try simp only [Act.put, List.setIfInBounds_toArray, List.set_cons_zero, List.set_cons_succ]
  refine wpAnyH_take (i := 22) (oi := ⟨some 52, _, _, _, _, _⟩) (v := ?_) rfl (by kernel_rfl) (by kernel_rfl) (by kernel_rfl) (fun _ _ _ h => h) (Or.inl ⟨by rfl, ?_⟩) (by assumption) ?_
  rotate_left
  · intro wq hSw; go_simp; (try with_reducible rfl)
  try simp only [Act.put, List.setIfInBounds_toArray, List.set_cons_zero, List.set_cons_succ]
  refine wpAnyH_done (by kernel_rfl) ?_ _
  have hHeld := hHeld2
  go_wp2_with fail
  have B5 := Lib.hid (under B3.out hHeld.1)
  have LI5 := Lib.hid (LI3.out.below hg3 hHeld.1)
  have hg5 : g < w5.heap.size := Nat.lt_of_lt_of_le hg3 hHeld.1.size
  clear hHeld B3 LI3 hg3 P4 hg4 hc4
  refine (GS.out _ _ (reads_lie LI5.out hg5 (by omega))).mono ?_
  rintro e w5b ⟨rfl, hb5⟩
  have B5b := Lib.hid (under B5.out hb5)
  have LI5b := Lib.hid (LI5.out.below hg5 hb5)
  have hg5b : g < w5b.heap.size := Nat.lt_of_lt_of_le hg5 hb5.size
  clear hb5 B5 LI5 hg5
  go_wp2_with fail
  refine region_keeps (w0 := w5b) (L := []) (by kernel_rfl) (⟨Below.refl _ _, trivial⟩) (fun hHeld0 => ?_)
  refine wpAnyH_take (i := 0) (oi := ⟨some 60, _, _, _, _, _⟩) (v := ?_) rfl (by kernel_rfl) (by kernel_rfl) (by kernel_rfl) (fun _ _ _ h => h) (Or.inl ⟨by rfl, ?_⟩) (by assumption) ?_
  rotate_left
  · intro wq hSw; go_simp; (try with_reducible rfl)
  try simp only [Act.put, List.setIfInBounds_toArray, List.set_cons_zero, List.set_cons_succ]
  refine wpAnyH_take (i := 1) (oi := ⟨some 61, _, _, _, _, _⟩) (v := ?_) rfl (by kernel_rfl) (by kernel_rfl) (by kernel_rfl) (fun _ _ _ h => h) (Or.inl ⟨by rfl, ?_⟩) (by assumption) ?_
  rotate_left
  · intro wq hSw; go_simp; (try with_reducible rfl)
  try simp only [Act.put, List.setIfInBounds_toArray, List.set_cons_zero, List.set_cons_succ]
  refine wpAnyH_take (i := 2) (oi := ⟨some 62, _, _, _, _, _⟩) (v := ?_) rfl (by kernel_rfl) (by kernel_rfl) (by kernel_rfl) (fun _ _ _ h => h) (Or.inl ⟨by rfl, ?_⟩) (by assumption) ?_
  rotate_left
  · intro wq hSw; go_simp; (try with_reducible rfl)
  try simp only [Act.put, List.setIfInBounds_toArray, List.set_cons_zero, List.set_cons_succ]
  refine wpAnyH_take (i := 3) (oi := ⟨some 63, _, _, _, _, _⟩) (v := ?_) rfl (by kernel_rfl) (by kernel_rfl) (by kernel_rfl) (fun _ _ _ h => h) (Or.inl ⟨by rfl, ?_⟩) (by assumption) ?_
  rotate_left
  · intro wq hSw; go_simp; (try with_reducible rfl)
  try simp only [Act.put, List.setIfInBounds_toArray, List.set_cons_zero, List.set_cons_succ]
  refine wpAnyH_take (i := 4) (oi := ⟨some 64, _, _, _, _, _⟩) (v := ?_) rfl (by kernel_rfl) (by kernel_rfl) (by kernel_rfl) (fun _ _ _ h => h) (Or.inl ⟨by rfl, ?_⟩) (by assumption) ?_
  rotate_left
  · intro wq hSw; go_simp; (try with_reducible rfl)
  try simp only [Act.put, List.setIfInBounds_toArray, List.set_cons_zero, List.set_cons_succ]
  refine wpAnyH_take (i := 5) (oi := ⟨some 65, _, _, _, _, _⟩) (v := ?_) rfl (by kernel_rfl) (by kernel_rfl) (by kernel_rfl) (fun _ _ _ h => h) (Or.inl ⟨by rfl, ?_⟩) (by assumption) ?_
  rotate_left
  · intro wq hSw; go_simp; (try with_reducible rfl)
  try simp only [Act.put, List.setIfInBounds_toArray, List.set_cons_zero, List.set_cons_succ]
  refine wpAnyH_take (i := 6) (oi := ⟨some 66, _, _, _, _, _⟩) (v := ?_) rfl (by kernel_rfl) (by kernel_rfl) (by kernel_rfl) (fun _ _ _ h => h) (Or.inl ⟨by rfl, ?_⟩) (by assumption) ?_
  rotate_left
  · intro wq hSw; go_simp; (try with_reducible rfl)
  try simp only [Act.put, List.setIfInBounds_toArray, List.set_cons_zero, List.set_cons_succ]
  refine wpAnyH_take (i := 7) (oi := ⟨some 67, _, _, _, _, _⟩) (v := ?_) rfl (by kernel_rfl) (by kernel_rfl) (by kernel_rfl) (fun _ _ _ h => h) (Or.inl ⟨by rfl, ?_⟩) (by assumption) ?_
  rotate_left
  · intro wq hSw; go_simp; (try with_reducible rfl)
  try simp only [Act.put, List.setIfInBounds_toArray, List.set_cons_zero, List.set_cons_succ]
  refine wpAnyH_take (i := 8) (oi := ⟨some 68, _, _, _, _, _⟩) (v := ?_) rfl (by kernel_rfl) (by kernel_rfl) (by kernel_rfl) (fun _ _ _ h => h) (Or.inl ⟨by rfl, ?_⟩) (by assumption) ?_
  rotate_left
  · intro wq hSw; go_simp; (try with_reducible rfl)
  try simp only [Act.put, List.setIfInBounds_toArray, List.set_cons_zero, List.set_cons_succ]
  refine wpAnyH_take (i := 9) (oi := ⟨some 69, _, _, _, _, _⟩) (v := ?_) rfl (by kernel_rfl) (by kernel_rfl) (by kernel_rfl) (fun _ _ _ h => h) (Or.inl ⟨by rfl, ?_⟩) (by assumption) ?_
  rotate_left
  · intro wq hSw; go_simp; (try with_reducible rfl)
  try simp only [Act.put, List.setIfInBounds_toArray, List.set_cons_zero, List.set_cons_succ]
  refine wpAnyH_take (i := 10) (oi := ⟨some 70, _, _, _, _, _⟩) (v := ?_) rfl (by kernel_rfl) (by kernel_rfl) (by kernel_rfl) (fun _ _ _ h => h) (Or.inl ⟨by rfl, ?_⟩) (by assumption) ?_
  rotate_left
  · intro wq hSw; go_simp; (try with_reducible rfl)
  try simp only [Act.put, List.setIfInBounds_toArray, List.set_cons_zero, List.set_cons_succ]
  refine wpAnyH_take (i := 11) (oi := ⟨some 71, _, _, _, _, _⟩) (v := ?_) rfl (by kernel_rfl) (by kernel_rfl) (by kernel_rfl) (fun _ _ _ h => h) (Or.inl ⟨by rfl, ?_⟩) (by assumption) ?_
  rotate_left
  · intro wq hSw; go_simp; (try with_reducible rfl)
  try simp only [Act.put, List.setIfInBounds_toArray, List.set_cons_zero, List.set_cons_succ]
  refine wpAnyH_take (i := 13) (oi := ⟨some 73, _, _, _, _, _⟩) (v := ?_) rfl (by kernel_rfl) (by kernel_rfl) (by kernel_rfl) (fun _ _ _ h => h) (Or.inl ⟨by rfl, ?_⟩) (by assumption) ?_
  rotate_left
  · intro wq hSw; go_simp; (try with_reducible rfl)
  try simp only [Act.put, List.setIfInBounds_toArray, List.set_cons_zero, List.set_cons_succ]
  refine wpAnyH_take (i := 14) (oi := ⟨some 74, _, _, _, _, _⟩) (v := ?_) rfl (by kernel_rfl) (by kernel_rfl) (by kernel_rfl) (fun _ _ _ h => h) (Or.inl ⟨by rfl, ?_⟩) (by assumption) ?_
  rotate_left
  · intro wq hSw; go_simp; (try with_reducible rfl)
  try simp only [Act.put, List.setIfInBounds_toArray, List.set_cons_zero, List.set_cons_succ]
  refine wpAnyH_take (i := 15) (oi := ⟨some 75, _, _, _, _, _⟩) (v := ?_) rfl (by kernel_rfl) (by kernel_rfl) (by kernel_rfl) (fun _ _ _ h => h) (Or.inl ⟨by rfl, ?_⟩) (by assumption) ?_
  rotate_left
  · intro wq hSw; go_simp; (try with_reducible rfl)
  try simp only [Act.put, List.setIfInBounds_toArray, List.set_cons_zero, List.set_cons_succ]
  refine wpAnyH_take (i := 16) (oi := ⟨some 76, _, _, _, _, _⟩) (v := ?_) rfl (by kernel_rfl) (by kernel_rfl) (by kernel_rfl) (fun _ _ _ h => h) (Or.inl ⟨by rfl, ?_⟩) (by assumption) ?_
  rotate_left
  · intro wq hSw; go_simp; (try with_reducible rfl)
  try simp only [Act.put, List.setIfInBounds_toArray, List.set_cons_zero, List.set_cons_succ]
  refine wpAnyH_ready (rs := [12]) (by kernel_rfl) (by simp) ?_
  refine AllReadyH.cons (o := ⟨some 72, _, _, _, _, _⟩) rfl (fun K hK => ?_) AllReadyH.nil
  go_simp
  (first | ((with_reducible refine (PSu.out _).mono ?_); rintro e w4 ⟨v4, rfl, hb, ho⟩; obtain ⟨g4, c4, rfl, hc4, hg4, li4⟩ := made_parts2 ho HD.out hk10.1; have P4 := Lib.hid li4; clear ho li4) | ((with_reducible refine (HSE.out g4 c4 g a (cap - a) _ P4.out hg4 hc4 (LA.out _ _ (LI5b.out.below hg5b (Keeps.low (by assumption)))) (Nat.lt_of_lt_of_le hg5b (Keeps.low (by assumption)).size) (by omega)).mono ?_); rintro e w6 ⟨rfl, hb⟩))
  refine hK.out _ _ (hHeld0.next hb) (fun hHeld1 => ?_)
  clear hK K
  try clear hb
  try simp only [Act.put, List.setIfInBounds_toArray, List.set_cons_zero, List.set_cons_succ]
  refine wpAnyH_ready (rs := [17]) (by kernel_rfl) (by simp) ?_
  refine AllReadyH.cons (o := ⟨some 77, _, _, _, _, _⟩) rfl (fun K hK => ?_) AllReadyH.nil
  go_simp
  (first | ((with_reducible refine (PSu.out _).mono ?_); rintro e w4 ⟨v4, rfl, hb, ho⟩; obtain ⟨g4, c4, rfl, hc4, hg4, li4⟩ := made_parts2 ho HD.out hk10.1; have P4 := Lib.hid li4; clear ho li4) | ((with_reducible refine (HSE.out g4 c4 g a (cap - a) _ P4.out hg4 hc4 (LA.out _ _ (LI5b.out.below hg5b (Keeps.low (by assumption)))) (Nat.lt_of_lt_of_le hg5b (Keeps.low (by assumption)).size) (by omega)).mono ?_); rintro e w6 ⟨rfl, hb⟩))
  refine hK.out _ _ (hHeld1.next hb) (fun hHeld2 => ?_)
  clear hK K
  try clear hb
  try simp only [Act.put, List.setIfInBounds_toArray, List.set_cons_zero, List.set_cons_succ]
  refine wpAnyH_take (i := 18) (oi := ⟨some 78, _, _, _, _, _⟩) (v := ?_) rfl (by kernel_rfl) (by kernel_rfl) (by kernel_rfl) (fun _ _ _ h => h) (Or.inl ⟨by rfl, ?_⟩) (by assumption) ?_
  rotate_left
  · intro wq hSw; go_simp; (try with_reducible rfl)
  try simp only [Act.put, List.setIfInBounds_toArray, List.set_cons_zero, List.set_cons_succ]
  refine wpAnyH_take (i := 19) (oi := ⟨some 79, _, _, _, _, _⟩) (v := ?_) rfl (by kernel_rfl) (by kernel_rfl) (by kernel_rfl) (fun _ _ _ h => h) (Or.inl ⟨by rfl, ?_⟩) (by assumption) ?_
  rotate_left
  · intro wq hSw; go_simp; (try with_reducible rfl)
  try simp only [Act.put, List.setIfInBounds_toArray, List.set_cons_zero, List.set_cons_succ]
  refine wpAnyH_take (i := 20) (oi := ⟨some 80, _, _, _, _, _⟩) (v := ?_) rfl (by kernel_rfl) (by kernel_rfl) (by kernel_rfl) (fun _ _ _ h => h) (Or.inl ⟨by rfl, ?_⟩) (by assumption) ?_
  rotate_left
  · intro wq hSw; go_simp; (try with_reducible rfl)
  try simp only [Act.put, List.setIfInBounds_toArray, List.set_cons_zero, List.set_cons_succ]
  refine wpAnyH_take (i := 21) (oi := ⟨some 81, _, _, _, _, _⟩) (v := ?_) rfl (by kernel_rfl) (by kernel_rfl) (by kernel_rfl) (fun _ _ _ h => h) (Or.inl ⟨by rfl, ?_⟩) (by assumption) ?_
  rotate_left
  · intro wq hSw; go_simp; (try with_reducible rfl)
  try simp only [Act.put, List.setIfInBounds_toArray, List.set_cons_zero, List.set_cons_succ]
  refine wpAnyH_done (by kernel_rfl) ?_ _
  have hHeld := hHeld2
  go_wp2_with fail
  have B6 := Lib.hid (under B5b.out hHeld.1)
  have LI6 := Lib.hid (LI5b.out.below hg5b hHeld.1)
  have hg6 : g < w6.heap.size := Nat.lt_of_lt_of_le hg5b hHeld.1.size
  clear hHeld B5b LI5b hg5b P4 hg4 hc4

  refine (PN.out _).mono ?_
  rintro e w7 ⟨v7, rfl, hb7, ho7⟩
  obtain ⟨g7, c7, rfl, hc7, hg7, li7, _⟩ := made_parts ho7 NE.out
  have B7 := Lib.hid (under B6.out hb7)
  have LI7 := Lib.hid (LI6.out.below hg6 hb7)
  have hgh7 : g < w7.heap.size := Nat.lt_of_lt_of_le hg6 hb7.size
  have P7 := Lib.hid li7
  clear hb7 ho7 B6 LI6 hg6 li7
  go_wp2_with fail
  go_loopw [86] (fun i wr => ∃ k : Nat, i = .int .i64 k ∧ k ≤ (digs n).length ∧ Below w7.heap.size w7 wr) (fun i _ => (digs n).length - (intOf i).toNat)
  case atStart => exact ⟨0, rfl, by omega, Below.refl _ _⟩
  case round =>
    obtain ⟨k, rfl, hk, hBr⟩ := hrel
    by_cases gk : k < (digs n).length
    · have GK := Lib.hid (GC.out k gk g7 c7 wr (Nat.lt_of_lt_of_le hg7 hBr.size) (P7.out.below hg7 hBr) (by omega))
      go_wp2_with fail
      refine GK.out.mono ?_
      rintro e w8 ⟨rfl, hb8⟩
      have hB8 := under hBr hb8
      clear hb8 hBr GK
      go_wp2_with fail
      go_roundw
      case rel => exact ⟨k + 1, by simp, by omega, hB8⟩
      case measure => simp [intOf]; omega
    · by_cases gun : u = n
      · have tu : ((u : Int) == (n : Int)) = true := beq_iff_eq.2 (by omega)
        have tu' : (u == n) = true := beq_iff_eq.2 gun
        have B8 := Lib.hid (under B7.out hBr)
        clear B7 LI7 P7 hgh7 hg7 hBr gun
        go_wp2_with fail
        go_ret
        exact ⟨rfl, B8.out⟩
      have tu : ((u : Int) == (n : Int)) = false := beq_eq_false_iff_ne.2 (by omega)
      have tu' : (u == n) = false := beq_eq_false_iff_ne.2 gun
      have PF := Lib.hid (PR.out gun)
      clear gun
      have B8 := Lib.hid (under B7.out hBr)
      have LI8 := Lib.hid (LI7.out.below hgh7 hBr)
      have P8 := Lib.hid (P7.out.below hg7 hBr)
      have i8 : g < wr.heap.size ∧ g7 < wr.heap.size := ⟨Nat.lt_of_lt_of_le hgh7 hBr.size, Nat.lt_of_lt_of_le hg7 hBr.size⟩
      clear B7 LI7 P7 hgh7 hg7 hBr
      go_wp2_with fail
      refine (HP1.out g7 c7 g (cap - a) _ (by omega) P8.out (LA.out _ _ LI8.out)).mono ?_
      rintro e w9 ⟨rfl, hb9⟩
      rw [PF.out.1]
      have B9 := Lib.hid (under B8.out hb9)
      have LI9 := Lib.hid (LI8.out.below i8.1 hb9)
      have P9 := Lib.hid (P8.out.below i8.2 hb9)
      clear hb9 B8 LI8 P8 i8
      go_wp2_with fail
      refine (HP2.out g (cap - a) g7 c7 _ (by omega) (LA.out _ _ LI9.out) P9.out).mono ?_
      rintro e w10 ⟨rfl, hb10⟩
      rw [PF.out.2]
      have B10 := Lib.hid (under B9.out hb10)
      clear hb10 B9 LI9 P9
      go_wp2_with fail
      go_ret
      exact ⟨rfl, B10.out⟩
end Go.Proofs.Ytahfopednhmbiaa
