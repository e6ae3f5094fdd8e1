/-
  More of what package wide answers: sums of rows, and of two numbers. Conditions: the words of a number are of 64 bits.
-/
import Derived.Test.YtnacdofidmgfmaaWideJ
import Derived.Deep.CutBlock
import Derived.Deep.LoopGhost
namespace Go.Proofs.Ytnacdofidmgfmaa
open Go.RowKit Go.Shelf

/-- All of a row, added one behind the other; none: one of these sums leaves the numbers. -/
def tot (z : Int) : List (Int × Int) → Option Int
  | [] => some z
  | x :: l => if Fits (z + val x.1 x.2) then tot (z + val x.1 x.2) l else none
def ohi : Option Int → Int | some z => rhi z | none => 0
def olo : Option Int → Int | some z => rlo z | none => 0
def ocode : Option Int → Int | some _ => 0 | none => 5
abbrev totV (o : Option Int) : Value := .tuple #[wideV (ohi o) (olo o), .int .i64 (ocode o)]

theorem grow_math {z nh nl : Int} (hz : Fits z) (h : I64 nh) (k : U64 nl) :
    gfit (rhi z) (rlo z) nh nl = decide (Fits (z + val nh nl)) ∧ (Fits (z + val nh nl) → ghi (rhi z) (rlo z) nh nl = rhi (z + val nh nl) ∧ glo (rlo z) nl = rlo (z + val nh nl)) := by
  obtain ⟨_, _⟩ := h; obtain ⟨_, _⟩ := k
  have e1 : rhi z = z / 18446744073709551616 := by unfold rhi; rw [if_pos hz]
  have e2 : rlo z = z % 18446744073709551616 := by unfold rlo; rw [if_pos hz]
  unfold Fits at hz
  constructor
  · rw [Bool.eq_iff_iff]
    unfold gfit ghi
    simp only [Bool.or_eq_true, bne_iff_ne, ne_eq, beq_iff_eq, decide_eq_decide, decide_eq_true_eq]
    rw [e1, e2]
    unfold Fits val wrap64
    omega
  · intro f
    have f' := f
    unfold Fits val at f'
    unfold rhi rlo; rw [if_pos f, if_pos f, if_pos (by unfold Fits; omega), if_pos (by unfold Fits; omega)]
    unfold ghi glo val wrap64
    omega
theorem grow_any (s : Nat) (z nh nl : Int) (f0 : Bool) (hz : Fits z) (h : I64 nh) (k : U64 nl) (w : World)
    (hs : Cells [(s, 0, .int .i64 (rhi z)), (s, 1, .int .u64 (rlo z)), (s, 2, .bool f0)] w) :
    Calls Try.prog 81 #[wideV nh nl, .pointer (some ⟨s, 0, none⟩)] w
      (Wrote w s (.tuple #[]) [(s, 0, .int .i64 (ghi (rhi z) (rlo z) nh nl)), (s, 1, .int .u64 (glo (rlo z) nl)), (s, 2, .bool (decide (Fits (z + val nh nl))))]) := by
  have u := rlo_u64 z
  have hw := grow_walk s (rhi z) (rlo z) nh nl ((rlo z + nl) / 18446744073709551616) ((rlo z + nl) % 18446744073709551616) f0 _ _ _ w
    (by have := u.1; have := k.1; omega) (by have := u.2; have := k.2; omega) hs (add64_0 (rlo z) nl u.1 k.1) rfl rfl rfl
  have g := (grow_math hz h k).1
  unfold gfit ghi at g
  rw [g] at hw
  exact hw

set_option maxRecDepth 100000 in
set_option maxHeartbeats 1600000 in
theorem total_walk (b off cap : Nat) (xs : List (Int × Int)) (hx : ∀ x ∈ xs, I64 x.1 ∧ U64 x.2) (hn : xs.length ≤ 1048576) (w : World) (hb : b < w.heap.size)
    (hc : ∀ i, (h : i < xs.length) → w.cell? ⟨b, off + i * 2, none⟩ = some (.int .i64 xs[i].1) ∧ w.cell? ⟨b, off + i * 2 + 1, none⟩ = some (.int .u64 xs[i].2)) :
    Calls Try.prog 43 #[.slice (some ⟨b, off, none⟩) xs.length cap] w (Ret w (totV (tot 0 xs))) := by
  have HC := Lib.hid hc
  have HX := Lib.hid hx
  clear hc hx
  go_enter Try.func43, Try.ntmps43
  go_wp2_with fail
  go_step3
  go_wp2_with fail
  go_step3
  go_upto_block 0 with fail
  go_cut [12] (fun _s wx => ∃ H Lo : Int, ∃ F : Bool, Hid (totV (tot 0 xs) = .tuple #[wideV (if F then H else 0) (if F then Lo else 0), .int .i64 (if F then 0 else 5)]) ∧ Keeps w [(w.heap.size, 0, .int .i64 0), (w.heap.size, 1, .int .u64 0), (w.heap.size + 1, 0, .int .i64 H), (w.heap.size + 1, 1, .int .u64 Lo), (w.heap.size + 1, 2, .bool F)] wx)
  case first =>
    go_wp2_with fail
    go_loopw [12] (fun i wr => ∃ k : Nat, k ≤ xs.length ∧ i = .int .i64 k ∧ ∃ z : Int, Hid (tot 0 xs = tot z (xs.drop k) ∧ Fits z) ∧ Keeps w [(w.heap.size, 0, .int .i64 0), (w.heap.size, 1, .int .u64 0), (w.heap.size + 1, 0, .int .i64 (rhi z)), (w.heap.size + 1, 1, .int .u64 (rlo z)), (w.heap.size + 1, 2, .bool true)] wr) (fun i _ => xs.length - (intOf i).toNat)
    case atStart =>
      refine ⟨0, Nat.zero_le _, rfl, 0, Lib.hid ⟨rfl, by unfold Fits; omega⟩, ?_⟩
      have z0 : rhi 0 = 0 := by simp [rhi, show Fits 0 from by unfold Fits; omega]
      have z1 : rlo 0 = 0 := by simp [rlo, show Fits 0 from by unfold Fits; omega]
      rw [z0, z1]
      refine ⟨by go_grown, ?_⟩
      simp [Cells, go_sem]
    case round =>
      obtain ⟨k, hk, rfl, z, HZ, hHeld⟩ := hrel
      obtain ⟨⟨kz0, kc0, kf0⟩, ⟨kz1, kc1, kf1⟩, ⟨kz2, kc2, kf2⟩, ⟨kz3, kc3, kf3⟩, ⟨kz4, kc4, kf4⟩, _⟩ := hHeld.2
      by_cases hlt : k < xs.length
      · obtain ⟨x0, x1⟩ := HC.out k hlt
        have y0 := (hHeld.1.cell (p := ⟨b, off + k * 2, none⟩) hb).trans x0
        have y1 := (hHeld.1.cell (p := ⟨b, off + k * 2 + 1, none⟩) hb).trans x1
        clear x0 x1
        obtain ⟨i0, i1⟩ := HX.out xs[k] (List.getElem_mem hlt)
        have hd : List.drop k xs = xs[k] :: List.drop (k + 1) xs := List.drop_eq_getElem_cons hlt
        obtain ⟨hz1, hz2⟩ := HZ.out
        have hg := (grow_math hz2 i0 i1).2
        rw [hd] at hz1
        have HT : Hid (tot 0 xs = if Fits (z + val xs[k].1 xs[k].2) then tot (z + val xs[k].1 xs[k].2) (List.drop (k + 1) xs) else none) := hz1
        clear hd hz1
        have gr := grow_any (w.heap.size + 1) z xs[k].1 xs[k].2 true hz2 i0 i1
        have GR := Lib.hid gr
        have HG := Lib.hid hg
        clear gr hg hz2 i0 i1
        generalize hxk : xs[k] = xk at *
        clear hxk
        obtain ⟨nh, nl⟩ := xk
        simp only at *
        go_wp2_with fail
        refine (GR.out _ (hHeld.alloc _).2.2.2).mono ?_
        rintro e w' ⟨rfl, hX⟩
        have hR : Keeps w [(w.heap.size, 0, .int .i64 0), (w.heap.size, 1, .int .u64 0)] (wr.alloc (.cells #[.int .i64 nh, .int .u64 nl] 24)) := ⟨(hHeld.alloc _).1, (hHeld.alloc _).2.1, (hHeld.alloc _).2.2.1, trivial⟩
        have hN := hR.nextX hX (by omega) (by simp)
        clear hR hX hHeld kz0 kc0 kf0 kz1 kc1 kf1 kz2 kc2 kf2 kz3 kc3 kf3 kz4 kc4 kf4
        cases hF : decide (Fits (z + val nh nl))
        · rw [hF] at hN
          have nF : ¬ Fits (z + val nh nl) := by simpa using hF
          have HF := Lib.hid nF
          clear hF nF
          obtain ⟨⟨kz0, kc0, kf0⟩, ⟨kz1, kc1, kf1⟩, ⟨kz2, kc2, kf2⟩, ⟨kz3, kc3, kf3⟩, ⟨kz4, kc4, kf4⟩, _⟩ := hN.2
          go_wp2_with fail
          go_meet
          case rel => exact ⟨_, _, false, Lib.hid (by rw [HT.out, if_neg HF.out]; rfl), hN⟩
        · rw [hF] at hN
          have nF : Fits (z + val nh nl) := by simpa using hF
          have HF := Lib.hid nF
          clear hF nF
          obtain ⟨e1, e2⟩ := HG.out HF.out
          rw [e1, e2] at hN
          clear e1 e2
          generalize z + val nh nl = z' at *
          obtain ⟨⟨kz0, kc0, kf0⟩, ⟨kz1, kc1, kf1⟩, ⟨kz2, kc2, kf2⟩, ⟨kz3, kc3, kf3⟩, ⟨kz4, kc4, kf4⟩, _⟩ := hN.2
          go_wp2_with fail
          go_roundw
          case rel => exact ⟨k + 1, by omega, by go_num, z', Lib.hid ⟨by rw [HT.out, if_pos HF.out], HF.out⟩, hN⟩
          case measure => simp [intOf]; omega
      · have hke : k = xs.length := by omega
        subst hke
        go_wp2_with fail
        go_meet
        case rel => exact ⟨_, _, true, Lib.hid (by rw [HZ.out.1, List.drop_length]; rfl), hHeld⟩
  case rest =>
    obtain ⟨H, Lo, F, HV, hHeld⟩ := hcut
    obtain ⟨⟨kz0, kc0, kf0⟩, ⟨kz1, kc1, kf1⟩, ⟨kz2, kc2, kf2⟩, ⟨kz3, kc3, kf3⟩, ⟨kz4, kc4, kf4⟩, _⟩ := hHeld.2
    cases F
    · skip
      go_wp2_with fail
      refine (ifRoomW_no _ _ _).mono ?_
      skip
      rintro e w2 ⟨rfl, hb⟩
      replace hHeld := Keeps.next (hHeld) hb
      clear hb kz0 kc0 kf0 kz1 kc1 kf1 kz2 kc2 kf2 kz3 kc3 kf3 kz4 kc4 kf4
      obtain ⟨⟨kz0, kc0, kf0⟩, ⟨kz1, kc1, kf1⟩, ⟨kz2, kc2, kf2⟩, ⟨kz3, kc3, kf3⟩, ⟨kz4, kc4, kf4⟩, _⟩ := hHeld.2
      go_wp2_with fail
      refine bodyPost_ret (v := .tuple #[wideV 0 0, .int .i64 5]) (by simp [results, Try.results43, go_sem, kc0, kc1]) rfl ?_
      exact ⟨by rw [HV.out]; simp, by first | (with_reducible exact hHeld.1) | (have hB := hHeld.1; have hz := hB.size; go_grown)⟩
    · skip
      go_wp2_with fail
      refine (ifRoomW_yes _ _ _).mono ?_
      skip
      rintro e w2 ⟨rfl, hb⟩
      replace hHeld := Keeps.next (hHeld) hb
      clear hb kz0 kc0 kf0 kz1 kc1 kf1 kz2 kc2 kf2 kz3 kc3 kf3 kz4 kc4 kf4
      obtain ⟨⟨kz0, kc0, kf0⟩, ⟨kz1, kc1, kf1⟩, ⟨kz2, kc2, kf2⟩, ⟨kz3, kc3, kf3⟩, ⟨kz4, kc4, kf4⟩, _⟩ := hHeld.2
      go_wp2_with fail
      refine bodyPost_ret (v := .tuple #[wideV H Lo, .int .i64 0]) (by simp [results, Try.results43, go_sem, kc0, kc1]) rfl ?_
      exact ⟨by rw [HV.out]; simp, by first | (with_reducible exact hHeld.1) | (have hB := hHeld.1; have hz := hB.size; go_grown)⟩

theorem tot_two {ah al bh bl : Int} (h1 : I64 ah) (h2 : U64 al) : totV (tot 0 [(ah, al), (bh, bl)]) = roomV (val ah al + val bh bl) := by
  have f := fits_val h1 h2
  simp only [tot, Int.zero_add, if_pos f]
  by_cases g : Fits (val ah al + val bh bl)
  · simp [g, totV, ohi, olo, ocode, roomV, rcode]
  · simp [g, totV, ohi, olo, ocode, roomV, rcode, rhi, rlo]
theorem total_two (b : Nat) (ah al bh bl : Int) (h1 : I64 ah) (h2 : U64 al) (h3 : I64 bh) (h4 : U64 bl) (w : World) (hb : b < w.heap.size)
    (c0 : w.cell? ⟨b, 0, none⟩ = some (.int .i64 ah)) (c1 : w.cell? ⟨b, 1, none⟩ = some (.int .u64 al)) (c2 : w.cell? ⟨b, 2, none⟩ = some (.int .i64 bh)) (c3 : w.cell? ⟨b, 3, none⟩ = some (.int .u64 bl)) :
    Calls Try.prog 43 #[.slice (some ⟨b, 0, none⟩) 2 2] w (Ret w (roomV (val ah al + val bh bl))) := by
  rw [← tot_two h1 h2]
  refine total_walk b 0 2 [(ah, al), (bh, bl)] ?_ (by simp) w hb ?_
  · intro x hx
    rcases List.mem_cons.1 hx with rfl | hx
    · exact ⟨h1, h2⟩
    · rcases List.mem_cons.1 hx with rfl | hx
      · exact ⟨h3, h4⟩
      · cases hx
  · intro i hi
    match i, hi with
    | 0, _ => exact ⟨c0, c1⟩
    | 1, _ => exact ⟨c2, c3⟩
set_option maxRecDepth 100000 in
theorem add_any (ah al bh bl : Int) (h1 : I64 ah) (h2 : U64 al) (h3 : I64 bh) (h4 : U64 bl) (w : World) :
    Calls Try.prog 49 #[wideV ah al, wideV bh bl] w (Ret w (roomV (val ah al + val bh bl))) := by
  have hT := fun b => total_two b ah al bh bl h1 h2 h3 h4
  generalize val ah al + val bh bl = z at *
  have HT := Lib.hid hT
  clear hT
  go_enter Try.func49, Try.ntmps49
  go_wp2_with fail
  refine (HT.out _ _ (by simp) (by simp [go_sem]) (by simp [go_sem]) (by simp [go_sem]) (by simp [go_sem])).mono ?_
  rintro e w1 ⟨rfl, hb⟩
  have hHeld : Keeps w [(w.heap.size + 1 + 1, 0, .int .i64 0), (w.heap.size + 1 + 1, 1, .int .u64 0)] _ := Keeps.next (by refine ⟨by go_grown, ?_⟩; simp [Cells, go_sem]) hb
  clear hb
  obtain ⟨⟨kz0, kc0, kf0⟩, ⟨kz1, kc1, kf1⟩, _⟩ := hHeld.2
  go_wp2_with fail
  refine bodyPost_ret (v := roomV z) (by simp [results, Try.results49, go_sem, kc0, kc1]) rfl ?_
  exact ⟨rfl, by first | (with_reducible exact hHeld.1) | (have hB := hHeld.1; have hz := hB.size; go_grown)⟩
end Go.Proofs.Ytnacdofidmgfmaa
