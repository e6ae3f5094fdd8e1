/-
  Bands: as values, in memory, cut and copied; rows of them. Conditions: those written at each fact.
-/
import Derived.Maps.RangeWalk
import Derived.Test.YtoephkglpbophaaGreatHA
import Derived.WalkMore
import Derived.Shelf.RegionOpen
import Derived.Laws.AppendOwn
import Derived.Lib.SliceRun
namespace Go.Proofs.YtoephkglpbophaaGreat.P8
open Go.RowKit Go.Shelf


set_option maxRecDepth 100000 in
set_option maxHeartbeats 2000000 in
theorem at_any (l : List Int) (hl : l.length ≤ 1000) (v : Value) (w : World) (h : Reads .i64 w v l) : Calls Tryz.prog 11 #[v] w (LaidD w (atF 0 l)) := by
  obtain ⟨A, c, rfl, _, hk⟩ := h
  have HK := Lib.hid hk
  obtain ⟨i0, hi, hz0, hz1, hz2⟩ := info_parts8 infoBand
  obtain ⟨R, hR⟩ : ∃ R, R = atF 0 l := ⟨_, rfl⟩
  rw [← hR]
  have AS : Hid ([] ++ atF 0 (l.drop 0) = R) := Lib.hid (by simpa using hR.symm)
  clear hk hR
  go_enter Tryz.func11, Tryz.ntmps11
  go_wp2_with fail
  go_loopw [3, 4] (fun o i wr => ∃ (k n : Nat) (done : List Bd), i = .int .i64 n ∧ Hid (n = 2 * k) ∧ n ≤ l.length + 1 ∧ k ≤ 1000 ∧ Hid (done ++ atF k (l.drop n) = R) ∧ Hid (done.length = k) ∧ Hid (wr.ownsRow w.heap.size 46 3 o k (flatD done)) ∧ Below w.heap.size w wr) (fun _ i _ => l.length + 1 - (intOf i).toNat)
  case atStart => exact ⟨0, 0, [], rfl, Lib.hid rfl, by omega, by omega, AS, Lib.hid rfl, Lib.hid (World.ownsRow_nil _ _ _ _), Below.refl _ _⟩
  case round =>
    obtain ⟨k, n, done, rfl, hn, hnl, hk0, hD, hL, hO, hB⟩ := hrel
    clear AS
    by_cases gk : n + 1 < l.length
    · obtain ⟨a, hx⟩ : ∃ s, l[n]? = some s := ⟨_, List.getElem?_eq_getElem (by omega)⟩
      obtain ⟨d, hy⟩ : ∃ s, l[n + 1]? = some s := ⟨_, List.getElem?_eq_getElem gk⟩
      obtain ⟨bb, off, rfl, hbw, hc1⟩ := HK.out n _ hx
      obtain ⟨bb', off', e', hbw', hc2⟩ := HK.out (n + 1) _ hy
      cases e'
      have i1 : (n : Int) + 1 < (l.length : Int) := by omega
      have i0' : (0 : Int) ≤ (n : Int) := by omega
      have i2 : (n : Int) < (l.length : Int) := by omega
      obtain ⟨m, hm⟩ : ∃ m, m = n + 1 := ⟨_, rfl⟩
      have em : IntKind.i64.wrap ((n : Int) + 1) = (m : Int) := (by rw [IntKind.wrap_i64]; omega)
      have im : (m : Int) < (l.length : Int) := by omega
      have im0 : (0 : Int) ≤ (m : Int) := by omega
      have ekk : IntKind.i64.wrap (k : Int) = (k : Int) := (by rw [IntKind.wrap_i64]; omega)
      rw [← hm] at hc2
      have q1 : Int.tdiv (n : Int) 2 = (k : Int) := by rw [show (n : Int) = 2 * (k : Int) by rw [hn.out]; omega]; exact (half_two k).2
      have q2 : (n : Int) / 2 = (k : Int) := by rw [hn.out]; have := (half_two k).1; omega
      have hD2 := hD.out
      rw [atF_next hx hy] at hD2
      have HD2 := Lib.hid hD2
      have HLN := Lib.hid (fun j hj => (hO.out.lt j hj).1)
      have HP := Lib.hid (And.intro hc1 hc2)
      clear hD2 hD hx hy hc1 hc2 hm
      go_wp2_with fail
      refine region_keeps (w0 := w) (L := []) (by kernel_rfl) ⟨hB, trivial⟩ (fun hHeld0 => ?_)
      refine wpAnyH_take (i := 0) (oi := ⟨some 12, _, _, _, _, _⟩) (v := ?_) rfl (by kernel_rfl) (by kernel_rfl) (by kernel_rfl) (fun _ _ _ h => h) (Or.inl ⟨by rfl, ?_⟩) (by assumption) ?_
      rotate_left
      · intro wq hSw; go_simp; (try with_reducible rfl)
      try go_frame
      refine wpAnyH_take (i := 1) (oi := ⟨some 13, _, _, _, _, _⟩) (v := ?_) rfl (by kernel_rfl) (by kernel_rfl) (by kernel_rfl) (fun _ _ _ h => h) (Or.inl ⟨by rfl, ?_⟩) (by assumption) ?_
      rotate_left
      · intro wq hSw; go_simp; (try with_reducible rfl)
      try go_frame
      refine wpAnyH_take (i := 2) (oi := ⟨some 14, _, _, _, _, _⟩) (v := ?_) rfl (by kernel_rfl) (by kernel_rfl) (by kernel_rfl) (fun _ _ _ h => h) (Or.inl ⟨by rfl, ?_⟩) (by assumption) ?_
      rotate_left
      · intro wq hSw; go_simp; (try with_reducible rfl)
      try go_frame
      refine wpAnyH_take (i := 3) (oi := ⟨some 15, _, _, _, _, _⟩) (v := ?_) rfl (by kernel_rfl) (by kernel_rfl) (by kernel_rfl) (fun _ _ _ h => h) (Or.inl ⟨by rfl, ?_⟩) (by assumption) ?_
      rotate_left
      · intro wq hSw; go_simp; (try with_reducible rfl)
      try go_frame
      refine wpAnyH_take (i := 4) (oi := ⟨some 16, _, _, _, _, _⟩) (v := ?_) rfl (by kernel_rfl) (by kernel_rfl) (by kernel_rfl) (fun _ _ _ h => h) (Or.inl ⟨by rfl, ?_⟩) (by assumption) ?_
      rotate_left
      · intro wq hSw; go_simp; (try with_reducible rfl)
      try go_frame
      refine wpAnyH_take (i := 5) (oi := ⟨some 17, _, _, _, _, _⟩) (v := ?_) rfl (by kernel_rfl) (by kernel_rfl) (by kernel_rfl) (fun _ _ _ h => h) (Or.inl ⟨by rfl, ?_⟩) (by assumption) ?_
      rotate_left
      · intro wq hSw; go_simp; (try with_reducible rfl)
      try go_frame
      refine wpAnyH_take (i := 6) (oi := ⟨some 18, _, _, _, _, _⟩) (v := ?_) rfl (by kernel_rfl) (by kernel_rfl) (by kernel_rfl) (fun _ _ _ h => h) (Or.inl ⟨by rfl, ?_⟩) (by assumption) ?_
      rotate_left
      · intro wq hSw; obtain _ := hSw.2; have hp4 := (hSw.1.cell (p := ⟨bb, off + n, none⟩) hbw).trans HP.out.1; have hp5 := (hSw.1.cell (p := ⟨bb, off + m, none⟩) hbw).trans HP.out.2; go_simp; (try with_reducible rfl)
      try go_frame
      refine wpAnyH_take (i := 7) (oi := ⟨some 19, _, _, _, _, _⟩) (v := ?_) rfl (by kernel_rfl) (by kernel_rfl) (by kernel_rfl) (fun _ _ _ h => h) (Or.inl ⟨by rfl, ?_⟩) (by assumption) ?_
      rotate_left
      · intro wq hSw; go_simp; (try with_reducible rfl)
      try go_frame
      refine wpAnyH_take (i := 8) (oi := ⟨some 20, _, _, _, _, _⟩) (v := ?_) rfl (by kernel_rfl) (by kernel_rfl) (by kernel_rfl) (fun _ _ _ h => h) (Or.inl ⟨by rfl, ?_⟩) (by assumption) ?_
      rotate_left
      · intro wq hSw; go_simp; (try with_reducible rfl)
      try go_frame
      refine wpAnyH_take (i := 9) (oi := ⟨some 21, _, _, _, _, _⟩) (v := ?_) rfl (by kernel_rfl) (by kernel_rfl) (by kernel_rfl) (fun _ _ _ h => h) (Or.inl ⟨by rfl, ?_⟩) (by assumption) ?_
      rotate_left
      · intro wq hSw; go_simp; (try with_reducible rfl)
      try go_frame
      refine wpAnyH_take (i := 10) (oi := ⟨some 22, _, _, _, _, _⟩) (v := ?_) rfl (by kernel_rfl) (by kernel_rfl) (by kernel_rfl) (fun _ _ _ h => h) (Or.inl ⟨by rfl, ?_⟩) (by assumption) ?_
      rotate_left
      · intro wq hSw; go_simp; (try with_reducible rfl)
      try go_frame
      refine wpAnyH_take (i := 11) (oi := ⟨some 23, _, _, _, _, _⟩) (v := ?_) rfl (by kernel_rfl) (by kernel_rfl) (by kernel_rfl) (fun _ _ _ h => h) (Or.inl ⟨by rfl, ?_⟩) (by assumption) ?_
      rotate_left
      · intro wq hSw; obtain _ := hSw.2; have hp4 := (hSw.1.cell (p := ⟨bb, off + n, none⟩) hbw).trans HP.out.1; have hp5 := (hSw.1.cell (p := ⟨bb, off + m, none⟩) hbw).trans HP.out.2; go_simp; (try with_reducible rfl)
      try go_frame
      refine wpAnyH_take (i := 12) (oi := ⟨some 24, _, _, _, _, _⟩) (v := ?_) rfl (by kernel_rfl) (by kernel_rfl) (by kernel_rfl) (fun _ _ _ h => h) (Or.inl ⟨by rfl, ?_⟩) (by assumption) ?_
      rotate_left
      · intro wq hSw; go_simp; (try with_reducible rfl)
      try go_frame
      refine wpAnyH_ready (rs := [13]) (by kernel_rfl) (by simp) ?_
      refine AllReadyH.cons (o := ⟨some 25, _, _, _, _, _⟩) rfl (fun K hK => ?_) AllReadyH.nil
      go_simp
      refine hK.out _ _ (by first | exact hHeld0.alloc _ | exact (hHeld0.alloc _).drew) (fun hHeld1 => ?_)
      clear hK K
      try clear hb
      try go_frame
      refine wpAnyH_ready (rs := [14]) (by kernel_rfl) (by simp) ?_
      refine AllReadyH.cons (o := ⟨some 26, _, _, _, _, _⟩) rfl (fun K hK => ?_) AllReadyH.nil
      (refine if_wanted rfl ?_; refine wp_append_own_at _ (.tmp 12) (.tmp 25) 22 rfl w.heap.size 46 i0 (.agg #[.int .i64 0, .int .i64 0, .int .i64 0]) 3 24 Tryz.underlying22 hi hz0 hz1 hz2 rfl (by decide) u3 _ _ rfl (owns_below hO.out (below_alloc wr _).drew) ⟨wr.heap.size, 0, none⟩ 1 1 [.int .i64 (k : Int), .int .i64 a, .int .i64 d] rfl rfl (new_cells3 rfl) (by intro u hu; simp at hu; rcases hu with rfl | rfl | rfl <;> rfl) (by unfold maxLen; omega) (by omega) (hHeld1).1.size (fun v8 w8 hown8 hgrow8 h8 => ?_))
      refine hK.out _ _ (⟨((hHeld1).1).grown hgrow8 (hHeld1).1.size (fun j hj => HLN.out j hj), trivial⟩) (fun hHeld2 => ?_)
      clear hK K
      try clear hb
      try go_frame
      refine wpAnyH_take (i := 15) (oi := ⟨some 3, _, _, _, _, _⟩) (v := ?_) rfl (by kernel_rfl) (by kernel_rfl) (by kernel_rfl) (fun _ _ _ h => h) (Or.inl ⟨by rfl, ?_⟩) (by assumption) ?_
      rotate_left
      · intro wq hSw; go_simp; (try with_reducible rfl)
      try go_frame
      refine wpAnyH_done (by kernel_rfl) ?_ _
      have hHeld := hHeld2
      all_goals
        obtain ⟨g8, cap8, rfl⟩ := ownsRow_succ hown8
        have HO8 := Lib.hid hown8
        have HB8 := Lib.hid hHeld.1
        have e2 : wrap64 ((n : Int) + 2) = (n : Int) + 2 := i64_keeps (by omega) (by omega)
        clear hgrow8 h8 hown8 em ekk q1 q2 im im0 e2
        go_wp2_with fail
        go_roundw
        case rel => exact ⟨k + 1, n + 2, done ++ [⟨(k : Int), a, d⟩], by simp, Lib.hid (by rw [hn.out]; omega), by omega, by have := hn.out; omega, Lib.hid (by rw [List.append_assoc]; exact HD2.out), Lib.hid (by rw [List.length_append, hL.out]; rfl), Lib.hid (by rw [flatD_app]; exact HO8.out), HB8.out⟩
        case measure => exact turn2_less gk
    · have i1 : (l.length : Int) ≤ (n : Int) + 1 := by omega
      have E : Hid (done = R) := Lib.hid (by have := hD.out; rwa [atF_end (by omega), List.append_nil] at this)
      clear hD
      go_wp2_with fail
      go_ret
      exact ⟨_, rfl, hB, by rw [← E.out, hL.out]; exact hO.out⟩
end Go.Proofs.YtoephkglpbophaaGreat.P8
