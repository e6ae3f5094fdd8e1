/-
  Layer 3: rows of readings, as the program answers. Conditions: those written at each fact.
-/
import Derived.Test.YtinppckjolkhpaaFixC
import Derived.Test.YtinppckjolkhpaaKitX
import Derived.Test.YtinppckjolkhpaaKitY
import Derived.Test.YtinppckjolkhpaaRead
import Derived.Laws.AppendOwn
import Derived.Laws.OwnMore
import Derived.Laws.MakeOwn
import Derived.WalkMore
namespace Go.Proofs.Ytinppckjolkhpaa
open Go.RowKit

/-- The slice v reads as readings of these bits. -/
def ReadsF (w : World) (v : Value) (l : List Nat) : Prop :=
  ∃ A c, v = .slice A l.length c ∧ ∀ i b, l[i]? = some b → ∃ g off, A = some ⟨g, off, none⟩ ∧ g < w.heap.size ∧ w.cell? ⟨g, off + i, none⟩ = some (fl b)
theorem ReadsF.below {w w' : World} {v : Value} {l : List Nat} (h : ReadsF w v l) (hb : Below w.heap.size w w') : ReadsF w' v l := by
  obtain ⟨A, c, e, hk⟩ := h
  refine ⟨A, c, e, fun i z hi => ?_⟩
  obtain ⟨b, off, e1, e2, e3⟩ := hk i z hi
  exact ⟨b, off, e1, Nat.lt_of_lt_of_le e2 hb.size, (hb.cell (by exact e2)).trans e3⟩
theorem readsF_own {w : World} {B : Nat} {t : TypeId} {v : Value} {l : List Nat} (h : w.ownsRow B t 1 v l.length (l.map fl)) : ReadsF w v l := by
  obtain ⟨hl, h⟩ := h
  rcases h with ⟨rfl, h0⟩ | ⟨g, cap, cur, rfl, _, hg, hn, _, hs, ht⟩
  · have : l = [] := List.eq_nil_of_length_eq_zero h0
    subst this
    exact ⟨none, 0, rfl, fun i z h => by simp at h⟩
  · refine ⟨_, _, rfl, fun i z hi => ⟨g, 0, rfl, (Array.getElem?_eq_some_iff.1 hg).1, ?_⟩⟩
    have hi' : i < l.length := (List.getElem?_eq_some_iff.1 hi).1
    have e : cur[i]? = some (fl z) := by
      have e1 : (cur.toList.take (l.length * 1))[i]? = (l.map fl)[i]? := by rw [ht]
      rw [List.getElem?_take, if_pos (by omega), List.getElem?_map, hi] at e1
      simpa using e1
    simp [World.cell?, hg, e]

/-- The first of a row of readings that has no value, and why. -/
def badR (s : Int) : List Nat → Nat → Option (Nat × Int)
  | [], _ => none
  | b :: l, k => if codeF b s = 0 then badR s l (k + 1) else some (k, codeF b s)
theorem badR_good {s : Int} {b : Nat} (h : codeF b s = 0) : ∀ (l : List Nat) (k : Nat), badR s l k = none → badR s (l ++ [b]) k = none
  | [], k, _ => by simp [badR, h]
  | x :: l, k, hl => by
    unfold badR at hl
    split at hl
    · rename_i g
      rw [List.cons_append]
      unfold badR
      rw [if_pos g]
      exact badR_good h l (k + 1) hl
    · cases hl
theorem badR_at {s : Int} {b : Nat} (h : codeF b s ≠ 0) (r : List Nat) : ∀ (l : List Nat) (k : Nat), badR s l k = none → badR s (l ++ b :: r) k = some (k + l.length, codeF b s)
  | [], k, _ => by simp [badR, h]
  | x :: l, k, hl => by
    unfold badR at hl
    split at hl
    · rename_i g
      rw [List.cons_append]
      unfold badR
      rw [if_pos g, badR_at h r l (k + 1) hl, List.length_cons, show k + 1 + l.length = k + (l.length + 1) by omega]
    · cases hl
theorem badR_stays {s : Int} {x : Nat × Int} (r : List Nat) : ∀ (l : List Nat) (k : Nat), badR s l k = some x → badR s (l ++ r) k = some x
  | [], k, h => by cases h
  | y :: l, k, hl => by
    unfold badR at hl
    rw [List.cons_append]
    unfold badR
    split at hl
    · rename_i g
      rw [if_pos g]
      exact badR_stays r l (k + 1) hl
    · rename_i g
      rw [if_neg g]
      exact hl
theorem badR_code {s : Int} {x : Nat × Int} : ∀ (l : List Nat) (k : Nat), badR s l k = some x → x.2 ≠ 0
  | [], k, h => by cases h
  | y :: l, k, hl => by
    unfold badR at hl
    split at hl
    · exact badR_code l (k + 1) hl
    · rename_i g
      injection hl with hl
      subst hl
      exact g
def valsF (s : Int) (l : List Nat) : List Int := l.map (fun b => valF b s)
/-- A row of the call's own stands while one of other cells grows. -/
theorem rows_other {w w' : World} {B B' : Nat} {e e' : TypeId} {s s' n n' : Nat} {v v' : Value} {xs xs' : List Value} (h : w.ownsRow B e s v n xs) (k : w.ownsRow B' e' s' v' n' xs') (he : e ≠ e') (hg : w.grownBy w' v'.ownBlock) : w'.ownsRow B e s v n xs := by
  obtain ⟨h1, h2⟩ := h
  refine ⟨h1, ?_⟩
  rcases h2 with h2 | ⟨g, cap, cur, y1, y2, y3, y4⟩
  · exact .inl h2
  · refine .inr ⟨g, cap, cur, y1, y2, (hg.block g (Array.getElem?_eq_some_iff.1 y3).1 (fun hx => ?_)).trans y3, y4⟩
    obtain ⟨_, k2⟩ := k
    rcases k2 with ⟨rfl, _⟩ | ⟨g', cap', cur', z1, _, z3, _⟩
    · cases hx
    · rw [z1] at hx
      injection hx with hx
      change g = g' at hx
      subst hx
      rw [y3] at z3
      injection z3 with z3
      injection z3 with _ z3 _
      exact he z3
/-- .. and what was there stands. -/
theorem keeps_grows {w0 w w' : World} {L : List (Nat × Nat × Value)} {B : Nat} {e : TypeId} {s n : Nat} {v : Value} {xs : List Value} (h : Keeps w0 L w) (k : w.ownsRow B e s v n xs) (hB : w0.heap.size ≤ B) (hne : ∀ q ∈ L, v.ownBlock ≠ some q.1) (hg : w.grownBy w' v.ownBlock) : Keeps w0 L w' := by
  have hb : Below w0.heap.size w0 w' := by
    refine ⟨hg.os.trans h.1.os, hg.tape.trans h.1.tape, hg.output.trans h.1.output, Nat.le_trans h.1.size hg.size, fun j hj => ?_⟩
    refine (hg.block j (Nat.lt_of_lt_of_le hj h.1.size) (fun hx => ?_)).trans (h.1.block j hj)
    obtain ⟨_, k2⟩ := k
    rcases k2 with ⟨rfl, _⟩ | ⟨g', cap', cur', z1, z2, _⟩
    · cases hx
    · rw [z1] at hx
      injection hx with hx
      change j = g' at hx
      omega
  refine ⟨hb, ?_⟩
  have hc := h.2
  clear hb h
  induction L with
  | nil => trivial
  | cons q l ih =>
    obtain ⟨b, o, u⟩ := q
    obtain ⟨⟨h1, h2, h3⟩, h4⟩ := hc
    have e := hg.block b h1 (fun hx => hne _ (List.mem_cons_self ..) hx.symm)
    exact ⟨⟨Nat.lt_of_lt_of_le h1 hg.size, (World.cell?_of_block (w := w) e).trans h2, (World.frozen?_of_block (w := w) e).trans h3⟩, ih (fun q hq => hne q (List.mem_cons_of_mem _ hq)) h4⟩
theorem rows_ne {w : World} {B : Nat} {e : TypeId} {s n : Nat} {v : Value} {xs : List Value} (k : w.ownsRow B e s v n xs) (b : Nat) (hb : b < B) : v.ownBlock ≠ some b := by
  intro hx
  have := (k.lt b hx).1
  omega
theorem keeps_go {w W W' : World} {L : List (Nat × Nat × Value)} (h : Keeps w L W) (k : Keeps W L W') : Keeps w L W' := ⟨under h.1 k.1, k.2⟩
theorem infoI64 : (Try.prog.info? 2).map (fun i => (i.zero, i.size, i.bytes)) = some (some (.int .i64 0), 1, 8) := by kernel_rfl

set_option maxRecDepth 100000 in
set_option maxHeartbeats 4000000 in
theorem rowWork_any (L : List Nat) (hL : ∀ b ∈ L, b < 18446744073709551616) (hn : L.length ≤ 1000) (s : Int) (hs : Scale s) (X Y Z : Nat) (v : Value) (w : World) (hR : ReadsF w v L) (hH : Cells [(X, 0, v), (Y, 0, .int .i64 s), (Z, 0, .int .i64 0)] w) :
    Calls Try.prog 18 #[.pointer (some ⟨X, 0, none⟩), .pointer (some ⟨Y, 0, none⟩), .pointer (some ⟨Z, 0, none⟩)] w fun e w' => ∃ (u : Value) (c : Int), e = .returned (.tuple #[u, .int .i64 c]) ∧
      ∃ p : Nat, (badR s L 0 = none ∧ c = 0 ∧ p = 0 ∧ Reads .i64 w' u (valsF s L) ∨ badR s L 0 = some (p, c)) ∧ KeepsX w Z [(Z, 0, .int .i64 p)] w' := by
  obtain ⟨A, c0, rfl, hk⟩ := hR
  have HK := Lib.hid hk
  have HL := Lib.hid hL
  obtain ⟨i0, hi, hz0, hz1, hz2⟩ := info_parts infoI64
  have hmk : ∀ W : World, (Instr.makeSlice 25 (.int .i64 0) (.int .i64 L.length)).run Try.prog W = .ok (.slice (some ⟨W.heap.size, 0, none⟩) 0 L.length) (W.alloc (.cells (madeCells #[.int .i64 0] L.length) 2)) := by
    intro W
    have := run_make (P := Try.prog) W 25 2 i0 (.int .i64 0) Try.underlying25 hi hz0 .i64 .i64 0 L.length (by omega) (by omega) (by rw [hz2]; omega) (by omega)
    rw [hz1, show ((L.length : Int)).toNat = L.length from by omega] at this
    simpa [Value.cells] using this
  have hHeld : Keeps w [(X, 0, .slice A L.length c0), (Y, 0, .int .i64 s), (Z, 0, .int .i64 0)] w := ⟨Below.refl _ _, hH⟩
  have RD := Lib.hid (fun b (h : b < 18446744073709551616) W => reading_any b h W)
  have VA := Lib.hid (fun b W => value_any b s hs W)
  obtain ⟨⟨hx0, _⟩, ⟨hy0, _⟩, ⟨hz9, _⟩, _⟩ := hH
  clear hk hL hs
  obtain ⟨⟨kz0, kc0, kf0⟩, ⟨kz1, kc1, kf1⟩, ⟨kz2, kc2, kf2⟩, _⟩ := hHeld.2
  go_enter Try.func18, Try.ntmps18
  go_wp2_with fail
  go_step3
  go_wp2_with fail
  go_step3
  have hO : (w.alloc (.cells (madeCells #[.int .i64 0] L.length) 2)).ownsRow w.heap.size 2 1 (.slice (some ⟨w.heap.size, 0, none⟩) 0 L.length) 0 [] := World.ownsRow_made w _ L.length (Nat.le_refl _) (by unfold maxLen; omega) (by rw [size_madeCells, Nat.mul_one])
  have hK := hHeld.alloc (.cells (madeCells #[.int .i64 0] L.length) 2)
  obtain ⟨⟨kz0, kc0, kf0⟩, ⟨kz1, kc1, kf1⟩, ⟨kz2, kc2, kf2⟩, _⟩ := hK.2
  generalize w.alloc (.cells (madeCells #[.int .i64 0] L.length) 2) = wm at *
  clear hHeld hmk
  go_wp2_with fail
  go_loopw [5, 6, 16] (fun v5 v6 i wr => ∃ k : Nat, i = .int .i64 k ∧ v6 = .int .i64 0 ∧ k ≤ L.length ∧ Hid (badR s (L.take k) 0 = none) ∧ Hid (wr.ownsRow w.heap.size 2 1 v5 (valsF s (L.take k)).length ((valsF s (L.take k)).map (Value.int .i64))) ∧ Keeps w [(X, 0, .slice A L.length c0), (Y, 0, .int .i64 s), (Z, 0, .int .i64 0)] wr) (fun _ _ i _ => L.length - (intOf i).toNat)
  case atStart => exact ⟨0, rfl, rfl, by omega, Lib.hid rfl, Lib.hid hO, hK⟩
  case round =>
    clear hO hK kz0 kc0 kf0 kz1 kc1 kf1 kz2 kc2 kf2
    obtain ⟨k, rfl, rfl, hkn, HB, HO, hHeld⟩ := hrel
    obtain ⟨⟨kz0, kc0, kf0⟩, ⟨kz1, kc1, kf1⟩, ⟨kz2, kc2, kf2⟩, _⟩ := hHeld.2
    by_cases gk : k < L.length
    · obtain ⟨b, hx⟩ : ∃ b, L[k]? = some b := ⟨_, List.getElem?_eq_getElem gk⟩
      obtain ⟨g, off, rfl, hbw, hc1⟩ := HK.out k _ hx
      have c1 := (hHeld.1.cell (p := ⟨g, off + k, none⟩) hbw).trans hc1
      have i1 : (k : Int) < (L.length : Int) := by omega
      have i0' : (0 : Int) ≤ (k : Int) := by omega
      have hb := HL.out _ (List.mem_of_getElem? hx)
      have R1 := Lib.hid (RD.out b hb)
      have V1 := Lib.hid (VA.out b)
      have ET := Lib.hid (show L.take (k + 1) = L.take k ++ [b] by obtain ⟨a1, e1⟩ := List.getElem?_eq_some_iff.1 hx; rw [List.take_succ_eq_append_getElem a1, e1])
      have ED := Lib.hid (show L = L.take k ++ b :: L.drop (k + 1) by obtain ⟨a1, e1⟩ := List.getElem?_eq_some_iff.1 hx; rw [← e1, ← List.drop_eq_getElem_cons a1, List.take_append_drop])
      have LT : (L.take k).length = k := by rw [List.length_take]; omega
      clear hc1 hx hb
      by_cases gc : codeF b s = 0
      · rw [gc] at V1
        have HB' := Lib.hid (show badR s (L.take (k + 1)) 0 = none by rw [ET.out]; exact badR_good gc _ _ HB.out)
        have EV := Lib.hid (show valsF s (L.take (k + 1)) = valsF s (L.take k) ++ [valF b s] by rw [ET.out]; unfold valsF; rw [List.map_append]; rfl)
        have LV : (valsF s (L.take k)).length = k := by unfold valsF; rw [List.length_map, LT]
        clear ET ED LT HB RD VA HK HL
        generalize valF b s = z at *
        generalize valsF s (L.take k) = V at *
        subst LV
        have hOut := hHeld
        go_wp2_with fail
        refine region_keeps (w0 := wr) (L := [(X, 0, .slice (some ⟨g, off, none⟩) L.length c0), (Y, 0, .int .i64 s), (Z, 0, .int .i64 0)]) (by kernel_rfl) ⟨Below.refl _ _, hHeld.2⟩ (fun hHeld0 => ?_)
        refine wpAnyH_take (i := 0) (oi := ⟨some 22, _, _, _, _, _⟩) (v := ?_) rfl (by kernel_rfl) (by kernel_rfl) (by kernel_rfl) (fun _ _ _ h => h) (Or.inl ⟨by rfl, ?_⟩) (by assumption) ?_
        rotate_left
        · intro wq hSw; go_simp; (try with_reducible rfl)
        try simp only [Act.put, List.setIfInBounds_toArray, List.set_cons_zero, List.set_cons_succ]
        refine wpAnyH_take (i := 2) (oi := ⟨some 24, _, _, _, _, _⟩) (v := ?_) rfl (by kernel_rfl) (by kernel_rfl) (by kernel_rfl) (fun _ _ _ h => h) (Or.inl ⟨by rfl, ?_⟩) (by assumption) ?_
        rotate_left
        · intro wq hSw; obtain ⟨⟨qz0, qc0, qf0⟩, ⟨qz1, qc1, qf1⟩, ⟨qz2, qc2, qf2⟩, _⟩ := hSw.2; go_simp; (try with_reducible rfl)
        try simp only [Act.put, List.setIfInBounds_toArray, List.set_cons_zero, List.set_cons_succ]
        refine wpAnyH_ready (rs := [1]) (by kernel_rfl) (by simp) ?_
        refine AllReadyH.cons (o := ⟨some 23, _, _, _, _, _⟩) rfl (fun K hK => ?_) AllReadyH.nil
        go_simp
        (first | ((with_reducible refine (R1.out _).mono ?_); rintro e w1 ⟨rfl, hb⟩) | ((with_reducible refine (V1.out _).mono ?_); rintro e w1 ⟨rfl, hb⟩))
        refine hK.out _ _ (hHeld0.next hb) (fun hHeld1 => ?_)
        clear hK K
        try clear hb
        try simp only [Act.put, List.setIfInBounds_toArray, List.set_cons_zero, List.set_cons_succ]
        refine wpAnyH_ready (rs := [3]) (by kernel_rfl) (by simp) ?_
        refine AllReadyH.cons (o := ⟨some 25, _, _, _, _, _⟩) rfl (fun K hK => ?_) AllReadyH.nil
        go_simp
        (first | ((with_reducible refine (R1.out _).mono ?_); rintro e w1 ⟨rfl, hb⟩) | ((with_reducible refine (V1.out _).mono ?_); rintro e w1 ⟨rfl, hb⟩))
        refine hK.out _ _ (hHeld1.next hb) (fun hHeld2 => ?_)
        clear hK K
        try clear hb
        try simp only [Act.put, List.setIfInBounds_toArray, List.set_cons_zero, List.set_cons_succ]
        refine wpAnyH_take (i := 4) (oi := ⟨some 21, _, _, _, _, _⟩) (v := ?_) rfl (by kernel_rfl) (by kernel_rfl) (by kernel_rfl) (fun _ _ _ h => h) (Or.inl ⟨by rfl, ?_⟩) (by assumption) ?_
        rotate_left
        · intro wq hSw; go_simp; (try with_reducible rfl)
        try simp only [Act.put, List.setIfInBounds_toArray, List.set_cons_zero, List.set_cons_succ]
        refine wpAnyH_take (i := 5) (oi := ⟨some 26, _, _, _, _, _⟩) (v := ?_) rfl (by kernel_rfl) (by kernel_rfl) (by kernel_rfl) (fun _ _ _ h => h) (Or.inl ⟨by rfl, ?_⟩) (by assumption) ?_
        rotate_left
        · intro wq hSw; go_simp; (try with_reducible rfl)
        try simp only [Act.put, List.setIfInBounds_toArray, List.set_cons_zero, List.set_cons_succ]
        refine wpAnyH_take (i := 6) (oi := ⟨some 27, _, _, _, _, _⟩) (v := ?_) rfl (by kernel_rfl) (by kernel_rfl) (by kernel_rfl) (fun _ _ _ h => h) (Or.inl ⟨by rfl, ?_⟩) (by assumption) ?_
        rotate_left
        · intro wq hSw; go_simp; (try with_reducible rfl)
        try simp only [Act.put, List.setIfInBounds_toArray, List.set_cons_zero, List.set_cons_succ]
        refine wpAnyH_take (i := 7) (oi := ⟨some 9, _, _, _, _, _⟩) (v := ?_) rfl (by kernel_rfl) (by kernel_rfl) (by kernel_rfl) (fun _ _ _ h => h) (Or.inl ⟨by rfl, ?_⟩) (by assumption) ?_
        rotate_left
        · intro wq hSw; go_simp; (try with_reducible rfl)
        try simp only [Act.put, List.setIfInBounds_toArray, List.set_cons_zero, List.set_cons_succ]
        refine wpAnyH_take (i := 8) (oi := ⟨some 10, _, _, _, _, _⟩) (v := ?_) rfl (by kernel_rfl) (by kernel_rfl) (by kernel_rfl) (fun _ _ _ h => h) (Or.inl ⟨by rfl, ?_⟩) (by assumption) ?_
        rotate_left
        · intro wq hSw; go_simp; (try with_reducible rfl)
        try simp only [Act.put, List.setIfInBounds_toArray, List.set_cons_zero, List.set_cons_succ]
        refine wpAnyH_done (by kernel_rfl) ?_ _
        have hHeld := hHeld2
        obtain ⟨⟨kz0, kc0, kf0⟩, ⟨kz1, kc1, kf1⟩, ⟨kz2, kc2, kf2⟩, _⟩ := hHeld.2
        all_goals
          have hK2 := keeps_go hOut hHeld
          have hO2 := owns_below HO.out hHeld.1
          clear hHeld hOut HO kz0 kc0 kf0 kz1 kc1 kf1 kz2 kc2 kf2
          go_wp2_with (at_builtin; refine wpList_append_own _ rfl _ _ 25 rfl w.heap.size 2 i0 (.int .i64 0) 1 8 Try.underlying25 hi hz0 hz1 hz2 rfl (by decide) _ _ _ rfl (hO2.alloc _) ⟨w1.heap.size, 0, none⟩ 1 1 [.int .i64 z] rfl rfl ?c1 ?c2 ?c3 ?c4 ?c5 ?_)
          case c1 =>
            intro j u hj
            match j, hj with
            | 0, hj => simp at hj; subst hj; simp [Addr.add]
          case c2 => intro u hu; simp at hu; subst hu; rfl
          case c3 => unfold maxLen; omega
          case c4 => omega
          case c5 => have := hK2.1.size; simp; omega
          intro v' w2 hown' hgrow _
          have hK3 := keeps_grows (hK2.alloc _) (hO2.alloc _) (Nat.le_refl _) (by intro q hq; simp at hq; rcases hq with rfl | rfl | rfl <;> exact rows_ne hO2 _ (by assumption)) hgrow
          have hO3 : Hid (w2.ownsRow w.heap.size 2 1 v' (V ++ [z]).length ((V ++ [z]).map (Value.int .i64))) := Lib.hid (by simpa using hown')
          rw [← EV.out] at hO3
          clear hown' hgrow hK2 hO2
          go_wp2_with fail
          go_roundw
          case rel => exact ⟨V.length + 1, by simp, rfl, by omega, HB', hO3, hK3⟩
          case measure => simp [intOf]; omega
      · have HB' := Lib.hid (show badR s L 0 = some (k, codeF b s) by
          have := badR_at gc (L.drop (k + 1)) _ _ HB.out
          rw [← ED.out, LT, Nat.zero_add] at this
          exact this)
        clear ET ED LT HB RD VA HK HL
        generalize valF b s = z at *
        generalize codeF b s = c at *
        have g1 : (c == 0) = false := by simpa using gc
        have hOut := hHeld
        go_wp2_with fail
        refine region_keeps (w0 := wr) (L := [(X, 0, .slice (some ⟨g, off, none⟩) L.length c0), (Y, 0, .int .i64 s), (Z, 0, .int .i64 0)]) (by kernel_rfl) ⟨Below.refl _ _, hHeld.2⟩ (fun hHeld0 => ?_)
        refine wpAnyH_take (i := 0) (oi := ⟨some 22, _, _, _, _, _⟩) (v := ?_) rfl (by kernel_rfl) (by kernel_rfl) (by kernel_rfl) (fun _ _ _ h => h) (Or.inl ⟨by rfl, ?_⟩) (by assumption) ?_
        rotate_left
        · intro wq hSw; go_simp; (try with_reducible rfl)
        try simp only [Act.put, List.setIfInBounds_toArray, List.set_cons_zero, List.set_cons_succ]
        refine wpAnyH_take (i := 2) (oi := ⟨some 24, _, _, _, _, _⟩) (v := ?_) rfl (by kernel_rfl) (by kernel_rfl) (by kernel_rfl) (fun _ _ _ h => h) (Or.inl ⟨by rfl, ?_⟩) (by assumption) ?_
        rotate_left
        · intro wq hSw; obtain ⟨⟨qz0, qc0, qf0⟩, ⟨qz1, qc1, qf1⟩, ⟨qz2, qc2, qf2⟩, _⟩ := hSw.2; go_simp; (try with_reducible rfl)
        try simp only [Act.put, List.setIfInBounds_toArray, List.set_cons_zero, List.set_cons_succ]
        refine wpAnyH_ready (rs := [1]) (by kernel_rfl) (by simp) ?_
        refine AllReadyH.cons (o := ⟨some 23, _, _, _, _, _⟩) rfl (fun K hK => ?_) AllReadyH.nil
        go_simp
        (first | ((with_reducible refine (R1.out _).mono ?_); rintro e w1 ⟨rfl, hb⟩) | ((with_reducible refine (V1.out _).mono ?_); rintro e w1 ⟨rfl, hb⟩))
        refine hK.out _ _ (hHeld0.next hb) (fun hHeld1 => ?_)
        clear hK K
        try clear hb
        try simp only [Act.put, List.setIfInBounds_toArray, List.set_cons_zero, List.set_cons_succ]
        refine wpAnyH_ready (rs := [3]) (by kernel_rfl) (by simp) ?_
        refine AllReadyH.cons (o := ⟨some 25, _, _, _, _, _⟩) rfl (fun K hK => ?_) AllReadyH.nil
        go_simp
        (first | ((with_reducible refine (R1.out _).mono ?_); rintro e w1 ⟨rfl, hb⟩) | ((with_reducible refine (V1.out _).mono ?_); rintro e w1 ⟨rfl, hb⟩))
        refine hK.out _ _ (hHeld1.next hb) (fun hHeld2 => ?_)
        clear hK K
        try clear hb
        try simp only [Act.put, List.setIfInBounds_toArray, List.set_cons_zero, List.set_cons_succ]
        refine wpAnyH_take (i := 4) (oi := ⟨some 21, _, _, _, _, _⟩) (v := ?_) rfl (by kernel_rfl) (by kernel_rfl) (by kernel_rfl) (fun _ _ _ h => h) (Or.inl ⟨by rfl, ?_⟩) (by assumption) ?_
        rotate_left
        · intro wq hSw; go_simp; (try with_reducible rfl)
        try simp only [Act.put, List.setIfInBounds_toArray, List.set_cons_zero, List.set_cons_succ]
        refine wpAnyH_take (i := 5) (oi := ⟨some 26, _, _, _, _, _⟩) (v := ?_) rfl (by kernel_rfl) (by kernel_rfl) (by kernel_rfl) (fun _ _ _ h => h) (Or.inl ⟨by rfl, ?_⟩) (by assumption) ?_
        rotate_left
        · intro wq hSw; go_simp; (try with_reducible rfl)
        try simp only [Act.put, List.setIfInBounds_toArray, List.set_cons_zero, List.set_cons_succ]
        refine wpAnyH_take (i := 6) (oi := ⟨some 27, _, _, _, _, _⟩) (v := ?_) rfl (by kernel_rfl) (by kernel_rfl) (by kernel_rfl) (fun _ _ _ h => h) (Or.inl ⟨by rfl, ?_⟩) (by assumption) ?_
        rotate_left
        · intro wq hSw; go_simp; (try with_reducible rfl)
        try simp only [Act.put, List.setIfInBounds_toArray, List.set_cons_zero, List.set_cons_succ]
        refine wpAnyH_take (i := 7) (oi := ⟨some 9, _, _, _, _, _⟩) (v := ?_) rfl (by kernel_rfl) (by kernel_rfl) (by kernel_rfl) (fun _ _ _ h => h) (Or.inl ⟨by rfl, ?_⟩) (by assumption) ?_
        rotate_left
        · intro wq hSw; go_simp; (try with_reducible rfl)
        try simp only [Act.put, List.setIfInBounds_toArray, List.set_cons_zero, List.set_cons_succ]
        refine wpAnyH_take (i := 8) (oi := ⟨some 10, _, _, _, _, _⟩) (v := ?_) rfl (by kernel_rfl) (by kernel_rfl) (by kernel_rfl) (fun _ _ _ h => h) (Or.inl ⟨by rfl, ?_⟩) (by assumption) ?_
        rotate_left
        · intro wq hSw; go_simp; (try with_reducible rfl)
        try simp only [Act.put, List.setIfInBounds_toArray, List.set_cons_zero, List.set_cons_succ]
        refine wpAnyH_done (by kernel_rfl) ?_ _
        have hHeld := hHeld2
        obtain ⟨⟨kz0, kc0, kf0⟩, ⟨kz1, kc1, kf1⟩, ⟨kz2, kc2, kf2⟩, _⟩ := hHeld.2
        all_goals
          have hK2 := keeps_go hOut hHeld
          clear hHeld hOut HO
          go_wp2_with fail
          simp only [Exit.noGoto_ret]
          go_ret2
          exact ⟨_, c, rfl, k, Or.inr HB'.out, Near.set (s := Z) (p := ⟨Z, 0, none⟩) (Near.next (Near.refl _ _) hK2.1) (Or.inl rfl) _, ⟨by simpa [World.setCell] using kz2, by simp [go_sem, *], by simp [*]⟩, trivial⟩
    · have EK : k = L.length := by omega
      subst EK
      rw [List.take_length] at HB HO
      have i1 : ¬ ((L.length : Nat) : Int) < (L.length : Int) := by omega
      go_wp2_with fail
      go_ret2
      exact ⟨_, _, rfl, 0, Or.inl ⟨HB.out, rfl, rfl, reads_own HO.out⟩, Near.next (Near.refl _ _) hHeld.1, ⟨kz2, kc2, kf2⟩, trivial⟩

set_option maxRecDepth 100000 in
set_option maxHeartbeats 1000000 in
theorem byScaleR_no (s : Int) (hs : ¬ Scale s) (g : FuncId) (fs : Array Value) (w : World) : Calls Try.prog 17 #[.int .i64 s, .func (.func g) #[] fs] w (Ret w (.tuple #[.slice none 0 0, .int .i64 2])) := by
  unfold Scale at hs
  by_cases h : s < -40
  · clear hs
    go_enter Try.func17, Try.ntmps17
    go_wp2_with fail
    go_ret2
    exact ⟨rfl, Below.refl _ _⟩
  · have h2 : 40 < s := by omega
    clear hs
    go_enter Try.func17, Try.ntmps17
    go_wp2_with fail
    go_ret2
    exact ⟨rfl, Below.refl _ _⟩
set_option maxRecDepth 100000 in
set_option maxHeartbeats 1000000 in
theorem byScaleR_ok (s : Int) (hs : Scale s) (X Y Z : Option Addr) (w : World) (Qc : Value → Int → World → Prop) (WK : Calls Try.prog 18 #[.pointer X, .pointer Y, .pointer Z] w fun e w' => ∃ (u : Value) (c : Int), e = .returned (.tuple #[u, .int .i64 c]) ∧ Qc u c w') :
    Calls Try.prog 17 #[.int .i64 s, .func (.func 18) #[] #[.pointer X, .pointer Y, .pointer Z]] w fun e w' => ∃ (u u' : Value) (c : Int), e = .returned (.tuple #[u', .int .i64 c]) ∧ (c = 0 ∧ u' = u ∨ c ≠ 0 ∧ u' = .slice none 0 0) ∧ Qc u c w' := by
  obtain ⟨h1, h2⟩ := hs
  have k1 : ¬ s < -40 := by omega
  have k2 : ¬ 40 < s := by omega
  have WK := Lib.hid WK
  go_enter Try.func17, Try.ntmps17
  go_wp2_with fail
  refine (WK.out).mono ?_
  rintro en w1 ⟨u, c, rfl, hq⟩
  replace hq := Lib.hid hq
  by_cases g0 : c = 0
  · subst g0
    go_wp2_with fail
    go_ret2
    exact ⟨_, _, _, rfl, Or.inl ⟨rfl, rfl⟩, hq.out⟩
  · have g1 : (c == 0) = false := by simpa using g0
    have g2 : (c != 0) = true := by simpa using g0
    go_wp2_with fail
    go_ret2
    exact ⟨_, _, _, rfl, Or.inr ⟨g0, rfl⟩, hq.out⟩

/-- What a row of readings answers: why it has no values, and at which place. -/
def rowB (s : Int) (L : List Nat) : Option (Nat × Int) := if Scale s then badR s L 0 else some (0, 2)
set_option maxRecDepth 100000 in
set_option maxHeartbeats 2000000 in
theorem row_any (L : List Nat) (hL : ∀ b ∈ L, b < 18446744073709551616) (hn : L.length ≤ 1000) (s : Int) (v : Value) (w : World) (hR : ReadsF w v L) :
    Calls Try.prog 8 #[v, .int .i64 s] w fun e w' => ∃ (u : Value) (p : Nat) (c : Int), e = .returned (.tuple #[u, .int .i64 p, .int .i64 c]) ∧
      (rowB s L = none ∧ c = 0 ∧ p = 0 ∧ Reads .i64 w' u (valsF s L) ∨ rowB s L = some (p, c) ∧ u = .slice none 0 0) ∧ Below w.heap.size w w' := by
  by_cases hs : Scale s
  · have RW := Lib.hid (fun X Y Z W k h => rowWork_any L hL hn s hs X Y Z v W k h)
    have BS := Lib.hid (fun X Y Z W Qc k => byScaleR_ok s hs X Y Z W Qc k)
    have HR := Lib.hid hR
    obtain ⟨A, c0, rfl, -⟩ := hR
    have EB : rowB s L = badR s L 0 := by unfold rowB; rw [if_pos hs]
    rw [EB]
    have HC := Lib.hid (fun x h => badR_code (s := s) (x := x) L 0 h)
    clear hs EB hL hn
    go_enter Try.func8, Try.ntmps8
    go_wp2_with fail
    have hH : Keeps w [(w.heap.size, 0, .slice A L.length c0), (w.heap.size + 1, 0, .int .i64 s), (w.heap.size + 1 + 1, 0, .int .i64 0)] (((w.alloc (.cells #[.slice A L.length c0] 24)).alloc (.cells #[.int .i64 s] 3)).alloc (.cells #[.int .i64 0] 3)) := by refine ⟨by go_grown, ?_⟩; simp [Cells, go_sem]
    refine (BS.out _ _ _ _ _ (RW.out _ _ _ _ (HR.out.below hH.1) hH.2)).mono ?_
    rintro e w1 ⟨u, u', c, rfl, hc, p, hp, hX⟩
    have hHeld := (show Keeps w [] _ from ⟨hH.1, trivial⟩).nextX hX (by omega) (by simp)
    simp only [List.nil_append] at hHeld
    have HP := Lib.hid hp
    have HCC := Lib.hid hc
    clear hX hp hH hc
    go_wp2_with fail
    refine region_keeps (w0 := w) (L := [(w.heap.size + 1 + 1, 0, .int .i64 p)]) (by kernel_rfl) hHeld (fun hHeld0 => ?_)
    refine wpAnyH_take (i := 0) (oi := ⟨some 16, _, _, _, _, _⟩) (v := ?_) rfl (by kernel_rfl) (by kernel_rfl) (by kernel_rfl) (fun _ _ _ h => h) (Or.inl ⟨by rfl, ?_⟩) (by assumption) ?_
    rotate_left
    · intro wq hSw; go_simp; (try with_reducible rfl)
    try simp only [Act.put, List.setIfInBounds_toArray, List.set_cons_zero, List.set_cons_succ]
    refine wpAnyH_take (i := 1) (oi := ⟨some 17, _, _, _, _, _⟩) (v := ?_) rfl (by kernel_rfl) (by kernel_rfl) (by kernel_rfl) (fun _ _ _ h => h) (Or.inl ⟨by rfl, ?_⟩) (by assumption) ?_
    rotate_left
    · intro wq hSw; obtain ⟨⟨qz0, qc0, qf0⟩, _⟩ := hSw.2; go_simp; (try with_reducible rfl)
    try simp only [Act.put, List.setIfInBounds_toArray, List.set_cons_zero, List.set_cons_succ]
    refine wpAnyH_take (i := 2) (oi := ⟨some 18, _, _, _, _, _⟩) (v := ?_) rfl (by kernel_rfl) (by kernel_rfl) (by kernel_rfl) (fun _ _ _ h => h) (Or.inl ⟨by rfl, ?_⟩) (by assumption) ?_
    rotate_left
    · intro wq hSw; go_simp; (try with_reducible rfl)
    try simp only [Act.put, List.setIfInBounds_toArray, List.set_cons_zero, List.set_cons_succ]
    refine wpAnyH_take (i := 3) (oi := ⟨some 4, _, _, _, _, _⟩) (v := ?_) rfl (by kernel_rfl) (by kernel_rfl) (by kernel_rfl) (fun _ _ _ h => h) (Or.inl ⟨by rfl, ?_⟩) (by assumption) ?_
    rotate_left
    · intro wq hSw; go_simp; (try with_reducible rfl)
    try simp only [Act.put, List.setIfInBounds_toArray, List.set_cons_zero, List.set_cons_succ]
    refine wpAnyH_take (i := 4) (oi := ⟨some 5, _, _, _, _, _⟩) (v := ?_) rfl (by kernel_rfl) (by kernel_rfl) (by kernel_rfl) (fun _ _ _ h => h) (Or.inl ⟨by rfl, ?_⟩) (by assumption) ?_
    rotate_left
    · intro wq hSw; go_simp; (try with_reducible rfl)
    try simp only [Act.put, List.setIfInBounds_toArray, List.set_cons_zero, List.set_cons_succ]
    refine wpAnyH_take (i := 5) (oi := ⟨some 6, _, _, _, _, _⟩) (v := ?_) rfl (by kernel_rfl) (by kernel_rfl) (by kernel_rfl) (fun _ _ _ h => h) (Or.inl ⟨by rfl, ?_⟩) (by assumption) ?_
    rotate_left
    · intro wq hSw; go_simp; (try with_reducible rfl)
    try simp only [Act.put, List.setIfInBounds_toArray, List.set_cons_zero, List.set_cons_succ]
    refine wpAnyH_done (by kernel_rfl) ?_ _
    have hHeld := hHeld0
    obtain ⟨⟨kz0, kc0, kf0⟩, _⟩ := hHeld.2
    all_goals
      go_wp2_with fail
      go_ret3
      refine ⟨_, _, _, rfl, ?_, hHeld.1⟩
      rcases HP.out with ⟨h1, h2, h3, h4⟩ | h1
      · rcases HCC.out with ⟨h5, h6⟩ | ⟨h5, h6⟩
        · exact Or.inl ⟨h1, h2, h3, by rw [h6]; exact h4.below (Below.refl _ _).drew⟩
        · exact absurd h2 h5
      · rcases HCC.out with ⟨h5, h6⟩ | ⟨h5, h6⟩
        · exact absurd h5 (HC.out _ h1)
        · exact Or.inr ⟨h1, h6⟩
  · have EB : rowB s L = some (0, 2) := by unfold rowB; rw [if_neg hs]
    rw [EB]
    have BS := Lib.hid (fun g fs W => byScaleR_no s hs g fs W)
    obtain ⟨A, c0, rfl, -⟩ := hR
    clear hs EB hL hn
    go_enter Try.func8, Try.ntmps8
    go_wp2_with fail
    refine (BS.out _ _ _).mono ?_
    rintro e w1 ⟨rfl, hb⟩
    have hHeld : Keeps w [(w.heap.size + 1 + 1, 0, .int .i64 0)] w1 := Keeps.next (by refine ⟨by go_grown, ?_⟩; simp [Cells, go_sem]) hb
    clear hb
    go_wp2_with fail
    refine region_keeps (w0 := w) (L := [(w.heap.size + 1 + 1, 0, .int .i64 0)]) (by kernel_rfl) hHeld (fun hHeld0 => ?_)
    refine wpAnyH_take (i := 0) (oi := ⟨some 16, _, _, _, _, _⟩) (v := ?_) rfl (by kernel_rfl) (by kernel_rfl) (by kernel_rfl) (fun _ _ _ h => h) (Or.inl ⟨by rfl, ?_⟩) (by assumption) ?_
    rotate_left
    · intro wq hSw; go_simp; (try with_reducible rfl)
    try simp only [Act.put, List.setIfInBounds_toArray, List.set_cons_zero, List.set_cons_succ]
    refine wpAnyH_take (i := 1) (oi := ⟨some 17, _, _, _, _, _⟩) (v := ?_) rfl (by kernel_rfl) (by kernel_rfl) (by kernel_rfl) (fun _ _ _ h => h) (Or.inl ⟨by rfl, ?_⟩) (by assumption) ?_
    rotate_left
    · intro wq hSw; obtain ⟨⟨qz0, qc0, qf0⟩, _⟩ := hSw.2; go_simp; (try with_reducible rfl)
    try simp only [Act.put, List.setIfInBounds_toArray, List.set_cons_zero, List.set_cons_succ]
    refine wpAnyH_take (i := 2) (oi := ⟨some 18, _, _, _, _, _⟩) (v := ?_) rfl (by kernel_rfl) (by kernel_rfl) (by kernel_rfl) (fun _ _ _ h => h) (Or.inl ⟨by rfl, ?_⟩) (by assumption) ?_
    rotate_left
    · intro wq hSw; go_simp; (try with_reducible rfl)
    try simp only [Act.put, List.setIfInBounds_toArray, List.set_cons_zero, List.set_cons_succ]
    refine wpAnyH_take (i := 3) (oi := ⟨some 4, _, _, _, _, _⟩) (v := ?_) rfl (by kernel_rfl) (by kernel_rfl) (by kernel_rfl) (fun _ _ _ h => h) (Or.inl ⟨by rfl, ?_⟩) (by assumption) ?_
    rotate_left
    · intro wq hSw; go_simp; (try with_reducible rfl)
    try simp only [Act.put, List.setIfInBounds_toArray, List.set_cons_zero, List.set_cons_succ]
    refine wpAnyH_take (i := 4) (oi := ⟨some 5, _, _, _, _, _⟩) (v := ?_) rfl (by kernel_rfl) (by kernel_rfl) (by kernel_rfl) (fun _ _ _ h => h) (Or.inl ⟨by rfl, ?_⟩) (by assumption) ?_
    rotate_left
    · intro wq hSw; go_simp; (try with_reducible rfl)
    try simp only [Act.put, List.setIfInBounds_toArray, List.set_cons_zero, List.set_cons_succ]
    refine wpAnyH_take (i := 5) (oi := ⟨some 6, _, _, _, _, _⟩) (v := ?_) rfl (by kernel_rfl) (by kernel_rfl) (by kernel_rfl) (fun _ _ _ h => h) (Or.inl ⟨by rfl, ?_⟩) (by assumption) ?_
    rotate_left
    · intro wq hSw; go_simp; (try with_reducible rfl)
    try simp only [Act.put, List.setIfInBounds_toArray, List.set_cons_zero, List.set_cons_succ]
    refine wpAnyH_done (by kernel_rfl) ?_ _
    have hHeld := hHeld0
    obtain ⟨⟨kz0, kc0, kf0⟩, _⟩ := hHeld.2
    all_goals
      go_wp2_with fail
      go_ret3
      exact ⟨_, 0, _, rfl, Or.inr ⟨rfl, rfl⟩, hHeld.1⟩
end Go.Proofs.Ytinppckjolkhpaa
