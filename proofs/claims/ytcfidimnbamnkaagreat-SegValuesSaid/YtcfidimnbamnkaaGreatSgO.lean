/-
  Layer 11: Value and At. Conditions: those written at each fact.
-/
import Derived.Test.YtcfidimnbamnkaaGreatKitW
import Derived.Maps.RangeWalk
import Derived.Test.YtcfidimnbamnkaaGreatSgN
namespace Go.Proofs.YtcfidimnbamnkaaGreat.P11
open Go.RowKit Go.Shelf Go.Proofs.YtcfidimnbamnkaaGreat.P7

attribute [local go_sem] fieldK0 fieldK1 fieldK2
set_option maxRecDepth 100000 in
set_option maxHeartbeats 2000000 in
theorem val1_walk (k a r n d e i t x c : Int) (v u : Value) (B : Nat) (w : World) (hc : Cells [(B, 0, .int .i64 i)] w) (RA : ∀ W, Below w.heap.size w W → Calls Tryz.prog 73 #[v, .int .i64 i] W (Ret W (.tuple #[.int .i64 t, .int .i64 c])))
    (H : (c != 0) = true ∧ x = 0 ∨ c = 0 ∧ (∀ W, Calls Tryz.prog 74 #[sgV k v a r n d u e] W (Ret W (kindV k))) ∧ (∀ W, Below w.heap.size w W → Calls Tryz.prog (valFn k) #[sgV k v a r n d u e, .int .i64 i, .int .i64 t] W (Ret W (.int .i64 x)))) :
    Calls Tryz.prog 72 #[sgV k v a r n d u e, .pointer (some ⟨B, 0, none⟩)] w (Ret w (.tuple #[.int .i64 x, .int .i64 c])) := by
  replace RA := Lib.hid RA
  have hK := (show Keeps w [(B, 0, .int .i64 i)] w from ⟨Below.refl _ _, hc⟩).alloc (sgO 94 k v a r n d u e)
  replace hK := hK.app (new_seg (Below.refl w.heap.size w) 94 k v a r n d u e)
  have hBz := hc.1.1
  rcases H with ⟨h1, rfl⟩ | ⟨rfl, SY, VF⟩
  · obtain ⟨⟨kz0, kc0, kf0⟩, _⟩ := hc
    go_enter Tryz.func72, Tryz.ntmps72
    go_wp2_with fail
    refine (RA.out _ hK.1).mono ?_
    rintro e w1 ⟨rfl, hb⟩
    go_wp2_with fail
    go_returns
    exact ⟨rfl, under hK.1 hb⟩
  · replace SY := Lib.hid SY
    replace VF := Lib.hid VF
    have eK := val_enters k
    obtain ⟨⟨kz0, kc0, kf0⟩, _⟩ := hc
    go_enter Tryz.func72, Tryz.ntmps72
    go_wp2_with fail
    refine (RA.out _ hK.1).mono ?_
    rintro e w1 ⟨rfl, hb⟩
    replace hK := hK.next hb
    clear hb kz0 kc0 kf0
    go_wp2_with fail
    refine region_keeps (w0 := w) (L := [(B, 0, .int .i64 i), (w.heap.size, 0, .int .i64 k), (w.heap.size, 1, v), (w.heap.size, 2, .int .i64 a), (w.heap.size, 3, .int .i64 r), (w.heap.size, 4, .int .i64 n), (w.heap.size, 5, .int .i64 d), (w.heap.size, 6, u), (w.heap.size, 7, .int .i64 e)]) (by kernel_rfl) hK (fun hHeld0 => ?_)
    refine tk 0 18 rfl rfl ?_ ?_ ?_
    rotate_left
    · intro wq hSw; obtain ⟨⟨_,_,_⟩,⟨_,_,_⟩,⟨_,_,_⟩,⟨_,_,_⟩,⟨_,_,_⟩,⟨_,_,_⟩,⟨_,_,_⟩,⟨_,_,_⟩,⟨_,_,_⟩,_⟩ := hSw.2; go_simp; (try with_reducible rfl)
    try go_frame
    refine tk 3 21 rfl rfl ?_ ?_ ?_
    rotate_left
    · intro wq hSw; obtain ⟨⟨_,_,_⟩,⟨_,_,_⟩,⟨_,_,_⟩,⟨_,_,_⟩,⟨_,_,_⟩,⟨_,_,_⟩,⟨_,_,_⟩,⟨_,_,_⟩,⟨_,_,_⟩,_⟩ := hSw.2; go_simp; (try with_reducible rfl)
    try go_frame
    refine tk 4 22 rfl rfl ?_ ?_ ?_
    rotate_left
    · intro wq hSw; obtain ⟨⟨_,_,_⟩,⟨_,_,_⟩,⟨_,_,_⟩,⟨_,_,_⟩,⟨_,_,_⟩,⟨_,_,_⟩,⟨_,_,_⟩,⟨_,_,_⟩,⟨_,_,_⟩,_⟩ := hSw.2; go_simp; (try with_reducible rfl)
    try go_frame
    refine tv 5 23 rfl rfl ?_
    try go_frame
    refine ty [1] ?_
    refine AllReadyH.cons rfl (fun K hK => ?_) AllReadyH.nil
    go_simp
    ((with_reducible refine (SY.out _).mono ?_); rintro e w2 ⟨rfl, hb⟩)
    refine hK.out _ _ (hHeld0.next hb) (fun hHeld1 => ?_)
    clear hK K; try clear hb
    try go_frame
    refine tv 2 20 rfl rfl ?_
    try go_frame
    refine ty [6] ?_
    refine AllReadyH.cons rfl (fun K hK => ?_) AllReadyH.nil
    go_simp
    ((with_reducible refine (VF.out _ (by first | with_reducible exact kbel hHeld0 | with_reducible exact kbel hHeld1 | with_reducible exact kbel hHeld2 | with_reducible exact kbel hHeld3 | with_reducible exact kbel hHeld4 | with_reducible exact kbel hHeld5 | with_reducible exact kbel hHeld6 | with_reducible exact kbel hHeld7 | with_reducible exact kbel hHeld8 | with_reducible exact kbel hHeld9 | with_reducible exact kbel hHeld10 | with_reducible exact kbel hHeld11 | with_reducible exact kbel hHeld12 | with_reducible exact kbel hHeld13)).mono ?_); rintro e w3 ⟨rfl, hb⟩)
    refine hK.out _ _ (hHeld1.next hb) (fun hHeld2 => ?_)
    clear hK K; try clear hb
    try go_frame
    refine tv 7 3 rfl rfl ?_
    try go_frame
    refine tv 8 4 rfl rfl ?_
    try go_frame
    refine wpAnyH_done (by kernel_rfl) ?_ _
    have hHeld := hHeld2
    obtain ⟨⟨kz0,kc0,kf0⟩,⟨kz1,kc1,kf1⟩,⟨kz2,kc2,kf2⟩,⟨kz3,kc3,kf3⟩,⟨kz4,kc4,kf4⟩,⟨kz5,kc5,kf5⟩,⟨kz6,kc6,kf6⟩,⟨kz7,kc7,kf7⟩,⟨kz8,kc8,kf8⟩,_⟩ := hHeld.2
    all_goals
      have hB := hHeld.1
      clear hHeld hHeld0
      (try clear hHeld0); (try clear hHeld1); (try clear hHeld2); (try clear hHeld3); (try clear hHeld4); (try clear hHeld5); (try clear hHeld6); (try clear hHeld7); (try clear hHeld8); (try clear hHeld9); (try clear hHeld10); (try clear hHeld11); (try clear hHeld12); (try clear hHeld13); (try clear kz0 kc0 kf0); (try clear kz1 kc1 kf1); (try clear kz2 kc2 kf2); (try clear kz3 kc3 kf3); (try clear kz4 kc4 kf4); (try clear kz5 kc5 kf5); (try clear kz6 kc6 kf6); (try clear kz7 kc7 kf7); (try clear kz8 kc8 kf8)
      go_wp2_with fail
      go_returns
      exact ⟨rfl, hB⟩
set_option maxRecDepth 100000 in
set_option maxHeartbeats 2000000 in
theorem at1_walk (k a r n d e t x g c : Int) (f : Bool) (v u : Value) (B : Nat) (w : World) (hc : Cells [(B, 0, .int .i64 t)] w) (RA : ∀ W, Below w.heap.size w W → Calls Tryz.prog 76 #[v, .int .i64 t] W (Ret W (.tuple #[.int .i64 g, .bool f])))
    (H : f = false ∧ x = 0 ∧ c = 4 ∨ f = true ∧ c = 0 ∧ (∀ W, Calls Tryz.prog 74 #[sgV k v a r n d u e] W (Ret W (kindV k))) ∧ (∀ W, Below w.heap.size w W → Calls Tryz.prog (valFn k) #[sgV k v a r n d u e, .int .i64 g, .int .i64 t] W (Ret W (.int .i64 x)))) :
    Calls Tryz.prog 75 #[sgV k v a r n d u e, .pointer (some ⟨B, 0, none⟩)] w (Ret w (.tuple #[.int .i64 x, .int .i64 c])) := by
  replace RA := Lib.hid RA
  have hK := (show Keeps w [(B, 0, .int .i64 t)] w from ⟨Below.refl _ _, hc⟩).alloc (sgO 94 k v a r n d u e)
  replace hK := hK.app (new_seg (Below.refl w.heap.size w) 94 k v a r n d u e)
  have hBz := hc.1.1
  rcases H with ⟨rfl, rfl, rfl⟩ | ⟨rfl, rfl, SY, VF⟩
  · obtain ⟨⟨kz0, kc0, kf0⟩, _⟩ := hc
    go_enter Tryz.func75, Tryz.ntmps75
    go_wp2_with fail
    refine (RA.out _ hK.1).mono ?_
    rintro e w1 ⟨rfl, hb⟩
    go_wp2_with fail
    go_returns
    exact ⟨rfl, under hK.1 hb⟩
  · replace SY := Lib.hid SY
    replace VF := Lib.hid VF
    have eK := val_enters k
    obtain ⟨⟨kz0, kc0, kf0⟩, _⟩ := hc
    go_enter Tryz.func75, Tryz.ntmps75
    go_wp2_with fail
    refine (RA.out _ hK.1).mono ?_
    rintro e w1 ⟨rfl, hb⟩
    replace hK := hK.next hb
    clear hb kz0 kc0 kf0
    go_wp2_with fail
    refine region_keeps (w0 := w) (L := [(B, 0, .int .i64 t), (w.heap.size, 0, .int .i64 k), (w.heap.size, 1, v), (w.heap.size, 2, .int .i64 a), (w.heap.size, 3, .int .i64 r), (w.heap.size, 4, .int .i64 n), (w.heap.size, 5, .int .i64 d), (w.heap.size, 6, u), (w.heap.size, 7, .int .i64 e)]) (by kernel_rfl) hK (fun hHeld0 => ?_)
    refine tk 0 17 rfl rfl ?_ ?_ ?_
    rotate_left
    · intro wq hSw; obtain ⟨⟨_,_,_⟩,⟨_,_,_⟩,⟨_,_,_⟩,⟨_,_,_⟩,⟨_,_,_⟩,⟨_,_,_⟩,⟨_,_,_⟩,⟨_,_,_⟩,⟨_,_,_⟩,_⟩ := hSw.2; go_simp; (try with_reducible rfl)
    try go_frame
    refine tk 3 20 rfl rfl ?_ ?_ ?_
    rotate_left
    · intro wq hSw; obtain ⟨⟨_,_,_⟩,⟨_,_,_⟩,⟨_,_,_⟩,⟨_,_,_⟩,⟨_,_,_⟩,⟨_,_,_⟩,⟨_,_,_⟩,⟨_,_,_⟩,⟨_,_,_⟩,_⟩ := hSw.2; go_simp; (try with_reducible rfl)
    try go_frame
    refine tv 4 21 rfl rfl ?_
    try go_frame
    refine tk 5 22 rfl rfl ?_ ?_ ?_
    rotate_left
    · intro wq hSw; obtain ⟨⟨_,_,_⟩,⟨_,_,_⟩,⟨_,_,_⟩,⟨_,_,_⟩,⟨_,_,_⟩,⟨_,_,_⟩,⟨_,_,_⟩,⟨_,_,_⟩,⟨_,_,_⟩,_⟩ := hSw.2; go_simp; (try with_reducible rfl)
    try go_frame
    refine ty [1] ?_
    refine AllReadyH.cons rfl (fun K hK => ?_) AllReadyH.nil
    go_simp
    ((with_reducible refine (SY.out _).mono ?_); rintro e w2 ⟨rfl, hb⟩)
    refine hK.out _ _ (hHeld0.next hb) (fun hHeld1 => ?_)
    clear hK K; try clear hb
    try go_frame
    refine tv 2 19 rfl rfl ?_
    try go_frame
    refine ty [6] ?_
    refine AllReadyH.cons rfl (fun K hK => ?_) AllReadyH.nil
    go_simp
    ((with_reducible refine (VF.out _ (by first | with_reducible exact kbel hHeld0 | with_reducible exact kbel hHeld1 | with_reducible exact kbel hHeld2 | with_reducible exact kbel hHeld3 | with_reducible exact kbel hHeld4 | with_reducible exact kbel hHeld5 | with_reducible exact kbel hHeld6 | with_reducible exact kbel hHeld7 | with_reducible exact kbel hHeld8 | with_reducible exact kbel hHeld9 | with_reducible exact kbel hHeld10 | with_reducible exact kbel hHeld11 | with_reducible exact kbel hHeld12 | with_reducible exact kbel hHeld13)).mono ?_); rintro e w3 ⟨rfl, hb⟩)
    refine hK.out _ _ (hHeld1.next hb) (fun hHeld2 => ?_)
    clear hK K; try clear hb
    try go_frame
    refine tv 7 3 rfl rfl ?_
    try go_frame
    refine tv 8 4 rfl rfl ?_
    try go_frame
    refine wpAnyH_done (by kernel_rfl) ?_ _
    have hHeld := hHeld2
    obtain ⟨⟨kz0,kc0,kf0⟩,⟨kz1,kc1,kf1⟩,⟨kz2,kc2,kf2⟩,⟨kz3,kc3,kf3⟩,⟨kz4,kc4,kf4⟩,⟨kz5,kc5,kf5⟩,⟨kz6,kc6,kf6⟩,⟨kz7,kc7,kf7⟩,⟨kz8,kc8,kf8⟩,_⟩ := hHeld.2
    all_goals
      have hB := hHeld.1
      clear hHeld hHeld0
      (try clear hHeld0); (try clear hHeld1); (try clear hHeld2); (try clear hHeld3); (try clear hHeld4); (try clear hHeld5); (try clear hHeld6); (try clear hHeld7); (try clear hHeld8); (try clear hHeld9); (try clear hHeld10); (try clear hHeld11); (try clear hHeld12); (try clear hHeld13); (try clear kz0 kc0 kf0); (try clear kz1 kc1 kf1); (try clear kz2 kc2 kf2); (try clear kz3 kc3 kf3); (try clear kz4 kc4 kf4); (try clear kz5 kc5 kf5); (try clear kz6 kc6 kf6); (try clear kz7 kc7 kf7); (try clear kz8 kc8 kf8)
      go_wp2_with fail
      go_returns
      exact ⟨rfl, hB⟩
def valN (s : Sg) (i : Int) : Int := if segB s = true ∧ 0 ≤ i ∧ i < totalR s.R then ((vals s)[i.toNat]?).getD 0 else 0
def valC (s : Sg) (i : Int) : Int := if segB s then (if 0 ≤ i ∧ i < totalR s.R then 0 else 4) else 210
def atN (s : Sg) (t : Int) : Int := if segB s = true ∧ foundB s.R t = true then ((vals s)[(foundN s.R t).toNat]?).getD 0 else 0
def atC (s : Sg) (t : Int) : Int := if segB s then (if foundB s.R t then 0 else 4) else 210
theorem findF_get (t : Int) : ∀ (l : List Int) (k n : Nat), findF k l t = some n → ∃ q, n = k + q ∧ l[q]? = some t
  | [], k, n, h => by simp [findF] at h
  | x :: l, k, n, h => by
    rw [findF] at h
    split at h
    · next e => injection h with h; exact ⟨0, by omega, by rw [← e]; rfl⟩
    · split at h
      · cases h
      · obtain ⟨q, h1, h2⟩ := findF_get t l (k + 1) n h
        exact ⟨q + 1, by omega, by rw [List.getElem?_cons_succ]; exact h2⟩
theorem findF_none (t : Int) : ∀ (l : List Int) (k : Nat), l.Pairwise (· < ·) → findF k l t = none → ∀ x ∈ l, x ≠ t
  | [], k, _, _, x, hx => by cases hx
  | y :: l, k, hp, h, x, hx => by
    obtain ⟨h1, h2⟩ := List.pairwise_cons.1 hp
    rw [findF] at h
    split at h
    · cases h
    · next e =>
      rcases List.mem_cons.1 hx with rfl | hx
      · exact e
      · split at h
        · next e2 => have := h1 x hx; omega
        · exact findF_none t l (k + 1) h2 h x hx
theorem found_at {R : List Rn} (hok : okB R = true) {t : Int} (hf : foundB R t = true) : ∃ q : Nat, foundN R t = q ∧ (timesR R)[q]? = some t := by
  unfold foundB at hf
  unfold foundN
  rw [hok] at hf ⊢
  rw [if_pos rfl]
  cases g : findF 0 (timesR R) t with
  | none => rw [g] at hf; simp at hf
  | some n =>
    obtain ⟨q, h1, h2⟩ := findF_get t _ _ _ g
    exact ⟨n, rfl, by rw [h1, Nat.zero_add]; exact h2⟩
theorem found_no {R : List Rn} (hT : TimesOk R) (hok : okB R = true) {t : Int} (hf : foundB R t = false) : ∀ x ∈ timesR R, x ≠ t := by
  unfold foundB at hf
  rw [hok, Bool.true_and] at hf
  cases g : findF 0 (timesR R) t with
  | none => exact findF_none t _ _ hT.up g
  | some n => rw [g] at hf; simp at hf
set_option maxRecDepth 100000 in
theorem value_seg (s : Sg) (hR : s.R.length ≤ 1000000) (hV : s.V.length ≤ 1000000) (i : Int) (v u : Value) (w : World) (h : ReadsR w v s.R) (hu : Reads .i64 w u s.V) :
    Calls Tryz.prog 27 #[sgV s.k v s.a s.r s.n s.d u s.e, .int .i64 i] w (Ret w (.tuple #[.int .i64 (valN s i), .int .i64 (valC s i)])) := by
  have CK := fun W (hb : Below w.heap.size w W) => check_any s hR hV v u W (h.below hb) (hu.below hb)
  have hW : Below w.heap.size w ((w.alloc (sgO 27 s.k v s.a s.r s.n s.d u s.e)).alloc (.cells #[.int .i64 i] 3)) := by go_grown
  have hcl : Cells [(w.heap.size + 1, 0, .int .i64 i)] ((w.alloc (sgO 27 s.k v s.a s.r s.n s.d u s.e)).alloc (.cells #[.int .i64 i] 3)) := by simp [Cells, go_sem]
  have OF : Hid (Calls Tryz.prog 71 #[sgV s.k v s.a s.r s.n s.d u s.e, .func (.func 72) #[] #[.pointer (some ⟨w.heap.size + 1, 0, none⟩)]] ((w.alloc (sgO 27 s.k v s.a s.r s.n s.d u s.e)).alloc (.cells #[.int .i64 i] 3)) (Ret ((w.alloc (sgO 27 s.k v s.a s.r s.n s.d u s.e)).alloc (.cells #[.int .i64 i] 3)) (.tuple #[.int .i64 (valN s i), .int .i64 (valC s i)]))) := by
    refine Lib.hid ?_
    generalize ((w.alloc (sgO 27 s.k v s.a s.r s.n s.d u s.e)).alloc (.cells #[.int .i64 i] 3)) = w1 at *
    cases g : segB s
    · rw [g] at CK
      have e1 : valN s i = 0 := by unfold valN; rw [g]; rfl
      have e2 : valC s i = 210 := by unfold valC; rw [g]; rfl
      rw [e1, e2]
      exact ofI_bad _ _ _ _ _ _ _ _ _ _ (fun W hb => CK W (under hW hb))
    · rw [g] at CK
      have hok := ((segB_iff s).1 g).1
      have hT := times_ok hok
      refine ofI_good _ _ _ _ _ _ _ _ _ _ _ (enters_of Tryz.func72 (by kernel_rfl) rfl) _ _ (fun W hb => CK W (under hW hb)) (fun W hb => ?_)
      have hbw := under hW hb
      have AT := fun W' (hb' : Below W.heap.size W W') => atA_any s.R hR i v W' (h.below (under hbw hb'))
      refine val1_walk s.k s.a s.r s.n s.d s.e i (valA s.R i) (valN s i) (valC s i) v u (w.heap.size + 1) W (hcl.next hb) (fun W' hb' => ?_) ?_
      · have := AT W' hb'
        have e : codeA s.R i = valC s i := by unfold codeA valC; rw [hok, g, if_pos rfl, if_pos rfl]
        rwa [e] at this
      · by_cases g2 : 0 ≤ i ∧ i < totalR s.R
        · have e1 : valC s i = 0 := by unfold valC; rw [g, if_pos rfl, if_pos g2]
          refine .inr ⟨e1, fun W' => says_any s g v u W', fun W' hb' => ?_⟩
          have e2 := times_get hT.cs g2.1 g2.2
          have e3 : valA s.R i = timeAt s.R i := by unfold valA; rw [if_pos]; unfold codeA; rw [hok, if_pos rfl, if_pos g2]
          rw [← e3] at e2
          obtain ⟨x, hx, _⟩ := vals_at g e2
          have e4 : valN s i = x := by unfold valN; rw [if_pos ⟨g, g2⟩, hx]; rfl
          have := value_any s g i.toNat (valA s.R i) x e2 hx v u W' (h.below (under hbw hb')) (hu.below (under hbw hb'))
          rw [show ((i.toNat : Nat) : Int) = i by omega] at this
          rwa [e4]
        · refine .inl ⟨?_, ?_⟩
          · have : valC s i = 4 := by unfold valC; rw [g, if_pos rfl, if_neg g2]
            rw [this]; rfl
          · unfold valN; rw [if_neg (by rintro ⟨_, h2⟩; exact g2 h2)]
  clear CK h hu hR hV hcl
  generalize valN s i = x at *
  generalize valC s i = c at *
  generalize s.k = k at *
  generalize s.a = a at *
  generalize s.r = r at *
  generalize s.n = n at *
  generalize s.d = d at *
  generalize s.e = e at *
  have hmf := makes_func
  go_enter Tryz.func27, Tryz.ntmps27
  go_wp2_with fail
  refine OF.out.mono ?_
  rintro e w1 ⟨rfl, hb⟩
  go_wp2_with fail
  go_returns
  exact ⟨rfl, under hW hb⟩
set_option maxRecDepth 100000 in
theorem at_seg (s : Sg) (hR : s.R.length ≤ 1000000) (hV : s.V.length ≤ 1000000) (t : Int) (v u : Value) (w : World) (h : ReadsR w v s.R) (hu : Reads .i64 w u s.V) :
    Calls Tryz.prog 28 #[sgV s.k v s.a s.r s.n s.d u s.e, .int .i64 t] w (Ret w (.tuple #[.int .i64 (atN s t), .int .i64 (atC s t)])) := by
  have CK := fun W (hb : Below w.heap.size w W) => check_any s hR hV v u W (h.below hb) (hu.below hb)
  have hW : Below w.heap.size w ((w.alloc (sgO 27 s.k v s.a s.r s.n s.d u s.e)).alloc (.cells #[.int .i64 t] 2)) := by go_grown
  have hcl : Cells [(w.heap.size + 1, 0, .int .i64 t)] ((w.alloc (sgO 27 s.k v s.a s.r s.n s.d u s.e)).alloc (.cells #[.int .i64 t] 2)) := by simp [Cells, go_sem]
  have OF : Hid (Calls Tryz.prog 71 #[sgV s.k v s.a s.r s.n s.d u s.e, .func (.func 75) #[] #[.pointer (some ⟨w.heap.size + 1, 0, none⟩)]] ((w.alloc (sgO 27 s.k v s.a s.r s.n s.d u s.e)).alloc (.cells #[.int .i64 t] 2)) (Ret ((w.alloc (sgO 27 s.k v s.a s.r s.n s.d u s.e)).alloc (.cells #[.int .i64 t] 2)) (.tuple #[.int .i64 (atN s t), .int .i64 (atC s t)]))) := by
    refine Lib.hid ?_
    generalize ((w.alloc (sgO 27 s.k v s.a s.r s.n s.d u s.e)).alloc (.cells #[.int .i64 t] 2)) = w1 at *
    cases g : segB s
    · rw [g] at CK
      have e1 : atN s t = 0 := by unfold atN; rw [g]; rfl
      have e2 : atC s t = 210 := by unfold atC; rw [g]; rfl
      rw [e1, e2]
      exact ofI_bad _ _ _ _ _ _ _ _ _ _ (fun W hb => CK W (under hW hb))
    · rw [g] at CK
      have hok := ((segB_iff s).1 g).1
      have hT := times_ok hok
      refine ofI_good _ _ _ _ _ _ _ _ _ _ _ (enters_of Tryz.func75 (by kernel_rfl) rfl) _ _ (fun W hb => CK W (under hW hb)) (fun W hb => ?_)
      have hbw := under hW hb
      refine at1_walk s.k s.a s.r s.n s.d s.e t (atN s t) (foundN s.R t) (atC s t) (foundB s.R t) v u (w.heap.size + 1) W (hcl.next hb) (fun W' hb' => findA_any s.R hR t v W' (h.below (under hbw hb'))) ?_
      cases g2 : foundB s.R t
      · exact .inl ⟨rfl, by unfold atN; rw [g2]; simp, by unfold atC; rw [g, g2]; rfl⟩
      · obtain ⟨q, hq, ht⟩ := found_at hok g2
        obtain ⟨x, hx, _⟩ := vals_at g ht
        have e4 : atN s t = x := by unfold atN; rw [if_pos ⟨g, g2⟩, hq, show ((q : Int)).toNat = q by omega, hx]; rfl
        refine .inr ⟨rfl, by unfold atC; rw [g, g2]; rfl, fun W' => says_any s g v u W', fun W' hb' => ?_⟩
        rw [e4, hq]
        exact value_any s g q t x ht hx v u W' (h.below (under hbw hb')) (hu.below (under hbw hb'))
  clear CK h hu hR hV hcl
  generalize atN s t = x at *
  generalize atC s t = c at *
  generalize s.k = k at *
  generalize s.a = a at *
  generalize s.r = r at *
  generalize s.n = n at *
  generalize s.d = d at *
  generalize s.e = e at *
  have hmf := makes_func
  go_enter Tryz.func28, Tryz.ntmps28
  go_wp2_with fail
  refine OF.out.mono ?_
  rintro e w1 ⟨rfl, hb⟩
  go_wp2_with fail
  go_returns
  exact ⟨rfl, under hW hb⟩
end Go.Proofs.YtcfidimnbamnkaaGreat.P11
