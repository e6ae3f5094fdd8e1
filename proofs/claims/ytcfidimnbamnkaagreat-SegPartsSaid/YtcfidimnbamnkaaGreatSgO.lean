/-
 Layer 11: Value and At. Conditions: those written at each fact.
-/
import Derived.Test.YtcfidimnbamnkaaGreatKitV
import Derived.Test.YtcfidimnbamnkaaGreatKitW
import Derived.Maps.RangeWalk
import Derived.Test.YtcfidimnbamnkaaGreatSgN
namespace Go.Proofs.YtcfidimnbamnkaaGreat.P11
open Go.RowKit Go.Shelf Go.Proofs.YtcfidimnbamnkaaGreat.P7

attribute [local go_sem] fieldK0 fieldK1 fieldK2
set_option maxRecDepth 100000 in
set_option maxHeartbeats 2000000 in
theorem at1_walk (k a r n d e t x g c : Int) (f : Bool) (v u : Value) (B : Nat) (w : World) (hc : Cells [(B, 0, .int .i64 t)] w) (RA : ∀ W, Below w.heap.size w W → Calls Tryz.prog 76 #[v, .int .i64 t] W (Ret W (.tuple #[.int .i64 g, .bool f])))
  (H : f = false ∧ x = 0 ∧ c = 4 ∨ f = true ∧ c = 0 ∧ (∀ W, Calls Tryz.prog 74 #[sgV k v a r n d u e] W (Ret W (kindV k))) ∧ (∀ W, Below w.heap.size w W → Calls Tryz.prog (valFn k) #[sgV k v a r n d u e, .int .i64 g, .int .i64 t] W (Ret W (.int .i64 x)))) :
  Calls Tryz.prog 75 #[sgV k v a r n d u e, .pointer (some ⟨B, 0, none⟩)] w (Ret w (.tuple #[.int .i64 x, .int .i64 c])) := by
 replace RA := Lib.hid RA
 have hK := (show Keeps w [(B, 0, .int .i64 t)] w from ⟨Below.refl _ _, hc⟩).alloc (sgO 94 k v a r n d u e)
 replace hK := hK.app (new_seg (Below.refl w.heap.size w) 94 k v a r n d u e)
 have hBz := hc.1.1
 rcases H with ⟨rfl, rfl, rfl⟩ | ⟨rfl, rfl, SY, VF⟩
 ·obtain ⟨⟨kz0, kc0, kf0⟩, _⟩ := hc
  go_enter Tryz.func75, Tryz.ntmps75
  go_wp2_with fail
  refine (RA.out _ hK.1).mono ?_
  rintro e w1 ⟨rfl, hb⟩
  go_wp2_with fail
  go_returns
  exact ⟨rfl, under hK.1 hb⟩
 ·replace SY := Lib.hid SY
  replace VF := Lib.hid VF
  have eK := val_enters k
  obtain ⟨⟨kz0, kc0, kf0⟩, _⟩ := hc
  go_enter Tryz.func75, Tryz.ntmps75
  go_wp2_with fail
  refine (RA.out _ hK.1).mono ?_
  rintro e w1 ⟨rfl, hb⟩
  replace hK := hK.next hb
  clear hb kz0 kc0 kf0
  go_wp2_with fail
  refine region_keeps (w0 := w) (L := [(B, 0, .int .i64 t), (w.heap.size, 0, .int .i64 k), (w.heap.size, 1, v), (w.heap.size, 2, .int .i64 a), (w.heap.size, 3, .int .i64 r), (w.heap.size, 4, .int .i64 n), (w.heap.size, 5, .int .i64 d), (w.heap.size, 6, u), (w.heap.size, 7, .int .i64 e)]) (by kernel_rfl) hK (fun hHeld0 => ?_)
  refine tk 0 17 rfl rfl ?_ ?_ ?_
  rotate_left
  ·intro wq hSw; obtain ⟨⟨_,_,_⟩,⟨_,_,_⟩,⟨_,_,_⟩,⟨_,_,_⟩,⟨_,_,_⟩,⟨_,_,_⟩,⟨_,_,_⟩,⟨_,_,_⟩,⟨_,_,_⟩,_⟩ := hSw.2; go_simp; (try with_reducible rfl)
  try go_frame
  refine tk 3 20 rfl rfl ?_ ?_ ?_
  rotate_left
  ·intro wq hSw; obtain ⟨⟨_,_,_⟩,⟨_,_,_⟩,⟨_,_,_⟩,⟨_,_,_⟩,⟨_,_,_⟩,⟨_,_,_⟩,⟨_,_,_⟩,⟨_,_,_⟩,⟨_,_,_⟩,_⟩ := hSw.2; go_simp; (try with_reducible rfl)
  try go_frame
  refine tv 4 21 rfl rfl ?_
  try go_frame
  refine tk 5 22 rfl rfl ?_ ?_ ?_
  rotate_left
  ·intro wq hSw; obtain ⟨⟨_,_,_⟩,⟨_,_,_⟩,⟨_,_,_⟩,⟨_,_,_⟩,⟨_,_,_⟩,⟨_,_,_⟩,⟨_,_,_⟩,⟨_,_,_⟩,⟨_,_,_⟩,_⟩ := hSw.2; go_simp; (try with_reducible rfl)
  try go_frame
  refine tw 1 rfl fun K hK => ?_
  go_simp
  ((with_reducible refine (SY.out _).mono ?_); rintro e w2 ⟨rfl, hb⟩)
  refine hK.out _ _ (hHeld0.next hb) (fun hHeld1 => ?_)
  clear hK K; try clear hb
  try go_frame
  refine tv 2 19 rfl rfl ?_
  try go_frame
  refine tw 6 rfl fun K hK => ?_
  go_simp
  ((with_reducible refine (VF.out _ (by exact kbel (by assumption))).mono ?_); rintro e w3 ⟨rfl, hb⟩)
  refine hK.out _ _ (hHeld1.next hb) (fun hHeld2 => ?_)
  clear hK K; try clear hb
  try go_frame
  refine tv 7 3 rfl rfl ?_
  try go_frame
  refine tv 8 4 rfl rfl ?_
  try go_frame
  refine wpAnyH_done (by kernel_rfl) ?_ _
  have hHeld := hHeld2
  obtain ⟨⟨kz0,kc0,kf0⟩,⟨kz1,kc1,kf1⟩,⟨kz2,kc2,kf2⟩,⟨kz3,kc3,kf3⟩,⟨kz4,kc4,kf4⟩,⟨kz5,kc5,kf5⟩,⟨kz6,kc6,kf6⟩,⟨kz7,kc7,kf7⟩,⟨kz8,kc8,kf8⟩,_⟩ := hHeld.2
  all_goals
   have hB := hHeld.1
   clear hHeld hHeld0
   (try clear hHeld0); (try clear hHeld1); (try clear hHeld2); (try clear hHeld3); (try clear hHeld4); (try clear hHeld5); (try clear hHeld6); (try clear hHeld7); (try clear hHeld8); (try clear hHeld9); (try clear hHeld10); (try clear hHeld11); (try clear hHeld12); (try clear hHeld13); (try clear kz0 kc0 kf0); (try clear kz1 kc1 kf1); (try clear kz2 kc2 kf2); (try clear kz3 kc3 kf3); (try clear kz4 kc4 kf4); (try clear kz5 kc5 kf5); (try clear kz6 kc6 kf6); (try clear kz7 kc7 kf7); (try clear kz8 kc8 kf8)
   go_wp2_with fail
   go_returns
   exact ⟨rfl, hB⟩
def atN (s : Sg) (t : Int) : Int := if segB s = true ∧ foundB s.R t = true then ((vals s)[(foundN s.R t).toNat]?).getD 0 else 0
def atC (s : Sg) (t : Int) : Int := if segB s then (if foundB s.R t then 0 else 4) else 210
theorem findF_get (t : Int) : ∀ (l : List Int) (k n : Nat), findF k l t = some n → ∃ q, n = k + q ∧ l[q]? = some t
 | [], k, n, h => by simp [findF] at h
 | x :: l, k, n, h => by
  rw [findF] at h
  split at h
  ·next e => injection h with h; exact ⟨0, by omega, by rw [← e]; rfl⟩
  ·split at h
   ·cases h
   ·obtain ⟨q, h1, h2⟩ := findF_get t l (k + 1) n h
    exact ⟨q + 1, by omega, by rw [List.getElem?_cons_succ]; exact h2⟩
theorem found_at {R : List Rn} (hok : okB R = true) {t : Int} (hf : foundB R t = true) : ∃ q : Nat, foundN R t = q ∧ (timesR R)[q]? = some t := by
 unfold foundB at hf
 unfold foundN
 rw [hok] at hf ⊢
 rw [if_pos rfl]
 cases g : findF 0 (timesR R) t with
 | none => rw [g] at hf; simp at hf
 | some n =>
  obtain ⟨q, h1, h2⟩ := findF_get t _ _ _ g
  exact ⟨n, rfl, by rw [h1, Nat.zero_add]; exact h2⟩
set_option maxRecDepth 100000 in
theorem at_seg (s : Sg) (hR : s.R.length ≤ 1000000) (hV : s.V.length ≤ 1000000) (t : Int) (v u : Value) (w : World) (h : ReadsR w v s.R) (hu : Reads .i64 w u s.V) :
  Calls Tryz.prog 28 #[sgV s.k v s.a s.r s.n s.d u s.e, .int .i64 t] w (Ret w (.tuple #[.int .i64 (atN s t), .int .i64 (atC s t)])) := by
 have CK := fun W (hb : Below w.heap.size w W) => check_any s hR hV v u W (h.below hb) (hu.below hb)
 have hW : Below w.heap.size w ((w.alloc (sgO 27 s.k v s.a s.r s.n s.d u s.e)).alloc (.cells #[.int .i64 t] 2)) := by go_grown
 have hcl : Cells [(w.heap.size + 1, 0, .int .i64 t)] ((w.alloc (sgO 27 s.k v s.a s.r s.n s.d u s.e)).alloc (.cells #[.int .i64 t] 2)) := by simp [Cells, go_sem]
 have OF : Hid (Calls Tryz.prog 71 #[sgV s.k v s.a s.r s.n s.d u s.e, .func (.func 75) #[] #[.pointer (some ⟨w.heap.size + 1, 0, none⟩)]] ((w.alloc (sgO 27 s.k v s.a s.r s.n s.d u s.e)).alloc (.cells #[.int .i64 t] 2)) (Ret ((w.alloc (sgO 27 s.k v s.a s.r s.n s.d u s.e)).alloc (.cells #[.int .i64 t] 2)) (.tuple #[.int .i64 (atN s t), .int .i64 (atC s t)]))) := by
  refine Lib.hid ?_
  generalize ((w.alloc (sgO 27 s.k v s.a s.r s.n s.d u s.e)).alloc (.cells #[.int .i64 t] 2)) = w1 at *
  cases g : segB s
  ·rw [g] at CK
   have e1 : atN s t = 0 := by unfold atN; rw [g]; rfl
   have e2 : atC s t = 210 := by unfold atC; rw [g]; rfl
   rw [e1, e2]
   exact ofI_bad _ _ _ _ _ _ _ _ _ _ (fun W hb => CK W (under hW hb))
  ·rw [g] at CK
   have hok := ((segB_iff s).1 g).1
   have hT := times_ok hok
   refine ofI_good _ _ _ _ _ _ _ _ _ _ _ (enters_of Tryz.func75 (by kernel_rfl) rfl) _ _ (fun W hb => CK W (under hW hb)) (fun W hb => ?_)
   have hbw := under hW hb
   refine at1_walk s.k s.a s.r s.n s.d s.e t (atN s t) (foundN s.R t) (atC s t) (foundB s.R t) v u (w.heap.size + 1) W (hcl.next hb) (fun W' hb' => findA_any s.R hR t v W' (h.below (under hbw hb'))) ?_
   cases g2 : foundB s.R t
   ·exact .inl ⟨rfl, by unfold atN; rw [g2]; simp, by unfold atC; rw [g, g2]; rfl⟩
   ·obtain ⟨q, hq, ht⟩ := found_at hok g2
    obtain ⟨x, hx, _⟩ := vals_at g ht
    have e4 : atN s t = x := by unfold atN; rw [if_pos ⟨g, g2⟩, hq, show ((q : Int)).toNat = q by omega, hx]; rfl
    refine .inr ⟨rfl, by unfold atC; rw [g, g2]; rfl, fun W' => says_any s g v u W', fun W' hb' => ?_⟩
    rw [e4, hq]
    exact value_any s g q t x ht hx v u W' (h.below (under hbw hb')) (hu.below (under hbw hb'))
 clear CK h hu hR hV hcl
 generalize atN s t = x at *
 generalize atC s t = c at *
 generalize s.k = k at *
 generalize s.a = a at *
 generalize s.r = r at *
 generalize s.n = n at *
 generalize s.d = d at *
 generalize s.e = e at *
 have hmf := makes_func
 go_enter Tryz.func28, Tryz.ntmps28
 go_wp2_with fail
 refine OF.out.mono ?_
 rintro e w1 ⟨rfl, hb⟩
 go_wp2_with fail
 go_returns
 exact ⟨rfl, under hW hb⟩
end Go.Proofs.YtcfidimnbamnkaaGreat.P11
