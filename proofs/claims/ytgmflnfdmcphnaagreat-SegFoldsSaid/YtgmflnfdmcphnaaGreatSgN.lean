/-
  Layer 11: what tells something of a segment that may be (ofSeg), and Count, Value, At. Conditions: those written at each fact.
-/
import Derived.Test.YtgmflnfdmcphnaaGreatSgG
import Derived.Test.YtgmflnfdmcphnaaGreatKitT
import Derived.Test.YtgmflnfdmcphnaaGreatNC
import Derived.Laws.EntriesVeiled
namespace Go.Proofs.YtgmflnfdmcphnaaGreat.P11
open Go.RowKit Go.Shelf Go.Proofs.YtgmflnfdmcphnaaGreat.P7

attribute [local go_sem] fieldK0 fieldK1 fieldK2
theorem val_enters (k : Int) : ∀ args w, (callFunc (valFn k) args).run Tryz.prog w = .ok (.enter (valFn k) args) w := by
  unfold valFn
  split
  · exact enters_of Tryz.func131 (by kernel_rfl) rfl
  · split
    · exact enters_of Tryz.func128 (by kernel_rfl) rfl
    · exact enters_of Tryz.func126 (by kernel_rfl) rfl
theorem part_enters (k : Int) : ∀ args w, (callFunc (partFn k) args).run Tryz.prog w = .ok (.enter (partFn k) args) w := by
  unfold partFn
  split
  · exact enters_of Tryz.func132 (by kernel_rfl) rfl
  · split
    · exact enters_of Tryz.func129 (by kernel_rfl) rfl
    · exact enters_of Tryz.func127 (by kernel_rfl) rfl
set_option maxRecDepth 100000 in
theorem ofI_bad (k a r n d e : Int) (v u : Value) (F : Value) (w : World) (CK : ∀ W, Below w.heap.size w W → Calls Tryz.prog 14 #[sgV k v a r n d u e] W (Ret W (.int .i64 210))) :
    Calls Tryz.prog 55 #[sgV k v a r n d u e, F] w (Ret w (.tuple #[.int .i64 0, .int .i64 210])) := by
  replace CK := Lib.hid CK
  have hW := below_alloc w (sgO 27 k v a r n d u e)
  go_enter Tryz.func55, Tryz.ntmps55
  go_wp2_with fail
  refine (CK.out _ hW).mono ?_
  rintro e w1 ⟨rfl, hb⟩
  go_wp2_with fail
  go_returns
  exact ⟨rfl, under hW hb⟩
set_option maxRecDepth 100000 in
theorem ofI_good (k a r n d e x y : Int) (v u : Value) (fn : Nat) (eK : ∀ args w, (callFunc fn args).run Tryz.prog w = .ok (.enter fn args) w) (c : Value) (w : World) (CK : ∀ W, Below w.heap.size w W → Calls Tryz.prog 14 #[sgV k v a r n d u e] W (Ret W (.int .i64 0)))
    (TL : ∀ W, Below w.heap.size w W → Calls Tryz.prog fn #[sgV k v a r n d u e, c] W (Ret W (.tuple #[.int .i64 x, .int .i64 y]))) :
    Calls Tryz.prog 55 #[sgV k v a r n d u e, .func (.func fn) #[] #[c]] w (Ret w (.tuple #[.int .i64 x, .int .i64 y])) := by
  replace CK := Lib.hid CK
  replace TL := Lib.hid TL
  have hK := new_seg (Below.refl w.heap.size w) 27 k v a r n d u e
  go_enter Tryz.func55, Tryz.ntmps55
  go_wp2_with fail
  refine (CK.out _ hK.1).mono ?_
  rintro e w1 ⟨rfl, hb⟩
  replace hK := hK.next hb
  clear hb
  obtain ⟨⟨kz0, kc0, kf0⟩, ⟨kz1, kc1, kf1⟩, ⟨kz2, kc2, kf2⟩, ⟨kz3, kc3, kf3⟩, ⟨kz4, kc4, kf4⟩, ⟨kz5, kc5, kf5⟩, ⟨kz6, kc6, kf6⟩, ⟨kz7, kc7, kf7⟩, _⟩ := hK.2
  go_wp2_with fail
  refine (TL.out _ hK.1).mono ?_
  rintro e w2 ⟨rfl, hb⟩
  go_wp2_with fail
  go_returns
  exact ⟨rfl, under hK.1 hb⟩
set_option maxRecDepth 100000 in
theorem count_seg (s : Sg) (hs : segB s = true) (v u : Value) (w : World) (h : ReadsR w v s.R) : Calls Tryz.prog 43 #[sgV s.k v s.a s.r s.n s.d u s.e] w (Ret w (.tuple #[.int .i64 (totalR s.R), .int .i64 0])) := by
  have hok := ((segB_iff s).1 hs).1
  have hT := times_ok hok
  have CN := fun W (hb : Below w.heap.size w W) => cntA_any s.R (by have := hT.runs; omega) v W (h.below hb)
  rw [hok, if_pos rfl] at CN
  replace CN := Lib.hid CN
  generalize totalR s.R = T at *
  generalize s.k = k at *
  generalize s.a = a at *
  generalize s.r = r at *
  generalize s.n = n at *
  generalize s.d = d at *
  generalize s.e = e at *
  have hW := below_alloc w (sgO 80 k v a r n d u e)
  clear hs hok hT h
  go_enter Tryz.func43, Tryz.ntmps43
  go_wp2_with fail
  refine (CN.out _ hW).mono ?_
  rintro e w1 ⟨rfl, hb⟩
  go_wp2_with fail
  go_returns
  exact ⟨rfl, under hW hb⟩
set_option maxRecDepth 100000 in
theorem cntS_walk (k a r n d e x c : Int) (v u : Value) (w : World) (H : c = 210 ∧ x = 0 ∨ c = 0) (CK : ∀ W, Below w.heap.size w W → Calls Tryz.prog 14 #[sgV k v a r n d u e] W (Ret W (.int .i64 c)))
    (TL : c = 0 → ∀ W, Below w.heap.size w W → Calls Tryz.prog 43 #[sgV k v a r n d u e] W (Ret W (.tuple #[.int .i64 x, .int .i64 0]))) :
    Calls Tryz.prog 42 #[sgV k v a r n d u e, .func (.func 43) #[] #[]] w (Ret w (.tuple #[.int .i64 x, .int .i64 c])) := by
  replace CK := Lib.hid CK
  have hK := new_seg (Below.refl w.heap.size w) 27 k v a r n d u e
  rcases H with ⟨rfl, rfl⟩ | rfl
  · clear TL
    go_enter Tryz.func42, Tryz.ntmps42
    go_wp2_with fail
    refine (CK.out _ hK.1).mono ?_
    rintro e w1 ⟨rfl, hb⟩
    go_wp2_with fail
    go_returns
    exact ⟨rfl, under hK.1 hb⟩
  · replace TL := Lib.hid (TL rfl)
    go_enter Tryz.func42, Tryz.ntmps42
    go_wp2_with fail
    refine (CK.out _ hK.1).mono ?_
    rintro e w1 ⟨rfl, hb⟩
    replace hK := hK.next hb
    clear hb
    obtain ⟨⟨kz0, kc0, kf0⟩, ⟨kz1, kc1, kf1⟩, ⟨kz2, kc2, kf2⟩, ⟨kz3, kc3, kf3⟩, ⟨kz4, kc4, kf4⟩, ⟨kz5, kc5, kf5⟩, ⟨kz6, kc6, kf6⟩, ⟨kz7, kc7, kf7⟩, _⟩ := hK.2
    go_wp2_with fail
    refine (TL.out _ hK.1).mono ?_
    rintro e w2 ⟨rfl, hb⟩
    go_wp2_with fail
    go_returns
    exact ⟨rfl, under hK.1 hb⟩
set_option maxRecDepth 100000 in
/-- Count. -/
theorem cntS_any (s : Sg) (hR : s.R.length ≤ 1000000) (hV : s.V.length ≤ 1000000) (v u : Value) (w : World) (h : ReadsR w v s.R) (hu : Reads .i64 w u s.V) :
    Calls Tryz.prog 15 #[sgV s.k v s.a s.r s.n s.d u s.e] w (Ret w (.int .i64 (if segB s then totalR s.R else 0))) := by
  have CK := fun W (hb : Below w.heap.size w W) => check_any s hR hV v u W (h.below hb) (hu.below hb)
  have OF : ∃ c : Int, Hid (∀ W, Below w.heap.size w W → Calls Tryz.prog 42 #[sgV s.k v s.a s.r s.n s.d u s.e, .func (.func 43) #[] #[]] W (Ret W (.tuple #[.int .i64 (if segB s then totalR s.R else 0), .int .i64 c]))) := by
    cases g : segB s
    · rw [g] at CK
      exact ⟨210, Lib.hid fun W hW => cntS_walk s.k s.a s.r s.n s.d s.e 0 210 v u W (.inl ⟨rfl, rfl⟩) (fun W' hW' => CK W' (under hW hW')) (fun h => by omega)⟩
    · rw [g] at CK
      exact ⟨0, Lib.hid fun W hW => cntS_walk s.k s.a s.r s.n s.d s.e (totalR s.R) 0 v u W (.inr rfl) (fun W' hW' => CK W' (under hW hW')) (fun _ W' hW' => count_seg s g v u W' (h.below (under hW hW')))⟩
  obtain ⟨c, OF⟩ := OF
  clear CK h hu hR hV
  generalize (if segB s then totalR s.R else 0) = x at *
  generalize s.k = k at *
  generalize s.a = a at *
  generalize s.r = r at *
  generalize s.n = n at *
  generalize s.d = d at *
  generalize s.e = e at *
  have hW := below_alloc w (sgO 27 k v a r n d u e)
  go_enter Tryz.func15, Tryz.ntmps15
  go_wp2_with fail
  refine (OF.out _ hW).mono ?_
  rintro e w1 ⟨rfl, hb⟩
  go_wp2_with fail
  go_ret
  exact ⟨rfl, under hW hb⟩
end Go.Proofs.YtgmflnfdmcphnaaGreat.P11
