/-
 Layer 11: what tells something of a segment that may be (ofSeg), and Count, Value, At. Conditions: those written at each fact.
-/
import Derived.Test.YtcfidimnbamnkaaGreatSgG
import Derived.Test.YtcfidimnbamnkaaGreatKitT
import Derived.Test.YtcfidimnbamnkaaGreatNC
import Derived.Laws.EntriesVeiled
namespace Go.Proofs.YtcfidimnbamnkaaGreat.P11
open Go.RowKit Go.Shelf Go.Proofs.YtcfidimnbamnkaaGreat.P7

attribute [local go_sem] fieldK0 fieldK1 fieldK2
theorem val_enters (k : Int) : ∀ args w, (callFunc (valFn k) args).run Tryz.prog w = .ok (.enter (valFn k) args) w := by
 unfold valFn
 split
 ·exact enters_of Tryz.func177 (by kernel_rfl) rfl
 ·split
  ·exact enters_of Tryz.func174 (by kernel_rfl) rfl
  ·exact enters_of Tryz.func172 (by kernel_rfl) rfl
theorem part_enters (k : Int) : ∀ args w, (callFunc (partFn k) args).run Tryz.prog w = .ok (.enter (partFn k) args) w := by
 unfold partFn
 split
 ·exact enters_of Tryz.func178 (by kernel_rfl) rfl
 ·split
  ·exact enters_of Tryz.func175 (by kernel_rfl) rfl
  ·exact enters_of Tryz.func173 (by kernel_rfl) rfl
set_option maxRecDepth 100000 in
theorem ofI_bad (k a r n d e : Int) (v u : Value) (F : Value) (w : World) (CK : ∀ W, Below w.heap.size w W → Calls Tryz.prog 17 #[sgV k v a r n d u e] W (Ret W (.int .i64 210))) :
  Calls Tryz.prog 71 #[sgV k v a r n d u e, F] w (Ret w (.tuple #[.int .i64 0, .int .i64 210])) := by
 replace CK := Lib.hid CK
 have hW := below_alloc w (sgO 27 k v a r n d u e)
 go_enter Tryz.func71, Tryz.ntmps71
 go_wp2_with fail
 refine (CK.out _ hW).mono ?_
 rintro e w1 ⟨rfl, hb⟩
 go_wp2_with fail
 go_returns
 exact ⟨rfl, under hW hb⟩
set_option maxRecDepth 100000 in
theorem ofI_good (k a r n d e x y : Int) (v u : Value) (fn : Nat) (eK : ∀ args w, (callFunc fn args).run Tryz.prog w = .ok (.enter fn args) w) (c : Value) (w : World) (CK : ∀ W, Below w.heap.size w W → Calls Tryz.prog 17 #[sgV k v a r n d u e] W (Ret W (.int .i64 0)))
  (TL : ∀ W, Below w.heap.size w W → Calls Tryz.prog fn #[sgV k v a r n d u e, c] W (Ret W (.tuple #[.int .i64 x, .int .i64 y]))) :
  Calls Tryz.prog 71 #[sgV k v a r n d u e, .func (.func fn) #[] #[c]] w (Ret w (.tuple #[.int .i64 x, .int .i64 y])) := by
 replace CK := Lib.hid CK
 replace TL := Lib.hid TL
 have hK := new_seg (Below.refl w.heap.size w) 27 k v a r n d u e
 go_enter Tryz.func71, Tryz.ntmps71
 go_wp2_with fail
 refine (CK.out _ hK.1).mono ?_
 rintro e w1 ⟨rfl, hb⟩
 replace hK := hK.next hb
 clear hb
 obtain ⟨⟨_,_,_⟩,⟨_,_,_⟩,⟨_,_,_⟩,⟨_,_,_⟩,⟨_,_,_⟩,⟨_,_,_⟩,⟨_,_,_⟩,⟨_,_,_⟩,_⟩ := hK.2
 go_wp2_with fail
 refine (TL.out _ hK.1).mono ?_
 rintro e w2 ⟨rfl, hb⟩
 go_wp2_with fail
 go_returns
 exact ⟨rfl, under hK.1 hb⟩
end Go.Proofs.YtcfidimnbamnkaaGreat.P11
