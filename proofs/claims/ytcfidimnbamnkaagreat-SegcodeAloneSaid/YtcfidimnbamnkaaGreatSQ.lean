/-
 Layer 12: what lays numbers (plain, signed), each and rows of them, by what takes a number's bytes. Conditions: those written at each fact.
-/
import Derived.Test.YtcfidimnbamnkaaGreatKitW
import Derived.Maps.RangeWalk
import Derived.Test.YtcfidimnbamnkaaGreatVA
import Derived.Test.YtcfidimnbamnkaaGreatSgE
import Derived.Test.YtcfidimnbamnkaaGreatNB
import Derived.Maps.AppendAt
import Derived.Test.YtcfidimnbamnkaaGreatKitS
import Derived.Test.YtcfidimnbamnkaaGreatSgF
namespace Go.Proofs.YtcfidimnbamnkaaGreat.P12
open Go.RowKit Go.Shelf Go.Proofs.YtcfidimnbamnkaaGreat.P2 Go.Proofs.YtcfidimnbamnkaaGreat.P7 Go.Proofs.YtcfidimnbamnkaaGreat.P11

structure Fr (X X' : Nat → Prop) (W W' : World) : Prop where
 os : W'.os = W.os
 tape : W'.tape = W.tape
 output : W'.output = W.output
 size : W.heap.size ≤ W'.heap.size
 block : ∀ k, k < W.heap.size → ¬ X k → W'.heap[k]? = W.heap[k]?
 more : ∀ k, k < W.heap.size → ¬ X k → ¬ X' k
theorem Fr.refl (X : Nat → Prop) (W : World) : Fr X X W W := ⟨rfl, rfl, rfl, Nat.le_refl _, fun _ _ _ => rfl, fun _ _ h => h⟩
theorem Fr.trans {X X' X'' : Nat → Prop} {W W' W'' : World} (h : Fr X X' W W') (k : Fr X' X'' W' W'') : Fr X X'' W W'' :=
 ⟨k.os.trans h.os, k.tape.trans h.tape, k.output.trans h.output, Nat.le_trans h.size k.size, fun j hj hx => (k.block j (Nat.lt_of_lt_of_le hj h.size) (h.more j hj hx)).trans (h.block j hj hx), fun j hj hx => k.more j (Nat.lt_of_lt_of_le hj h.size) (h.more j hj hx)⟩
theorem Fr.of {X : Nat → Prop} {W W' : World} (hb : Below W.heap.size W W') : Fr X X W W' := ⟨hb.os, hb.tape, hb.output, hb.size, fun k hk _ => hb.block k hk, fun _ _ h => h⟩
theorem Fr.next {X X' : Nat → Prop} {W W' W'' : World} (h : Fr X X' W W') (hb : Below W'.heap.size W' W'') : Fr X X' W W'' := h.trans (Fr.of hb)
theorem Fr.below {X X' : Nat → Prop} {n : Nat} {W W' : World} (h : Fr X X' W W') (hn : n ≤ W.heap.size) (hX : ∀ k, X k → n ≤ k) : Below n W W' :=
 ⟨h.os, h.tape, h.output, h.size, fun k hk => h.block k (Nat.lt_of_lt_of_le hk hn) (fun hx => by have := hX k hx; omega)⟩
theorem Cells.fr {L : List (Nat × Nat × Value)} {X X' : Nat → Prop} {W W' : World} (h : Cells L W) (hf : Fr X X' W W') (hx : ∀ q ∈ L, ¬ X q.1) : Cells L W' := by
 induction L with
 | nil => trivial
 | cons q l ih =>
  obtain ⟨b, o, v⟩ := q
  obtain ⟨⟨h1, h2, h3⟩, h4⟩ := h
  have e := hf.block b h1 (hx _ (List.mem_cons_self ..))
  exact ⟨⟨Nat.lt_of_lt_of_le h1 hf.size, (World.cell?_of_block (w := W) e).trans h2, (World.frozen?_of_block (w := W) e).trans h3⟩, ih h4 (fun q hq => hx q (List.mem_cons_of_mem _ hq))⟩
theorem cells_in {L : List (Nat × Nat × Value)} {W : World} (h : Cells L W) : ∀ q ∈ L, q.1 < W.heap.size := by
 induction L with
 | nil => intro q hq; cases hq
 | cons q l ih =>
  obtain ⟨⟨h1, _, _⟩, h4⟩ := h
  intro q' hq'
  rcases List.mem_cons.1 hq' with rfl | hq'
  ·exact h1
  ·exact ih h4 q' hq'
def KF (X : Nat → Prop) (w : World) (L : List (Nat × Nat × Value)) (X' : Nat → Prop) (W : World) : Prop := (Fr X X' w W ∧ ∀ q ∈ L, ¬ X' q.1) ∧ Cells L W
theorem KF.next {X X' : Nat → Prop} {w W W' : World} {L : List (Nat × Nat × Value)} (h : KF X w L X' W) (hb : Below W.heap.size W W') : KF X w L X' W' := ⟨⟨h.1.1.next hb, h.1.2⟩, h.2.next hb⟩
theorem KF.turn {X X' X'' : Nat → Prop} {w W W' : World} {L : List (Nat × Nat × Value)} (h : KF X w L X' W) (hf : Fr X' X'' W W') : KF X w L X'' W' :=
 ⟨⟨h.1.1.trans hf, fun q hq => hf.more q.1 (cells_in h.2 q hq) (h.1.2 q hq)⟩, Cells.fr h.2 hf h.1.2⟩
theorem KF.drew {X X' : Nat → Prop} {w W : World} {L : List (Nat × Nat × Value)} (h : KF X w L X' W) : KF X w L X' W.drew := h.next (Below.refl _ _).drew
theorem KF.app {X X' : Nat → Prop} {w W : World} {L M : List (Nat × Nat × Value)} (h : KF X w L X' W) (k : Cells M W) (hM : ∀ q ∈ M, ¬ X' q.1) : KF X w (L ++ M) X' W :=
 ⟨⟨h.1.1, fun q hq => (List.mem_append.1 hq).elim (h.1.2 q) (hM q)⟩, Cells.app h.2 k⟩
theorem KF.start {X : Nat → Prop} {w W : World} {L : List (Nat × Nat × Value)} (hb : Below w.heap.size w W) (h : Cells L W) (hx : ∀ q ∈ L, ¬ X q.1) : KF X w L X W := ⟨⟨Fr.of hb, hx⟩, h⟩
def KE (X : Nat → Prop) (w : World) (L : List (Nat × Nat × Value)) (W : World) : Prop := (∃ X', Fr X X' w W ∧ ∀ q ∈ L, ¬ X' q.1) ∧ Cells L W
theorem KE.next {X : Nat → Prop} {w W W' : World} {L : List (Nat × Nat × Value)} (h : KE X w L W) (hb : Below W.heap.size W W') : KE X w L W' := by
 obtain ⟨⟨X', h1, h2⟩, h3⟩ := h
 exact ⟨⟨X', h1.next hb, h2⟩, h3.next hb⟩
theorem KF.ke {X X' : Nat → Prop} {w W : World} {L : List (Nat × Nat × Value)} (h : KF X w L X' W) : KE X w L W := ⟨⟨X', h.1⟩, h.2⟩
theorem region_ke {P : Program} {ops : Array Oper} {Q : Exit → Act → World → Prop} {id : Nat} {a : Act} {w0 w : World} {X : Nat → Prop} {L : List (Nat × Nat × Value)} (hm : P.follows .mixedOrders = true)
  (hk : KE X w0 L w) (h : KE X w0 L w.drew → wpAnyH P .any ops Q (KE X w0 L) ops.size (Array.replicate ops.size false) a w.drew) : (Code.region id ops true).wp P Q a w :=
 wp_region_held_drew (S := KE X w0 L) hm (hk.next (Below.refl _ _).drew) h

structure Laying where
 St : List Int → (Nat → Prop) → World → Prop
 next : ∀ {l X W W'}, St l X W → Below W.heap.size W W' → St l X W'
 small : ∀ {l X W}, St l X W → ∀ k, X k → k < W.heap.size
def Did (S : Laying) (X : Nat → Prop) (W : World) (l : List Int) (e : Ending) (w' : World) : Prop := (∃ u, e = .returned u) ∧ ∃ X', Fr X X' W w' ∧ S.St l X' w'
def Takes (fn : Nat) (cap : Value) (S : Laying) : Prop := ∀ l b X v W, l.length ≤ 100000 → 1 ≤ b.length ∧ b.length ≤ 10 → S.St l X W → Reads .u8 W v b → Calls Tryz.prog fn #[v, cap] W (Did S X W (l ++ b))
def Lays (fn : Nat) (la : Value) (f : Int → List Int) (ok : Int → Prop) (S : Laying) : Prop := ∀ l z X W, l.length ≤ 100000 → ok z → S.St l X W → Calls Tryz.prog fn #[la, .int .i64 z] W (Did S X W (l ++ f z))
abbrev layV (k : Int) (v : Value) (a r n d : Int) (u : Value) (e : Int) (t : Value) : Value := .agg #[.int .i64 k, v, .int .i64 a, .int .i64 r, .int .i64 n, .int .i64 d, u, .int .i64 e, t]
abbrev layO (k : Int) (v : Value) (a r n d : Int) (u : Value) (e : Int) (t : Value) : Obj := .cells #[.int .i64 k, v, .int .i64 a, .int .i64 r, .int .i64 n, .int .i64 d, u, .int .i64 e, t] 212
def uBytes (z : Int) : List Int := digs z.toNat
def sBytes (z : Int) : List Int := digs (Lib.zigzag z)
def uOk (z : Int) : Prop := 0 ≤ z ∧ z ≤ 9223372036854775807
def sOk (z : Int) : Prop := -9223372036854775808 ≤ z ∧ z ≤ 9223372036854775807
theorem uBytes_len {z : Int} (h : uOk z) : 1 ≤ (uBytes z).length ∧ (uBytes z).length ≤ 10 := digs_ten (by have := h.1; have := h.2; omega)
theorem sBytes_len {z : Int} (h : sOk z) : 1 ≤ (sBytes z).length ∧ (sBytes z).length ≤ 10 := digs_ten (by have := h.1; have := h.2; unfold Lib.zigzag; split <;> omega)
theorem made_sl {w : World} {l : List Int} {e : Ending} {w' : World} (h : MadeB w l e w') : ∃ A n c, e = .returned (.slice A n c) ∧ Below w.heap.size w w' ∧ Reads .u8 w' (.slice A n c) l := by
 obtain ⟨v, he, hb, ho⟩ := h
 have hr := reads_own (k := .u8) ho
 have hr2 := hr
 obtain ⟨A, c, rfl, _⟩ := hr2
 exact ⟨A, _, c, he, hb, hr⟩
set_option maxRecDepth 100000 in
theorem plain_lays (S : Laying) (fn : Nat) (cap : Value) (eK : ∀ args w, (callFunc fn args).run Tryz.prog w = .ok (.enter fn args) w) (hT : Takes fn cap S) (k : Int) (v : Value) (a r n d : Int) (u : Value) (e : Int) : Lays 149 (layV k v a r n d u e (.func (.func fn) #[] #[cap])) uBytes uOk S := by
 intro l z X W hl hz hS
 have hw : IntKind.u64.wrap z = (z.toNat : Int) := by
  rw [IntKind.wrap_u64]
  have := hz.1
  have := hz.2
  omega
 have PU : ∀ W', Calls Tryz.prog 185 #[.slice none 0 0, .int .u64 (IntKind.u64.wrap z)] W' (MadeB W' (digs z.toNat)) := fun W' => by
  rw [hw]
  exact putU_any [] (by simp) z.toNat (by have := hz.1; have := hz.2; omega) (.slice none 0 0) W' Reads.nil
 clear hw
 have hlen := uBytes_len hz
 unfold Takes at hT
 have HT := Lib.hid hT
 have hsm := S.small hS
 unfold uBytes at hlen ⊢
 have hK0 : KF X W [(W.heap.size, 0, .int .i64 k), (W.heap.size, 1, v), (W.heap.size, 2, .int .i64 a), (W.heap.size, 3, .int .i64 r), (W.heap.size, 4, .int .i64 n), (W.heap.size, 5, .int .i64 d), (W.heap.size, 6, u), (W.heap.size, 7, .int .i64 e), (W.heap.size, 8, .func (.func fn) #[] #[cap])] X (W.alloc (layO k v a r n d u e (.func (.func fn) #[] #[cap]))) := KF.start (below_alloc W _) (by simp [Cells, go_sem]) (by
  have h0 : ¬ X W.heap.size := fun hx => by have := hsm _ hx; omega
  simp [h0])
 have hS0 := S.next (S.next hS (below_alloc W (layO k v a r n d u e (.func (.func fn) #[] #[cap])))) (Below.refl _ _).drew
 have hF := hK0.drew
 clear hS hT hsm
 go_enter Tryz.func149, Tryz.ntmps149
 go_upto_region 1 with (fail)
 generalize W.alloc (layO k v a r n d u e (.func (.func fn) #[] #[cap])) = w0 at *
 refine region_ke (X := X) (w0 := W) (L := [(W.heap.size, 0, .int .i64 k), (W.heap.size, 1, v), (W.heap.size, 2, .int .i64 a), (W.heap.size, 3, .int .i64 r), (W.heap.size, 4, .int .i64 n), (W.heap.size, 5, .int .i64 d), (W.heap.size, 6, u), (W.heap.size, 7, .int .i64 e), (W.heap.size, 8, .func (.func fn) #[] #[cap])]) (by kernel_rfl) hK0.ke (fun hHeld0 => ?_)
 refine tv 0 4 rfl rfl ?_
 try go_frame
 refine tk 1 5 rfl rfl ?_ ?_ ?_
 rotate_left
 ·intro wq hSw; obtain ⟨⟨_,_,_⟩,⟨_,_,_⟩,⟨_,_,_⟩,⟨_,_,_⟩,⟨_,_,_⟩,⟨_,_,_⟩,⟨_,_,_⟩,⟨_,_,_⟩,⟨_,_,_⟩,_⟩ := hSw.2; go_simp; (try with_reducible rfl)
 try go_frame
 refine tv 2 6 rfl rfl ?_
 try go_frame
 refine tv 3 7 rfl rfl ?_
 try go_frame
 refine ty [4] ?_
 refine AllReadyH.cons rfl (fun K hK => ?_) AllReadyH.nil
 go_simp
 ((with_reducible refine (PU _).mono ?_); rintro e w2 hq; obtain ⟨A2, n2, c2, rfl, hb, hr2⟩ := made_sl hq; clear hq; replace hS0 := S.next hS0 hb; replace hF := hF.next hb)
 refine hK.out _ _ (hHeld0.next hb) (fun hHeld1 => ?_)
 clear hK K; try clear hb
 try go_frame
 refine ty [5] ?_
 refine AllReadyH.cons rfl (fun K hK => ?_) AllReadyH.nil
 go_simp
 ((with_reducible refine (HT.out _ _ _ _ _ hl hlen hS0 hr2).mono ?_); rintro e w3 ⟨⟨uu, rfl⟩, X', hf, hS3⟩; have hfr := hF.1.1.trans hf; have hF3 := (hF.turn hf).ke)
 refine hK.out _ _ (hF3) (fun hHeld2 => ?_)
 clear hK K; try clear hb
 try go_frame
 refine wpAnyH_done (by kernel_rfl) ?_ _
 have hHeld := hHeld2
 obtain ⟨⟨_,_,_⟩,⟨_,_,_⟩,⟨_,_,_⟩,⟨_,_,_⟩,⟨_,_,_⟩,⟨_,_,_⟩,⟨_,_,_⟩,⟨_,_,_⟩,⟨_,_,_⟩,_⟩ := hHeld.2
 all_goals
  go_wp2_with fail
  go_returns
  exact ⟨⟨_, rfl⟩, X', hfr, hS3⟩
set_option maxRecDepth 100000 in
theorem signed_lays (S : Laying) (fn : Nat) (cap : Value) (eK : ∀ args w, (callFunc fn args).run Tryz.prog w = .ok (.enter fn args) w) (hT : Takes fn cap S) (k : Int) (v : Value) (a r n d : Int) (u : Value) (e : Int) : Lays 187 (layV k v a r n d u e (.func (.func fn) #[] #[cap])) sBytes sOk S := by
 intro l z X W hl hz hS
 have PU : ∀ W', Calls Tryz.prog 212 #[.slice none 0 0, .int .i64 z] W' (MadeB W' (digs (Lib.zigzag z))) := fun W' => put_any [] (by simp) z hz.1 hz.2 (.slice none 0 0) W' Reads.nil
 have hlen := sBytes_len hz
 unfold Takes at hT
 have HT := Lib.hid hT
 have hsm := S.small hS
 unfold sBytes at hlen ⊢
 have hK0 : KF X W [(W.heap.size, 0, .int .i64 k), (W.heap.size, 1, v), (W.heap.size, 2, .int .i64 a), (W.heap.size, 3, .int .i64 r), (W.heap.size, 4, .int .i64 n), (W.heap.size, 5, .int .i64 d), (W.heap.size, 6, u), (W.heap.size, 7, .int .i64 e), (W.heap.size, 8, .func (.func fn) #[] #[cap])] X (W.alloc (layO k v a r n d u e (.func (.func fn) #[] #[cap]))) := KF.start (below_alloc W _) (by simp [Cells, go_sem]) (by
  have h0 : ¬ X W.heap.size := fun hx => by have := hsm _ hx; omega
  simp [h0])
 have hS0 := S.next (S.next hS (below_alloc W (layO k v a r n d u e (.func (.func fn) #[] #[cap])))) (Below.refl _ _).drew
 have hF := hK0.drew
 clear hS hT hsm
 go_enter Tryz.func187, Tryz.ntmps187
 go_upto_region 1 with (fail)
 generalize W.alloc (layO k v a r n d u e (.func (.func fn) #[] #[cap])) = w0 at *
 refine region_ke (X := X) (w0 := W) (L := [(W.heap.size, 0, .int .i64 k), (W.heap.size, 1, v), (W.heap.size, 2, .int .i64 a), (W.heap.size, 3, .int .i64 r), (W.heap.size, 4, .int .i64 n), (W.heap.size, 5, .int .i64 d), (W.heap.size, 6, u), (W.heap.size, 7, .int .i64 e), (W.heap.size, 8, .func (.func fn) #[] #[cap])]) (by kernel_rfl) hK0.ke (fun hHeld0 => ?_)
 refine tv 0 4 rfl rfl ?_
 try go_frame
 refine tk 1 5 rfl rfl ?_ ?_ ?_
 rotate_left
 ·intro wq hSw; obtain ⟨⟨_,_,_⟩,⟨_,_,_⟩,⟨_,_,_⟩,⟨_,_,_⟩,⟨_,_,_⟩,⟨_,_,_⟩,⟨_,_,_⟩,⟨_,_,_⟩,⟨_,_,_⟩,_⟩ := hSw.2; go_simp; (try with_reducible rfl)
 try go_frame
 refine tv 2 6 rfl rfl ?_
 try go_frame
 refine ty [3] ?_
 refine AllReadyH.cons rfl (fun K hK => ?_) AllReadyH.nil
 go_simp
 ((with_reducible refine (PU _).mono ?_); rintro e w2 hq; obtain ⟨A2, n2, c2, rfl, hb, hr2⟩ := made_sl hq; clear hq; replace hS0 := S.next hS0 hb; replace hF := hF.next hb)
 refine hK.out _ _ (hHeld0.next hb) (fun hHeld1 => ?_)
 clear hK K; try clear hb
 try go_frame
 refine ty [4] ?_
 refine AllReadyH.cons rfl (fun K hK => ?_) AllReadyH.nil
 go_simp
 ((with_reducible refine (HT.out _ _ _ _ _ hl hlen hS0 hr2).mono ?_); rintro e w3 ⟨⟨uu, rfl⟩, X', hf, hS3⟩; have hfr := hF.1.1.trans hf; have hF3 := (hF.turn hf).ke)
 refine hK.out _ _ (hF3) (fun hHeld2 => ?_)
 clear hK K; try clear hb
 try go_frame
 refine wpAnyH_done (by kernel_rfl) ?_ _
 have hHeld := hHeld2
 obtain ⟨⟨_,_,_⟩,⟨_,_,_⟩,⟨_,_,_⟩,⟨_,_,_⟩,⟨_,_,_⟩,⟨_,_,_⟩,⟨_,_,_⟩,⟨_,_,_⟩,⟨_,_,_⟩,_⟩ := hHeld.2
 all_goals
  go_wp2_with fail
  go_returns
  exact ⟨⟨_, rfl⟩, X', hfr, hS3⟩
set_option maxRecDepth 100000 in
theorem each_any (S : Laying) (fn : Nat) (la : Value) (eK : ∀ args w, (callFunc fn args).run Tryz.prog w = .ok (.enter fn args) w) (f : Int → List Int) (ok : Int → Prop) (hL : Lays fn la f ok S) (hf10 : ∀ z, ok z → (f z).length ≤ 10)
  (zs : List Int) (hz : ∀ z ∈ zs, ok z) (l : List Int) (hl : l.length + 10 * zs.length ≤ 100000) (X : Nat → Prop) (uv : Value) (W : World) (hr : Reads .i64 W uv zs) (hx : ∀ A n c, uv = .slice (some A) n c → ¬ X A.block) (hS : S.St l X W) :
  Calls Tryz.prog 148 #[.func (.func fn) #[la] #[], uv] W (Did S X W (l ++ zs.flatMap f)) := by
 obtain ⟨A, c, rfl, hc, hk⟩ := hr
 have HK := Lib.hid (show ∀ j z, zs[j]? = some z → ∃ bb off, A = some ⟨bb, off, none⟩ ∧ bb < W.heap.size ∧ ¬ X bb ∧ W.cell? ⟨bb, off + j, none⟩ = some (.int .i64 z) from fun j z hj => by
  obtain ⟨bb, off, e1, e2, e3⟩ := hk j z hj
  exact ⟨bb, off, e1, e2, hx _ _ _ (by rw [e1]), e3⟩)
 unfold Lays at hL
 have HL := Lib.hid hL
 have HZ := Lib.hid hz
 have HF := Lib.hid hf10
 have H0 := Lib.hid (show Fr X X W W ∧ S.St (l ++ (zs.take 0).flatMap f) X W from ⟨Fr.refl X W, by simpa using hS⟩)
 clear hk hx hL hz hf10 hS hc
 go_enter Tryz.func148, Tryz.ntmps148
 go_wp2_with fail
 go_loopw [8] (fun i wr => ∃ (k : Nat) (X' : Nat → Prop), i = .int .i64 k ∧ k ≤ zs.length ∧ Hid (Fr X X' W wr ∧ S.St (l ++ (zs.take k).flatMap f) X' wr)) (fun i => fun _ => zs.length - (intOf i).toNat)
 case atStart => exact ⟨0, X, rfl, Nat.zero_le _, H0⟩
 case round =>
  obtain ⟨k, X', rfl, hkl, HI⟩ := hrel
  clear H0
  by_cases hlt : k < zs.length
  ·obtain ⟨z, hzk⟩ : ∃ z, zs[k]? = some z := ⟨_, List.getElem?_eq_getElem hlt⟩
   obtain ⟨bb, off, rfl, hbw, hxb, hc1⟩ := HK.out k z hzk
   have hfr := HI.out.1
   have c1 := (World.cell?_of_block (w := W) (w' := wr) (a := ⟨bb, off + k, none⟩) (hfr.block bb hbw hxb)).trans hc1
   have i1 : (k : Int) < (zs.length : Int) := by omega
   have i0 : (0 : Int) ≤ (k : Int) := by omega
   have hok := HZ.out z (List.mem_of_getElem? hzk)
   have hln : (l ++ (zs.take k).flatMap f).length ≤ 100000 := by
    have : ∀ ys : List Int, (∀ y ∈ ys, ok y) → (ys.flatMap f).length ≤ 10 * ys.length := by
     intro ys
     induction ys with
     | nil => intro _; simp
     | cons y ys ih =>
      intro hy
      have h1 := HF.out y (hy y (List.mem_cons_self ..))
      have h2 := ih (fun q hq => hy q (List.mem_cons_of_mem _ hq))
      simp only [List.flatMap_cons, List.length_append, List.length_cons]
      omega
    have h3 := this (zs.take k) (fun y hy => HZ.out y (List.mem_of_mem_take hy))
    rw [List.length_take] at h3
    rw [List.length_append]
    omega
   have CL := Lib.hid (HL.out _ z X' wr hln hok HI.out.2)
   have hE : Hid (l ++ (zs.take (k + 1)).flatMap f = (l ++ (zs.take k).flatMap f) ++ f z) := Lib.hid (by rw [List.take_add_one, hzk]; simp)
   have HFR := Lib.hid hfr
   have tl : zs.length - (k + 1) < zs.length - k := by omega
   replace tl := Lib.hid tl
   have hk1 : k + 1 ≤ zs.length := hlt
   clear hzk hc1 hfr hok hln HI
   go_wp2_with fail
   refine CL.out.mono ?_
   rintro e w1 ⟨⟨uu, rfl⟩, X2, hf2, hS2⟩
   have HN := Lib.hid (show Fr X X2 W w1 ∧ S.St (l ++ (zs.take (k + 1)).flatMap f) X2 w1 from ⟨HFR.out.trans hf2, by rw [hE.out]; exact hS2⟩)
   clear hf2 hS2 CL hE HFR
   go_wp2_with fail
   go_roundw
   case rel => exact ⟨k + 1, X2, by simp, hk1, HN⟩
   case measure => first | exact tl.out | (simp [intOf]; have := tl.out; omega)
  ·have i1 : ¬ (k : Int) < (zs.length : Int) := by omega
   have e5 : k = zs.length := by omega
   have HN := Lib.hid (show Fr X X' W wr ∧ S.St (l ++ zs.flatMap f) X' wr from ⟨HI.out.1, by have := HI.out.2; rwa [e5, List.take_length] at this⟩)
   clear HI e5
   go_wp2_with fail
   go_returns
   exact ⟨⟨_, rfl⟩, X', HN.out.1, HN.out.2⟩
end Go.Proofs.YtcfidimnbamnkaaGreat.P12

/-
 Layer 12: the runs of a segment, laid. Conditions: those written at each fact.
-/
namespace Go.Proofs.YtcfidimnbamnkaaGreat.P12
open Go.RowKit Go.Shelf Go.Proofs.YtcfidimnbamnkaaGreat.P2 Go.Proofs.YtcfidimnbamnkaaGreat.P7 Go.Proofs.YtcfidimnbamnkaaGreat.P11

def lastN (r : Rn) : Int := r.f + (r.c - 1) * r.s
def encR : Int → List Rn → List Int
 | _, [] => []
 | a, r :: l => uBytes (r.f - a) ++ (uBytes r.c ++ (if r.c = 1 then [] else uBytes r.s ++ encR (lastN r) l))
def Goes : Int → List Rn → Prop
 | _, [] => True
 | a, r :: l => RunOk r ∧ 0 ≤ a ∧ a ≤ r.f ∧ (r.c = 1 → l = []) ∧ Goes (lastN r) l
theorem goes_of : ∀ (l : List Rn) (p : Option Rn) (n a : Int), 0 ≤ n → restB p n l = true → 0 ≤ a → (p = none → a = 0) → (∀ q, p = some q → a = lastN q) → Goes a l
 | [], _, _, _, _, _, _, _, _ => trivial
 | r :: l, p, n, a, hn, h, ha, hp0, hp => by
  simp only [restB, Bool.and_eq_true] at h
  obtain ⟨h1, h2, h3⟩ := h
  have hr := runB_ok (by omega) h1
  have hla : 0 ≤ lastN r := by
   unfold lastN
   have := Int.mul_nonneg (show 0 ≤ r.c - 1 by have := hr.1; omega) hr.2.2.2.1
   have := hr.2.2.1
   omega
  refine ⟨hr, ha, ?_, fun h1c => ?_, goes_of l (some r) (n + r.c) (lastN r) (by have := hr.1; omega) h3 hla (fun e => nomatch e) (fun q e => by cases e; rfl)⟩
  ·cases p with
   | none => rw [hp0 rfl]; exact hr.2.2.1
   | some q =>
    simp only [behindB, Bool.and_eq_true, decide_eq_true_eq] at h2
    rw [hp q rfl]
    unfold lastN
    omega
  ·cases l with
   | nil => rfl
   | cons r2 l2 =>
    simp only [restB, Bool.and_eq_true, behindB, decide_eq_true_eq] at h3
    omega
theorem goes_ok {R : List Rn} (h : okB R = true) : Goes 0 R := by
 unfold okB at h
 rw [Bool.and_eq_true] at h
 exact goes_of R none 0 0 (Int.le_refl _) h.2 (Int.le_refl _) (fun _ => rfl) (fun q e => nomatch e)
theorem lastN_le {r : Rn} (h : RunOk r) : 0 ≤ lastN r ∧ lastN r ≤ 281474976710656 ∧ wrap64 (r.f + wrap64 (wrap64 (r.c - 1) * r.s)) = lastN r := by
 obtain ⟨h1, h2, h3, h4, h5, h6, h7⟩ := h
 have h8 := Int.mul_nonneg (show 0 ≤ r.c - 1 by omega) h4
 have e1 : wrap64 (r.c - 1) = r.c - 1 := i64_keeps (by omega) (by omega)
 rw [e1]
 generalize hm : (r.c - 1) * r.s = m at *
 have e2 : wrap64 m = m := i64_keeps (by omega) (by omega)
 rw [e2]
 unfold lastN
 rw [hm]
 exact ⟨by omega, by omega, i64_keeps (by omega) (by omega)⟩
theorem last_any (r : Rn) (h : RunOk r) (w : World) : Calls Tryz.prog 186 #[runV r] w (Ret w (.int .i64 (lastN r))) := by
 obtain ⟨_, _, e⟩ := lastN_le h
 have HE := Lib.hid e
 obtain ⟨f, s, c⟩ := r
 clear e h
 simp only at HE ⊢
 generalize lastN ⟨f, s, c⟩ = z at *
 go_enter Tryz.func186, Tryz.ntmps186
 go_wp2_with fail
 go_ret
 exact ⟨by rw [← HE.out]; rfl, by go_grown⟩
theorem encR_len : ∀ (l : List Rn) (a : Int), Goes a l → (encR a l).length ≤ 30 * l.length
 | [], _, _ => by simp [encR]
 | r :: l, a, h => by
  obtain ⟨hr, ha, haf, h1, hg⟩ := h
  have ih := encR_len l (lastN r) hg
  have b1 := (uBytes_len (z := r.f - a) ⟨by omega, by have := hr.2.2.2.2.2.2; omega⟩).2
  have b2 := (uBytes_len (z := r.c) ⟨by have := hr.1; omega, by have := hr.2.1; omega⟩).2
  have b3 := (uBytes_len (z := r.s) ⟨hr.2.2.2.1, by have := hr.2.2.2.2.1; omega⟩).2
  rw [encR]
  split
  ·simp only [List.length_append, List.length_nil, List.length_cons]; omega
  ·simp only [List.length_append, List.length_cons]; omega
theorem reads_two {w : World} {y z : Int} : Reads .i64 (w.alloc (.cells #[.int .i64 y, .int .i64 z] 2)) (.slice (some ⟨w.heap.size, 0, none⟩) 2 2) [y, z] := by
 refine ⟨_, _, rfl, Nat.le_refl _, fun i x hi => ⟨w.heap.size, 0, rfl, by simp, ?_⟩⟩
 match i, hi with
 | 0, hi => simp at hi; subst hi; simp [go_sem]
 | 1, hi => simp at hi; subst hi; simp [go_sem]
 | i + 2, hi => simp at hi
theorem cells_left : ∀ {L M : List (Nat × Nat × Value)} {W : World}, Cells (L ++ M) W → Cells L W
 | [], _, _, _ => trivial
 | _ :: _, _, _, h => ⟨h.1, cells_left h.2⟩
theorem KF.left {X X' : Nat → Prop} {w W : World} {L M : List (Nat × Nat × Value)} (h : KF X w (L ++ M) X' W) : KF X w L X' W := ⟨⟨h.1.1, fun q hq => h.1.2 q (List.mem_append_left _ hq)⟩, cells_left h.2⟩
set_option maxRecDepth 100000 in
set_option maxHeartbeats 4000000 in
theorem lruns_any (S : Laying) (fn : Nat) (cap : Value) (eK : ∀ args w, (callFunc fn args).run Tryz.prog w = .ok (.enter fn args) w) (hT : Takes fn cap S) (R : List Rn) (hG : Goes 0 R) (_ : R.length ≤ 256)
  (k : Int) (v : Value) (a r n d : Int) (u : Value) (e : Int) (l : List Int) (X : Nat → Prop) (W : World) (hl : l.length + 30 * R.length ≤ 90000) (hr : ReadsR W v R) (hx : ∀ A n c, v = .slice (some A) n c → ¬ X A.block) (hS : S.St l X W) :
  Calls Tryz.prog 150 #[layV k v a r n d u e (.func (.func fn) #[] #[cap])] W (Did S X W (l ++ encR 0 R)) := by
 have PL := Lib.hid (plain_lays S fn cap eK hT k v a r n d u e)
 have EA := Lib.hid (fun y z (hy : uOk y) (hz : uOk z) l X W (hl : l.length + 20 ≤ 100000) (hS : S.St l X W) => each_any S 149 (layV k v a r n d u e (.func (.func fn) #[] #[cap])) (enters_of Tryz.func149 (by kernel_rfl) rfl) uBytes uOk (plain_lays S fn cap eK hT k v a r n d u e) (fun z hz => (uBytes_len hz).2) [y, z] (by simp [hy, hz]) l (by simpa using hl) X (.slice (some ⟨W.heap.size, 0, none⟩) 2 2) (W.alloc (.cells #[.int .i64 y, .int .i64 z] 2)) reads_two (fun A n c e => by cases e; exact fun hx => Nat.lt_irrefl _ (S.small hS _ hx)) (S.next hS (below_alloc W _)))
 obtain ⟨A, cA, rfl, hc, hk⟩ := hr
 have HK := Lib.hid (show ∀ j q, R[j]? = some q → ∃ bb off, A = some ⟨bb, off, none⟩ ∧ bb < W.heap.size ∧ ¬ X bb ∧ W.cell? ⟨bb, off + j * 3, none⟩ = some (.int .i64 q.f) ∧ W.cell? ⟨bb, off + j * 3 + 1, none⟩ = some (.int .i64 q.s) ∧ W.cell? ⟨bb, off + j * 3 + 2, none⟩ = some (.int .i64 q.c) from fun j q hj => by
  obtain ⟨bb, off, e1, e2, e3, e4, e5⟩ := hk j q hj
  exact ⟨bb, off, e1, e2, hx _ _ _ (by rw [e1]), e3, e4, e5⟩)
 clear hk hx
 have hsm := S.small hS
 have hK0 : KF X W [(W.heap.size, 0, .int .i64 k), (W.heap.size, 1, .slice A R.length cA), (W.heap.size, 2, .int .i64 a), (W.heap.size, 3, .int .i64 r), (W.heap.size, 4, .int .i64 n), (W.heap.size, 5, .int .i64 d), (W.heap.size, 6, u), (W.heap.size, 7, .int .i64 e), (W.heap.size, 8, .func (.func fn) #[] #[cap])] X (W.alloc (layO k (.slice A R.length cA) a r n d u e (.func (.func fn) #[] #[cap]))) := KF.start (below_alloc W _) (by simp [Cells, go_sem]) (by
  have h0 : ¬ X W.heap.size := fun hx => by have := hsm _ hx; omega
  simp [h0])
 have H0 := Lib.hid (show KF X W [(W.heap.size, 0, .int .i64 k), (W.heap.size, 1, .slice A R.length cA), (W.heap.size, 2, .int .i64 a), (W.heap.size, 3, .int .i64 r), (W.heap.size, 4, .int .i64 n), (W.heap.size, 5, .int .i64 d), (W.heap.size, 6, u), (W.heap.size, 7, .int .i64 e), (W.heap.size, 8, .func (.func fn) #[] #[cap])] X (W.alloc (layO k (.slice A R.length cA) a r n d u e (.func (.func fn) #[] #[cap]))) ∧ S.St (l ++ []) X (W.alloc (layO k (.slice A R.length cA) a r n d u e (.func (.func fn) #[] #[cap]))) ∧ encR 0 R = [] ++ encR 0 (R.drop 0) ∧ Goes 0 (R.drop 0) from ⟨hK0, by rw [List.append_nil]; exact S.next hS (below_alloc W _), rfl, hG⟩)
 have HLN := Lib.hid (encR_len R 0 hG)
 clear hK0 hS hsm hG hT
 go_enter Tryz.func150, Tryz.ntmps150
 go_wp2_with fail
 go_step3
 go_wp2_with fail
 go_step3
 go_wp2_with fail
 generalize hw0 : W.alloc (.cells #[.int .i64 k, .slice A R.length cA, .int .i64 a, .int .i64 r, .int .i64 n, .int .i64 d, u, .int .i64 e, .func (.func fn) #[] #[cap]] 212) = w0 at *
 have H1 := H0
 clear hw0 H0
 go_loopw [2, 9] (fun s2 i wr => ∃ (j : Nat) (ah : Int) (X' : Nat → Prop) (done : List Int), s2 = .int .i64 ah ∧ i = .int .i64 j ∧ j ≤ R.length ∧ Hid (KF X W [(W.heap.size, 0, .int .i64 k), (W.heap.size, 1, .slice A R.length cA), (W.heap.size, 2, .int .i64 a), (W.heap.size, 3, .int .i64 r), (W.heap.size, 4, .int .i64 n), (W.heap.size, 5, .int .i64 d), (W.heap.size, 6, u), (W.heap.size, 7, .int .i64 e), (W.heap.size, 8, .func (.func fn) #[] #[cap])] X' wr ∧ S.St (l ++ done) X' wr ∧ encR 0 R = done ++ encR ah (R.drop j) ∧ Goes ah (R.drop j))) (fun _ i => fun _ => R.length - (intOf i).toNat)
 case atStart => exact ⟨0, 0, X, [], rfl, rfl, Nat.zero_le _, H1⟩
 case round =>
  clear H1
  obtain ⟨j, ah, X', done, rfl, rfl, hjl, HI⟩ := hrel
  by_cases hlt : j < R.length
  ·obtain ⟨q, hq⟩ : ∃ q, R[j]? = some q := ⟨_, List.getElem?_eq_getElem hlt⟩
   obtain ⟨bb, off, rfl, hbw, hxb, c1, c2, c3⟩ := HK.out j q hq
   obtain ⟨hKF, hSt, hE, hGo⟩ := HI.out
   have hdrop : R.drop j = q :: R.drop (j + 1) := by
    rw [List.drop_eq_getElem_cons hlt]
    congr 1
    have := List.getElem?_eq_getElem hlt
    rw [hq] at this
    injection this with this
    exact this.symm
   rw [hdrop] at hE hGo
   obtain ⟨hok, ha0, haf, hc1, hGn⟩ := hGo
   have hbk := hKF.1.1.block bb hbw hxb
   have d1 := (World.cell?_of_block (w := W) (w' := wr) (a := ⟨bb, off + j * 3, none⟩) hbk).trans c1
   have d2 := (World.cell?_of_block (w := W) (w' := wr) (a := ⟨bb, off + j * 3 + 1, none⟩) hbk).trans c2
   have d3 := (World.cell?_of_block (w := W) (w' := wr) (a := ⟨bb, off + j * 3 + 2, none⟩) hbk).trans c3
   have hlen : (l ++ done).length + 60 ≤ 100000 := by
    have h1 := HLN.out
    rw [hE] at h1
    simp only [List.length_append] at h1 ⊢
    omega
   have hk1 := hok
   obtain ⟨f, s, c⟩ := q
   obtain ⟨o1, o2, o3, o4, o5, o6, o7⟩ := hk1
   simp only at d1 d2 d3 o1 o2 o3 o4 o5 o6 o7 haf hc1
   have e1 : wrap64 (f - ah) = f - ah := i64_keeps (by omega) (by omega)
   have i1 : (j : Int) < (R.length : Int) := by omega
   have i0 : (0 : Int) ≤ (j : Int) := by omega
   have ub1 := uBytes_len (z := f - ah) ⟨by omega, by omega⟩
   have ub2 := uBytes_len (z := c) ⟨by omega, by omega⟩
   have ub3 := uBytes_len (z := s) ⟨by omega, by omega⟩
   have C1 := Lib.hid (EA.out (f - ah) c ⟨by omega, by omega⟩ ⟨by omega, by omega⟩ (l ++ done) X' (wr.alloc (.cells #[.int .i64 f, .int .i64 s, .int .i64 c] 44)) (by omega) (S.next hSt (below_alloc _ _)))
   have hnx : ¬ X' wr.heap.size := fun hx => Nat.lt_irrefl _ (S.small hSt _ hx)
   have hKr : KF X W ([(W.heap.size, 0, .int .i64 k), (W.heap.size, 1, .slice (some ⟨bb, off, none⟩) R.length cA), (W.heap.size, 2, .int .i64 a), (W.heap.size, 3, .int .i64 r), (W.heap.size, 4, .int .i64 n), (W.heap.size, 5, .int .i64 d), (W.heap.size, 6, u), (W.heap.size, 7, .int .i64 e), (W.heap.size, 8, .func (.func fn) #[] #[cap])] ++ [(wr.heap.size, 0, .int .i64 f), (wr.heap.size, 1, .int .i64 s), (wr.heap.size, 2, .int .i64 c)]) X' (wr.alloc (.cells #[.int .i64 f, .int .i64 s, .int .i64 c] 44)) := (hKF.next (below_alloc _ _)).app (by simp [Cells, go_sem]) (by simp [hnx])
   have HKr := Lib.hid hKr
   have HE := Lib.hid hE
   have HGn := Lib.hid hGn
   have LA := Lib.hid (fun W => last_any ⟨f, s, c⟩ hok W)
   have hd2 : R.drop (j + 1) = (R.drop j).tail := by rw [hdrop]; rfl
   have PS := Lib.hid (fun l' X2 W2 (h1 : l'.length ≤ 100000) (h2 : S.St l' X2 W2) => PL.out l' s X2 W2 h1 ⟨by omega, by omega⟩ h2)
   clear hE hGn c1 c2 c3 hbk hdrop hd2 hq HI hok hKr
   go_upto_region 5 with (fail)
   generalize hw2 : wr.alloc (.cells #[.int .i64 f, .int .i64 s, .int .i64 c] 44) = w2 at *
   clear hw2 hKF hSt
   obtain ⟨⟨kz0,kc0,kf0⟩,⟨kz1,kc1,kf1⟩,⟨kz2,kc2,kf2⟩,⟨kz3,kc3,kf3⟩,⟨kz4,kc4,kf4⟩,⟨kz5,kc5,kf5⟩,⟨kz6,kc6,kf6⟩,⟨kz7,kc7,kf7⟩,⟨kz8,kc8,kf8⟩,⟨kz9,kc9,kf9⟩,⟨kz10,kc10,kf10⟩,⟨kz11,kc11,kf11⟩,_⟩ := HKr.out.2
   by_cases hc : c = 1
   ·subst hc
    go_wp2_with fail
    refine C1.out.mono ?_
    rintro en w3 ⟨⟨uu, rfl⟩, X2, hf2, hS2⟩
    have hK3 := (HKr.out.next (below_alloc w2 _)).turn hf2
    have HS := Lib.hid (show Fr X X2 W w3 ∧ S.St (l ++ encR 0 R) X2 w3 from ⟨hK3.1.1, by
     rw [HE.out, encR, if_pos rfl, ← List.append_assoc]
     simpa using hS2⟩)
    (try clear kz0 kc0 kf0); (try clear kz1 kc1 kf1); (try clear kz2 kc2 kf2); (try clear kz3 kc3 kf3); (try clear kz4 kc4 kf4); (try clear kz5 kc5 kf5); (try clear kz6 kc6 kf6); (try clear kz7 kc7 kf7); (try clear kz8 kc8 kf8); (try clear kz9 kc9 kf9); (try clear kz10 kc10 kf10); (try clear kz11 kc11 kf11)
    (try clear kz8 kc8 kf8); (try clear kz9 kc9 kf9); (try clear kz10 kc10 kf10); (try clear kz11 kc11 kf11)
    clear hf2 hS2 C1 HKr
    obtain ⟨⟨kz0,kc0,kf0⟩,⟨kz1,kc1,kf1⟩,⟨kz2,kc2,kf2⟩,⟨kz3,kc3,kf3⟩,⟨kz4,kc4,kf4⟩,⟨kz5,kc5,kf5⟩,⟨kz6,kc6,kf6⟩,⟨kz7,kc7,kf7⟩,⟨kz8,kc8,kf8⟩,⟨kz9,kc9,kf9⟩,⟨kz10,kc10,kf10⟩,⟨kz11,kc11,kf11⟩,_⟩ := hK3.2
    go_wp2_with fail
    go_returns
    exact ⟨⟨_, rfl⟩, X2, HS.out.1, HS.out.2⟩
   ·have t1 : (c == 1) = false := by simpa using hc
    go_wp2_with fail
    refine C1.out.mono ?_
    rintro en w3 ⟨⟨uu, rfl⟩, X2, hf2, hS2⟩
    have hK3 := (HKr.out.next (below_alloc w2 _)).turn hf2
    (try clear kz0 kc0 kf0); (try clear kz1 kc1 kf1); (try clear kz2 kc2 kf2); (try clear kz3 kc3 kf3); (try clear kz4 kc4 kf4); (try clear kz5 kc5 kf5); (try clear kz6 kc6 kf6); (try clear kz7 kc7 kf7); (try clear kz8 kc8 kf8); (try clear kz9 kc9 kf9); (try clear kz10 kc10 kf10); (try clear kz11 kc11 kf11)
    (try clear kz8 kc8 kf8); (try clear kz9 kc9 kf9); (try clear kz10 kc10 kf10); (try clear kz11 kc11 kf11)
    clear hf2 C1 HKr
    obtain ⟨⟨kz0,kc0,kf0⟩,⟨kz1,kc1,kf1⟩,⟨kz2,kc2,kf2⟩,⟨kz3,kc3,kf3⟩,⟨kz4,kc4,kf4⟩,⟨kz5,kc5,kf5⟩,⟨kz6,kc6,kf6⟩,⟨kz7,kc7,kf7⟩,⟨kz8,kc8,kf8⟩,⟨kz9,kc9,kf9⟩,⟨kz10,kc10,kf10⟩,⟨kz11,kc11,kf11⟩,_⟩ := hK3.2
    go_wp2_with fail
    refine (PS.out _ _ _ (by simp only [List.length_append, List.flatMap_cons, List.flatMap_nil, List.length_nil] at hlen ⊢; omega) hS2).mono ?_
    rintro en w4 ⟨⟨uu4, rfl⟩, X3, hf3, hS3⟩
    have hK4 := hK3.turn hf3
    clear hf3 hS2 hK3 PS
    (try clear kz0 kc0 kf0); (try clear kz1 kc1 kf1); (try clear kz2 kc2 kf2); (try clear kz3 kc3 kf3); (try clear kz4 kc4 kf4); (try clear kz5 kc5 kf5); (try clear kz6 kc6 kf6); (try clear kz7 kc7 kf7); (try clear kz8 kc8 kf8); (try clear kz9 kc9 kf9); (try clear kz10 kc10 kf10); (try clear kz11 kc11 kf11)
    (try clear kz8 kc8 kf8); (try clear kz9 kc9 kf9); (try clear kz10 kc10 kf10); (try clear kz11 kc11 kf11)
    obtain ⟨⟨kz0,kc0,kf0⟩,⟨kz1,kc1,kf1⟩,⟨kz2,kc2,kf2⟩,⟨kz3,kc3,kf3⟩,⟨kz4,kc4,kf4⟩,⟨kz5,kc5,kf5⟩,⟨kz6,kc6,kf6⟩,⟨kz7,kc7,kf7⟩,⟨kz8,kc8,kf8⟩,⟨kz9,kc9,kf9⟩,⟨kz10,kc10,kf10⟩,⟨kz11,kc11,kf11⟩,_⟩ := hK4.2
    go_wp2_with fail
    refine (LA.out _).mono ?_
    rintro en w5 ⟨rfl, hb⟩
    have HN : Hid (KF X W [(W.heap.size, 0, .int .i64 k), (W.heap.size, 1, .slice (some ⟨bb, off, none⟩) R.length cA), (W.heap.size, 2, .int .i64 a), (W.heap.size, 3, .int .i64 r), (W.heap.size, 4, .int .i64 n), (W.heap.size, 5, .int .i64 d), (W.heap.size, 6, u), (W.heap.size, 7, .int .i64 e), (W.heap.size, 8, .func (.func fn) #[] #[cap])] X3 w5 ∧ S.St (l ++ (done ++ (uBytes (f - ah) ++ (uBytes c ++ uBytes s)))) X3 w5 ∧ encR 0 R = (done ++ (uBytes (f - ah) ++ (uBytes c ++ uBytes s))) ++ encR (lastN ⟨f, s, c⟩) (R.drop (j + 1)) ∧ Goes (lastN ⟨f, s, c⟩) (R.drop (j + 1))) :=
     Lib.hid ⟨KF.left (hK4.next hb), by simpa using S.next hS3 hb, by rw [HE.out, encR, if_neg hc]; simp, HGn.out⟩
    have tl : R.length - (j + 1) < R.length - j := by omega
    replace tl := Lib.hid tl
    (try clear kz0 kc0 kf0); (try clear kz1 kc1 kf1); (try clear kz2 kc2 kf2); (try clear kz3 kc3 kf3); (try clear kz4 kc4 kf4); (try clear kz5 kc5 kf5); (try clear kz6 kc6 kf6); (try clear kz7 kc7 kf7); (try clear kz8 kc8 kf8); (try clear kz9 kc9 kf9); (try clear kz10 kc10 kf10); (try clear kz11 kc11 kf11)
    clear hK4 hb hS3 LA HE HGn
    go_wp2_with fail
    go_roundw
    case rel => exact ⟨j + 1, lastN ⟨f, s, c⟩, X3, _, rfl, by simp, hlt, HN⟩
    case measure => first | exact tl.out | (simp [intOf]; have := tl.out; omega)
  ·have i1 : ¬ (j : Int) < (R.length : Int) := by omega
   have HN := Lib.hid (show Fr X X' W wr ∧ S.St (l ++ encR 0 R) X' wr from ⟨HI.out.1.1.1, by
    have h2 := HI.out.2.1
    have h3 := HI.out.2.2.1
    rw [List.drop_eq_nil_of_le (by omega)] at h3
    rw [h3]
    simpa [encR] using h2⟩)
   clear HI
   go_wp2_with fail
   go_returns
   exact ⟨⟨_, rfl⟩, X', HN.out.1, HN.out.2⟩
end Go.Proofs.YtcfidimnbamnkaaGreat.P12

/-
 Layer 12: the differences of values; what a kind has besides, laid. Conditions: those written at each fact.
-/
namespace Go.Proofs.YtcfidimnbamnkaaGreat.P12
open Go.RowKit Go.Shelf Go.Proofs.YtcfidimnbamnkaaGreat.P2 Go.Proofs.YtcfidimnbamnkaaGreat.P7 Go.Proofs.YtcfidimnbamnkaaGreat.P11

theorem infoC64 : (Tryz.prog.info? 2).map (fun i => (i.zero, i.size, i.bytes)) = some (some (.int .i64 0), 1, 8) := by kernel_rfl
def diffs : Int → List Int → List Int
 | _, [] => []
 | p, v :: l => (v - p) :: diffs v l
theorem diffs_len : ∀ (l : List Int) (p : Int), (diffs p l).length = l.length
 | [], _ => rfl
 | v :: l, p => by rw [diffs, List.length_cons, List.length_cons, diffs_len l v]
def Near61 (v : Int) : Prop := -2305844108725321728 ≤ v ∧ v ≤ 2305844108725321728
theorem diffs_ok : ∀ (l : List Int) (p : Int), Near61 p → (∀ v ∈ l, Near61 v) → ∀ z ∈ diffs p l, sOk z
 | [], _, _, _, z, hz => by cases hz
 | v :: l, p, hp, h, z, hz => by
  have hv := h v (List.mem_cons_self ..)
  rw [diffs] at hz
  rcases List.mem_cons.1 hz with rfl | hz
  ·unfold Near61 at hp hv
   exact ⟨by omega, by omega⟩
  ·exact diffs_ok l v hv (fun q hq => h q (List.mem_cons_of_mem _ hq)) z hz
theorem row_more64 {B : Nat} {K : List Int} {z : Int} {w wr w1 : World} {v v' : Value} {o : Obj} (hB : B ≤ wr.heap.size)
  (hown : wr.ownsRow B 2 1 v K.length (K.map (Value.int .i64))) (hnx : Below B w wr)
  (hown' : w1.ownsRow B 2 1 v' (K.length + 1) (K.map (Value.int .i64) ++ [.int .i64 z])) (hgrow : (wr.alloc o).grownBy w1 v.ownBlock) :
  w1.ownsRow B 2 1 v' (K ++ [z]).length ((K ++ [z]).map (Value.int .i64)) ∧ Below B w w1 :=
 ⟨by simpa using hown', (hnx.alloc (by omega) o).grown hgrow (by simp; omega) (fun j hj => by have := (hown.lt j hj).1; omega)⟩
set_option maxRecDepth 100000 in
set_option maxHeartbeats 2000000 in
theorem diffs_any (V : List Int) (hV : ∀ v ∈ V, Near61 v) (hl : V.length ≤ 1000) (uv : Value) (w : World) (h : Reads .i64 w uv V) :
  Calls Tryz.prog 188 #[uv] w (fun e w' => ∃ v, e = .returned v ∧ Below w.heap.size w w' ∧ w'.ownsRow w.heap.size 2 1 v (diffs 0 V).length ((diffs 0 V).map (Value.int .i64))) := by
 obtain ⟨i0, hi, hz0, hz1, hz2⟩ := info_parts infoC64
 obtain ⟨A, c, rfl, hc, hk⟩ := h
 have HK := Lib.hid hk
 have HV := Lib.hid hV
 have H0 := Lib.hid (show diffs 0 V = [] ++ diffs 0 (V.drop 0) ∧ Near61 0 from ⟨rfl, by unfold Near61; omega⟩)
 clear hk hV hc
 go_enter Tryz.func188, Tryz.ntmps188
 go_wp2_with fail
 go_loopw [3, 4, 9] (fun v s4 i wr => ∃ (k : Nat) (p : Int) (K : List Int), s4 = .int .i64 p ∧ i = .int .i64 k ∧ k ≤ V.length ∧ Hid (diffs 0 V = K ++ diffs p (V.drop k) ∧ Near61 p) ∧ K.length = k ∧ wr.ownsRow w.heap.size 2 1 v K.length (K.map (Value.int .i64)) ∧ Below w.heap.size w wr)
  (fun _ _ i _ => V.length - (intOf i).toNat)
 case atStart => exact ⟨0, 0, [], rfl, rfl, Nat.zero_le _, H0, rfl, World.ownsRow_nil _ _ _ _, Below.refl _ _⟩
 case round =>
  clear H0
  obtain ⟨k, p, K, rfl, rfl, hkl, HI, hKk, hown, hnx⟩ := hrel
  by_cases hlt : k < V.length
  ·obtain ⟨z, hz⟩ : ∃ z, V[k]? = some z := ⟨_, List.getElem?_eq_getElem hlt⟩
   obtain ⟨bb, off, rfl, hbw, hc1⟩ := HK.out k z hz
   have c1 := (hnx.cell (p := ⟨bb, off + k, none⟩) hbw).trans hc1
   have hzb := HV.out z (List.mem_of_getElem? hz)
   have hpb := HI.out.2
   unfold Near61 at hzb hpb
   have e1 : wrap64 (z - p) = z - p := i64_keeps (by omega) (by omega)
   have i1 : (k : Int) < (V.length : Int) := by omega
   have i0' : (0 : Int) ≤ (k : Int) := by omega
   have hdrop : V.drop k = z :: V.drop (k + 1) := by
    rw [List.drop_eq_getElem_cons hlt]
    congr 1
    have := List.getElem?_eq_getElem hlt
    rw [hz] at this
    injection this with this
    exact this.symm
   have HN := Lib.hid (show diffs 0 V = (K ++ [z - p]) ++ diffs z (V.drop (k + 1)) ∧ Near61 z from ⟨by have := HI.out.1; rw [hdrop, diffs] at this; rw [this]; simp, by unfold Near61; omega⟩)
   have hk1000 : K.length ≤ 1000 := by omega
   have tl : V.length - (k + 1) < V.length - k := by omega
   replace tl := Lib.hid tl
   have HKK := Lib.hid hKk
   clear hc1 hz HI hdrop hzb hpb hKk
   go_wp2_with (at_builtin; refine wpList_append_own _ rfl _ _ 25 rfl w.heap.size 2 i0 (.int .i64 0) 1 8 Tryz.underlying25 hi hz0 hz1 hz2 rfl (by decide) _ _ _ rfl (hown.alloc _) ⟨wr.heap.size, 0, none⟩ 1 1 [.int .i64 (z - p)] rfl rfl ?c1 ?c2 ?c3 ?c4 ?c5 ?_)
   case c1 =>
    intro j u hj
    match j, hj with
    | 0, hj => simp at hj; subst hj; simp [Addr.add]
   case c2 => intro u hu; simp at hu; subst hu; rfl
   case c3 => unfold maxLen; omega
   case c4 => omega
   case c5 => have := hnx.size; simp; omega
   intro v' w1 hown' hgrow _
   have R := row_more64 hnx.size hown hnx hown' hgrow
   have hl2 : (K ++ [z - p]).length = k + 1 := by rw [List.length_append, HKK.out]; rfl
   have HL2 := Lib.hid hl2
   clear hown' hgrow hown hnx hl2
   go_wp2_with fail
   go_roundw
   case rel => exact ⟨k + 1, z, K ++ [z - p], rfl, by simp, hlt, HN, HL2.out, R.1, R.2⟩
   case measure => first | exact tl.out | (simp [intOf]; have := tl.out; omega)
  ·have i1 : ¬ (k : Int) < (V.length : Int) := by omega
   have E : Hid (diffs 0 V = K) := Lib.hid (by
    have := HI.out.1
    rw [List.drop_eq_nil_of_le (by omega)] at this
    rw [this]
    simp [diffs])
   clear HI
   go_wp2_with fail
   go_ret
   rw [E.out]
   exact ⟨_, rfl, hnx, hown⟩
end Go.Proofs.YtcfidimnbamnkaaGreat.P12

/-
 Layer 12: what a kind has besides its runs, laid. Conditions: those written at each fact.
-/
namespace Go.Proofs.YtcfidimnbamnkaaGreat.P12
open Go.RowKit Go.Shelf Go.Proofs.YtcfidimnbamnkaaGreat.P2 Go.Proofs.YtcfidimnbamnkaaGreat.P7 Go.Proofs.YtcfidimnbamnkaaGreat.P11

set_option maxRecDepth 100000 in
set_option maxHeartbeats 4000000 in
theorem rest_flat (S : Laying) (fn : Nat) (cap : Value) (eK : ∀ args w, (callFunc fn args).run Tryz.prog w = .ok (.enter fn args) w) (hT : Takes fn cap S) (v : Value) (a r n d : Int) (u : Value) (e : Int) (ha : sOk a) (l : List Int) (X : Nat → Prop) (W : World) (hl : l.length ≤ 90000) (hS : S.St l X W) :
  Calls Tryz.prog 151 #[layV 1 v a r n d u e (.func (.func fn) #[] #[cap])] W (Did S X W (l ++ sBytes a)) := by
 have PL := plain_lays S fn cap eK hT 1 v a r n d u e
 have SL := signed_lays S fn cap eK hT 1 v a r n d u e
 unfold Lays at PL SL
 replace PL := Lib.hid PL
 replace SL := Lib.hid SL
 have hsm := S.small hS
 have hK : KF X W [(W.heap.size, 0, .int .i64 1), (W.heap.size, 1, v), (W.heap.size, 2, .int .i64 a), (W.heap.size, 3, .int .i64 r), (W.heap.size, 4, .int .i64 n), (W.heap.size, 5, .int .i64 d), (W.heap.size, 6, u), (W.heap.size, 7, .int .i64 e), (W.heap.size, 8, .func (.func fn) #[] #[cap])] X (W.alloc (layO 1 v a r n d u e (.func (.func fn) #[] #[cap]))) := KF.start (below_alloc W _) (by simp [Cells, go_sem]) (by
  have h0 : ¬ X W.heap.size := fun hx => by have := hsm _ hx; omega
  simp [h0])
 have hS0 := S.next hS (below_alloc W (layO 1 v a r n d u e (.func (.func fn) #[] #[cap])))
 clear hS hsm
 have ha9 := sBytes_len ha
 go_enter Tryz.func151, Tryz.ntmps151
 go_upto_region 1 with (fail)
 generalize W.alloc (layO 1 v a r n d u e (.func (.func fn) #[] #[cap])) = w0 at *
 obtain ⟨⟨kz0,kc0,kf0⟩,⟨kz1,kc1,kf1⟩,⟨kz2,kc2,kf2⟩,⟨kz3,kc3,kf3⟩,⟨kz4,kc4,kf4⟩,⟨kz5,kc5,kf5⟩,⟨kz6,kc6,kf6⟩,⟨kz7,kc7,kf7⟩,⟨kz8,kc8,kf8⟩,_⟩ := hK.2
 go_wp2_with fail
 refine (SL.out _ a _ _ (by (try simp only [List.length_append] at hl ⊢); omega) ha hS0).mono ?_
 rintro en w1 ⟨⟨uu0, rfl⟩, X1, hf, hS1⟩
 replace hK := hK.turn hf
 clear hf hS0
 (try clear kz0 kc0 kf0); (try clear kz1 kc1 kf1); (try clear kz2 kc2 kf2); (try clear kz3 kc3 kf3); (try clear kz4 kc4 kf4); (try clear kz5 kc5 kf5); (try clear kz6 kc6 kf6); (try clear kz7 kc7 kf7); (try clear kz8 kc8 kf8)
 (try clear kz0 kc0 kf0); (try clear kz1 kc1 kf1); (try clear kz2 kc2 kf2); (try clear kz3 kc3 kf3); (try clear kz4 kc4 kf4); (try clear kz5 kc5 kf5); (try clear kz6 kc6 kf6); (try clear kz7 kc7 kf7); (try clear kz8 kc8 kf8)
 obtain ⟨⟨kz0,kc0,kf0⟩,⟨kz1,kc1,kf1⟩,⟨kz2,kc2,kf2⟩,⟨kz3,kc3,kf3⟩,⟨kz4,kc4,kf4⟩,⟨kz5,kc5,kf5⟩,⟨kz6,kc6,kf6⟩,⟨kz7,kc7,kf7⟩,⟨kz8,kc8,kf8⟩,_⟩ := hK.2
 go_wp2_with fail
 go_returns
 exact ⟨⟨_, rfl⟩, _, hK.1.1, by simpa using hS1⟩
set_option maxRecDepth 100000 in
set_option maxHeartbeats 4000000 in
theorem rest_tilt (S : Laying) (fn : Nat) (cap : Value) (eK : ∀ args w, (callFunc fn args).run Tryz.prog w = .ok (.enter fn args) w) (hT : Takes fn cap S) (v : Value) (a r n d : Int) (u : Value) (e : Int) (hn : sOk n) (hd : uOk d) (ha : sOk a) (l : List Int) (X : Nat → Prop) (W : World) (hl : l.length ≤ 90000) (hS : S.St l X W) :
  Calls Tryz.prog 151 #[layV 2 v a r n d u e (.func (.func fn) #[] #[cap])] W (Did S X W (l ++ (sBytes n ++ (uBytes d ++ sBytes a)))) := by
 have PL := plain_lays S fn cap eK hT 2 v a r n d u e
 have SL := signed_lays S fn cap eK hT 2 v a r n d u e
 unfold Lays at PL SL
 replace PL := Lib.hid PL
 replace SL := Lib.hid SL
 have hsm := S.small hS
 have hK : KF X W [(W.heap.size, 0, .int .i64 2), (W.heap.size, 1, v), (W.heap.size, 2, .int .i64 a), (W.heap.size, 3, .int .i64 r), (W.heap.size, 4, .int .i64 n), (W.heap.size, 5, .int .i64 d), (W.heap.size, 6, u), (W.heap.size, 7, .int .i64 e), (W.heap.size, 8, .func (.func fn) #[] #[cap])] X (W.alloc (layO 2 v a r n d u e (.func (.func fn) #[] #[cap]))) := KF.start (below_alloc W _) (by simp [Cells, go_sem]) (by
  have h0 : ¬ X W.heap.size := fun hx => by have := hsm _ hx; omega
  simp [h0])
 have hS0 := S.next hS (below_alloc W (layO 2 v a r n d u e (.func (.func fn) #[] #[cap])))
 clear hS hsm
 have hn9 := sBytes_len hn
 have hd9 := uBytes_len hd
 have ha9 := sBytes_len ha
 go_enter Tryz.func151, Tryz.ntmps151
 go_upto_region 1 with (fail)
 generalize W.alloc (layO 2 v a r n d u e (.func (.func fn) #[] #[cap])) = w0 at *
 obtain ⟨⟨kz0,kc0,kf0⟩,⟨kz1,kc1,kf1⟩,⟨kz2,kc2,kf2⟩,⟨kz3,kc3,kf3⟩,⟨kz4,kc4,kf4⟩,⟨kz5,kc5,kf5⟩,⟨kz6,kc6,kf6⟩,⟨kz7,kc7,kf7⟩,⟨kz8,kc8,kf8⟩,_⟩ := hK.2
 go_wp2_with fail
 refine (SL.out _ n _ _ (by (try simp only [List.length_append] at hl ⊢); omega) hn hS0).mono ?_
 rintro en w1 ⟨⟨uu0, rfl⟩, X1, hf, hS1⟩
 replace hK := hK.turn hf
 clear hf hS0
 (try clear kz0 kc0 kf0); (try clear kz1 kc1 kf1); (try clear kz2 kc2 kf2); (try clear kz3 kc3 kf3); (try clear kz4 kc4 kf4); (try clear kz5 kc5 kf5); (try clear kz6 kc6 kf6); (try clear kz7 kc7 kf7); (try clear kz8 kc8 kf8)
 (try clear kz0 kc0 kf0); (try clear kz1 kc1 kf1); (try clear kz2 kc2 kf2); (try clear kz3 kc3 kf3); (try clear kz4 kc4 kf4); (try clear kz5 kc5 kf5); (try clear kz6 kc6 kf6); (try clear kz7 kc7 kf7); (try clear kz8 kc8 kf8)
 obtain ⟨⟨kz0,kc0,kf0⟩,⟨kz1,kc1,kf1⟩,⟨kz2,kc2,kf2⟩,⟨kz3,kc3,kf3⟩,⟨kz4,kc4,kf4⟩,⟨kz5,kc5,kf5⟩,⟨kz6,kc6,kf6⟩,⟨kz7,kc7,kf7⟩,⟨kz8,kc8,kf8⟩,_⟩ := hK.2
 go_wp2_with fail
 refine (PL.out _ d _ _ (by (try simp only [List.length_append] at hl ⊢); omega) hd hS1).mono ?_
 rintro en w2 ⟨⟨uu1, rfl⟩, X2, hf, hS2⟩
 replace hK := hK.turn hf
 clear hf hS1
 (try clear kz0 kc0 kf0); (try clear kz1 kc1 kf1); (try clear kz2 kc2 kf2); (try clear kz3 kc3 kf3); (try clear kz4 kc4 kf4); (try clear kz5 kc5 kf5); (try clear kz6 kc6 kf6); (try clear kz7 kc7 kf7); (try clear kz8 kc8 kf8)
 (try clear kz0 kc0 kf0); (try clear kz1 kc1 kf1); (try clear kz2 kc2 kf2); (try clear kz3 kc3 kf3); (try clear kz4 kc4 kf4); (try clear kz5 kc5 kf5); (try clear kz6 kc6 kf6); (try clear kz7 kc7 kf7); (try clear kz8 kc8 kf8)
 obtain ⟨⟨kz0,kc0,kf0⟩,⟨kz1,kc1,kf1⟩,⟨kz2,kc2,kf2⟩,⟨kz3,kc3,kf3⟩,⟨kz4,kc4,kf4⟩,⟨kz5,kc5,kf5⟩,⟨kz6,kc6,kf6⟩,⟨kz7,kc7,kf7⟩,⟨kz8,kc8,kf8⟩,_⟩ := hK.2
 go_wp2_with fail
 refine (SL.out _ a _ _ (by (try simp only [List.length_append] at hl ⊢); omega) ha hS2).mono ?_
 rintro en w3 ⟨⟨uu2, rfl⟩, X3, hf, hS3⟩
 replace hK := hK.turn hf
 clear hf hS2
 (try clear kz0 kc0 kf0); (try clear kz1 kc1 kf1); (try clear kz2 kc2 kf2); (try clear kz3 kc3 kf3); (try clear kz4 kc4 kf4); (try clear kz5 kc5 kf5); (try clear kz6 kc6 kf6); (try clear kz7 kc7 kf7); (try clear kz8 kc8 kf8)
 (try clear kz0 kc0 kf0); (try clear kz1 kc1 kf1); (try clear kz2 kc2 kf2); (try clear kz3 kc3 kf3); (try clear kz4 kc4 kf4); (try clear kz5 kc5 kf5); (try clear kz6 kc6 kf6); (try clear kz7 kc7 kf7); (try clear kz8 kc8 kf8)
 obtain ⟨⟨kz0,kc0,kf0⟩,⟨kz1,kc1,kf1⟩,⟨kz2,kc2,kf2⟩,⟨kz3,kc3,kf3⟩,⟨kz4,kc4,kf4⟩,⟨kz5,kc5,kf5⟩,⟨kz6,kc6,kf6⟩,⟨kz7,kc7,kf7⟩,⟨kz8,kc8,kf8⟩,_⟩ := hK.2
 go_wp2_with fail
 go_returns
 exact ⟨⟨_, rfl⟩, _, hK.1.1, by simpa using hS3⟩
set_option maxRecDepth 100000 in
set_option maxHeartbeats 4000000 in
theorem rest_free (S : Laying) (fn : Nat) (cap : Value) (eK : ∀ args w, (callFunc fn args).run Tryz.prog w = .ok (.enter fn args) w) (hT : Takes fn cap S) (v : Value) (a r n d : Int) (u : Value) (e : Int) (hr : uOk r) (hn : sOk n) (hd : uOk d) (ha : sOk a) (l : List Int) (X : Nat → Prop) (W : World) (hl : l.length ≤ 90000) (hS : S.St l X W) :
  Calls Tryz.prog 151 #[layV 3 v a r n d u e (.func (.func fn) #[] #[cap])] W (Did S X W (l ++ (uBytes r ++ (sBytes n ++ (uBytes d ++ sBytes a))))) := by
 have PL := plain_lays S fn cap eK hT 3 v a r n d u e
 have SL := signed_lays S fn cap eK hT 3 v a r n d u e
 unfold Lays at PL SL
 replace PL := Lib.hid PL
 replace SL := Lib.hid SL
 have hsm := S.small hS
 have hK : KF X W [(W.heap.size, 0, .int .i64 3), (W.heap.size, 1, v), (W.heap.size, 2, .int .i64 a), (W.heap.size, 3, .int .i64 r), (W.heap.size, 4, .int .i64 n), (W.heap.size, 5, .int .i64 d), (W.heap.size, 6, u), (W.heap.size, 7, .int .i64 e), (W.heap.size, 8, .func (.func fn) #[] #[cap])] X (W.alloc (layO 3 v a r n d u e (.func (.func fn) #[] #[cap]))) := KF.start (below_alloc W _) (by simp [Cells, go_sem]) (by
  have h0 : ¬ X W.heap.size := fun hx => by have := hsm _ hx; omega
  simp [h0])
 have hS0 := S.next hS (below_alloc W (layO 3 v a r n d u e (.func (.func fn) #[] #[cap])))
 clear hS hsm
 have hr9 := uBytes_len hr
 have hn9 := sBytes_len hn
 have hd9 := uBytes_len hd
 have ha9 := sBytes_len ha
 go_enter Tryz.func151, Tryz.ntmps151
 go_upto_region 1 with (fail)
 generalize W.alloc (layO 3 v a r n d u e (.func (.func fn) #[] #[cap])) = w0 at *
 obtain ⟨⟨kz0,kc0,kf0⟩,⟨kz1,kc1,kf1⟩,⟨kz2,kc2,kf2⟩,⟨kz3,kc3,kf3⟩,⟨kz4,kc4,kf4⟩,⟨kz5,kc5,kf5⟩,⟨kz6,kc6,kf6⟩,⟨kz7,kc7,kf7⟩,⟨kz8,kc8,kf8⟩,_⟩ := hK.2
 go_wp2_with fail
 refine (PL.out _ r _ _ (by (try simp only [List.length_append] at hl ⊢); omega) hr hS0).mono ?_
 rintro en w1 ⟨⟨uu0, rfl⟩, X1, hf, hS1⟩
 replace hK := hK.turn hf
 clear hf hS0
 (try clear kz0 kc0 kf0); (try clear kz1 kc1 kf1); (try clear kz2 kc2 kf2); (try clear kz3 kc3 kf3); (try clear kz4 kc4 kf4); (try clear kz5 kc5 kf5); (try clear kz6 kc6 kf6); (try clear kz7 kc7 kf7); (try clear kz8 kc8 kf8)
 (try clear kz0 kc0 kf0); (try clear kz1 kc1 kf1); (try clear kz2 kc2 kf2); (try clear kz3 kc3 kf3); (try clear kz4 kc4 kf4); (try clear kz5 kc5 kf5); (try clear kz6 kc6 kf6); (try clear kz7 kc7 kf7); (try clear kz8 kc8 kf8)
 obtain ⟨⟨kz0,kc0,kf0⟩,⟨kz1,kc1,kf1⟩,⟨kz2,kc2,kf2⟩,⟨kz3,kc3,kf3⟩,⟨kz4,kc4,kf4⟩,⟨kz5,kc5,kf5⟩,⟨kz6,kc6,kf6⟩,⟨kz7,kc7,kf7⟩,⟨kz8,kc8,kf8⟩,_⟩ := hK.2
 go_wp2_with fail
 refine (SL.out _ n _ _ (by (try simp only [List.length_append] at hl ⊢); omega) hn hS1).mono ?_
 rintro en w2 ⟨⟨uu1, rfl⟩, X2, hf, hS2⟩
 replace hK := hK.turn hf
 clear hf hS1
 (try clear kz0 kc0 kf0); (try clear kz1 kc1 kf1); (try clear kz2 kc2 kf2); (try clear kz3 kc3 kf3); (try clear kz4 kc4 kf4); (try clear kz5 kc5 kf5); (try clear kz6 kc6 kf6); (try clear kz7 kc7 kf7); (try clear kz8 kc8 kf8)
 (try clear kz0 kc0 kf0); (try clear kz1 kc1 kf1); (try clear kz2 kc2 kf2); (try clear kz3 kc3 kf3); (try clear kz4 kc4 kf4); (try clear kz5 kc5 kf5); (try clear kz6 kc6 kf6); (try clear kz7 kc7 kf7); (try clear kz8 kc8 kf8)
 obtain ⟨⟨kz0,kc0,kf0⟩,⟨kz1,kc1,kf1⟩,⟨kz2,kc2,kf2⟩,⟨kz3,kc3,kf3⟩,⟨kz4,kc4,kf4⟩,⟨kz5,kc5,kf5⟩,⟨kz6,kc6,kf6⟩,⟨kz7,kc7,kf7⟩,⟨kz8,kc8,kf8⟩,_⟩ := hK.2
 go_wp2_with fail
 refine (PL.out _ d _ _ (by (try simp only [List.length_append] at hl ⊢); omega) hd hS2).mono ?_
 rintro en w3 ⟨⟨uu2, rfl⟩, X3, hf, hS3⟩
 replace hK := hK.turn hf
 clear hf hS2
 (try clear kz0 kc0 kf0); (try clear kz1 kc1 kf1); (try clear kz2 kc2 kf2); (try clear kz3 kc3 kf3); (try clear kz4 kc4 kf4); (try clear kz5 kc5 kf5); (try clear kz6 kc6 kf6); (try clear kz7 kc7 kf7); (try clear kz8 kc8 kf8)
 (try clear kz0 kc0 kf0); (try clear kz1 kc1 kf1); (try clear kz2 kc2 kf2); (try clear kz3 kc3 kf3); (try clear kz4 kc4 kf4); (try clear kz5 kc5 kf5); (try clear kz6 kc6 kf6); (try clear kz7 kc7 kf7); (try clear kz8 kc8 kf8)
 obtain ⟨⟨kz0,kc0,kf0⟩,⟨kz1,kc1,kf1⟩,⟨kz2,kc2,kf2⟩,⟨kz3,kc3,kf3⟩,⟨kz4,kc4,kf4⟩,⟨kz5,kc5,kf5⟩,⟨kz6,kc6,kf6⟩,⟨kz7,kc7,kf7⟩,⟨kz8,kc8,kf8⟩,_⟩ := hK.2
 go_wp2_with fail
 refine (SL.out _ a _ _ (by (try simp only [List.length_append] at hl ⊢); omega) ha hS3).mono ?_
 rintro en w4 ⟨⟨uu3, rfl⟩, X4, hf, hS4⟩
 replace hK := hK.turn hf
 clear hf hS3
 (try clear kz0 kc0 kf0); (try clear kz1 kc1 kf1); (try clear kz2 kc2 kf2); (try clear kz3 kc3 kf3); (try clear kz4 kc4 kf4); (try clear kz5 kc5 kf5); (try clear kz6 kc6 kf6); (try clear kz7 kc7 kf7); (try clear kz8 kc8 kf8)
 (try clear kz0 kc0 kf0); (try clear kz1 kc1 kf1); (try clear kz2 kc2 kf2); (try clear kz3 kc3 kf3); (try clear kz4 kc4 kf4); (try clear kz5 kc5 kf5); (try clear kz6 kc6 kf6); (try clear kz7 kc7 kf7); (try clear kz8 kc8 kf8)
 obtain ⟨⟨kz0,kc0,kf0⟩,⟨kz1,kc1,kf1⟩,⟨kz2,kc2,kf2⟩,⟨kz3,kc3,kf3⟩,⟨kz4,kc4,kf4⟩,⟨kz5,kc5,kf5⟩,⟨kz6,kc6,kf6⟩,⟨kz7,kc7,kf7⟩,⟨kz8,kc8,kf8⟩,_⟩ := hK.2
 go_wp2_with fail
 go_returns
 exact ⟨⟨_, rfl⟩, _, hK.1.1, by simpa using hS4⟩
theorem own_free {W : World} {X : Nat → Prop} {B : Nat} {ty : TypeId} {s n : Nat} {v : Value} {xs : List Value} (h : W.ownsRow B ty s v n xs) (hX : ∀ k, X k → k < B) : ∀ A m c, v = .slice (some A) m c → ¬ X A.block := by
 intro A m c e hx
 have h1 := hX _ hx
 rcases h.2 with ⟨rfl, _⟩ | ⟨g, cap, cur, rfl, hB, _⟩
 ·cases e
 ·injection e with e1
  injection e1 with e1
  rw [← e1] at h1
  simp only at h1
  omega
set_option maxRecDepth 100000 in
set_option maxHeartbeats 4000000 in
theorem rest_raw (S : Laying) (fn : Nat) (cap : Value) (eK : ∀ args w, (callFunc fn args).run Tryz.prog w = .ok (.enter fn args) w) (hT : Takes fn cap S) (v : Value) (a r n d : Int) (u : Value) (e : Int) (W0 W : World) (V : List Int) (hV : ∀ z ∈ V, Near61 z) (hVl : V.length ≤ 300) (hu : Reads .i64 W0 u V) (hW0 : Below W0.heap.size W0 W) (l : List Int) (X : Nat → Prop) (hl : l.length ≤ 90000) (hS : S.St l X W) :
  Calls Tryz.prog 151 #[layV 4 v a r n d u e (.func (.func fn) #[] #[cap])] W (Did S X W (l ++ (diffs 0 V).flatMap sBytes)) := by
 have PL := plain_lays S fn cap eK hT 4 v a r n d u e
 have SL := signed_lays S fn cap eK hT 4 v a r n d u e
 unfold Lays at PL SL
 replace PL := Lib.hid PL
 replace SL := Lib.hid SL
 have hsm := S.small hS
 have hK : KF X W [(W.heap.size, 0, .int .i64 4), (W.heap.size, 1, v), (W.heap.size, 2, .int .i64 a), (W.heap.size, 3, .int .i64 r), (W.heap.size, 4, .int .i64 n), (W.heap.size, 5, .int .i64 d), (W.heap.size, 6, u), (W.heap.size, 7, .int .i64 e), (W.heap.size, 8, .func (.func fn) #[] #[cap])] X (W.alloc (layO 4 v a r n d u e (.func (.func fn) #[] #[cap]))) := KF.start (below_alloc W _) (by simp [Cells, go_sem]) (by
  have h0 : ¬ X W.heap.size := fun hx => by have := hsm _ hx; omega
  simp [h0])
 have hS0 := S.next hS (below_alloc W (layO 4 v a r n d u e (.func (.func fn) #[] #[cap])))
 clear hS hsm
 have hu1 := (hu.below hW0).below (below_alloc W (layO 4 v a r n d u e (.func (.func fn) #[] #[cap])))
 have DF := Lib.hid (fun W' (h : Reads .i64 W' u V) => diffs_any V hV (by omega) u W' h)
 have EA := Lib.hid (fun l X dv W' hr hx hS (hl : l.length + 10 * (diffs 0 V).length ≤ 100000) => each_any S 187 (layV 4 v a r n d u e (.func (.func fn) #[] #[cap])) (enters_of Tryz.func187 (by kernel_rfl) rfl) sBytes sOk (signed_lays S fn cap eK hT 4 v a r n d u e) (fun z hz => (sBytes_len hz).2) (diffs 0 V) (diffs_ok V 0 (by unfold Near61; omega) hV) l hl X dv W' hr hx hS)
 have hdl := diffs_len V 0
 go_enter Tryz.func151, Tryz.ntmps151
 go_upto_region 1 with (fail)
 generalize W.alloc (layO 4 v a r n d u e (.func (.func fn) #[] #[cap])) = w0 at *
 obtain ⟨⟨_,_,_⟩,⟨_,_,_⟩,⟨_,_,_⟩,⟨_,_,_⟩,⟨_,_,_⟩,⟨_,_,_⟩,⟨_,_,_⟩,⟨_,_,_⟩,⟨_,_,_⟩,_⟩ := hK.2
 replace hS0 := S.next hS0 (Below.refl _ _).drew
 replace hu1 := hu1.below (Below.refl _ _).drew
 have hF := hK.drew
 obtain ⟨Au, cu, rfl, _, _⟩ := hu
 go_upto_region 10 with (fail)
 refine region_ke (X := X) (w0 := W) (L := [(W.heap.size, 0, .int .i64 4), (W.heap.size, 1, v), (W.heap.size, 2, .int .i64 a), (W.heap.size, 3, .int .i64 r), (W.heap.size, 4, .int .i64 n), (W.heap.size, 5, .int .i64 d), (W.heap.size, 6, .slice Au V.length cu), (W.heap.size, 7, .int .i64 e), (W.heap.size, 8, .func (.func fn) #[] #[cap])]) (by kernel_rfl) hK.ke (fun hHeld0 => ?_)
 refine tk 0 37 rfl rfl ?_ ?_ ?_
 rotate_left
 ·intro wq hSw; obtain ⟨⟨_,_,_⟩,⟨_,_,_⟩,⟨_,_,_⟩,⟨_,_,_⟩,⟨_,_,_⟩,⟨_,_,_⟩,⟨_,_,_⟩,⟨_,_,_⟩,⟨_,_,_⟩,_⟩ := hSw.2; go_simp; (try with_reducible rfl)
 try go_frame
 refine tv 2 39 rfl rfl ?_
 try go_frame
 refine tv 3 40 rfl rfl ?_
 try go_frame
 refine tk 4 41 rfl rfl ?_ ?_ ?_
 rotate_left
 ·intro wq hSw; obtain ⟨⟨_,_,_⟩,⟨_,_,_⟩,⟨_,_,_⟩,⟨_,_,_⟩,⟨_,_,_⟩,⟨_,_,_⟩,⟨_,_,_⟩,⟨_,_,_⟩,⟨_,_,_⟩,_⟩ := hSw.2; go_simp; (try with_reducible rfl)
 try go_frame
 refine ty [1, 5] ?_
 refine AllReadyH.cons rfl (fun K hK => ?_) ?_
 go_simp
 refine hK.out _ _ hHeld0 (fun hHeld1 => ?_)
 clear hK K; try clear hb
 try go_frame
 refine ty [5] ?_
 refine AllReadyH.cons rfl (fun K hK => ?_) AllReadyH.nil
 go_simp
 ((with_reducible refine (DF.out _ hu1).mono ?_); rintro e w2 ⟨dv, rfl, hb, ho⟩; have hr2 := reads_own (k := .i64) ho; have hx2 := own_free ho (S.small hS0); replace hS0 := S.next hS0 hb; replace hF := hF.next hb)
 refine hK.out _ _ (hHeld1.next hb) (fun hHeld2 => ?_)
 clear hK K; try clear hb
 try go_frame
 refine ty [6] ?_
 refine AllReadyH.cons rfl (fun K hK => ?_) AllReadyH.nil
 go_simp
 ((with_reducible refine (EA.out _ _ _ _ hr2 hx2 hS0 (by omega)).mono ?_); rintro e w3 ⟨⟨uu, rfl⟩, X', hf, hS3⟩; have hfr := hF.1.1.trans hf; have hF3 := (hF.turn hf).ke)
 refine hK.out _ _ (hF3) (fun hHeld3 => ?_)
 clear hK K; try clear hb
 try go_frame
 refine wpAnyH_done (by kernel_rfl) ?_ _
 have hHeld := hHeld3
 obtain ⟨⟨_,_,_⟩,⟨_,_,_⟩,⟨_,_,_⟩,⟨_,_,_⟩,⟨_,_,_⟩,⟨_,_,_⟩,⟨_,_,_⟩,⟨_,_,_⟩,⟨_,_,_⟩,_⟩ := hHeld.2
 rotate_left 1
 refine AllReadyH.cons rfl (fun K hK => ?_) ?_
 go_simp
 ((with_reducible refine (DF.out _ hu1).mono ?_); rintro e w2 ⟨dv, rfl, hb, ho⟩; have hr2 := reads_own (k := .i64) ho; have hx2 := own_free ho (S.small hS0); replace hS0 := S.next hS0 hb; replace hF := hF.next hb)
 refine hK.out _ _ (hHeld0.next hb) (fun hHeld4 => ?_)
 clear hK K; try clear hb
 try go_frame
 refine ty [1] ?_
 refine AllReadyH.cons rfl (fun K hK => ?_) AllReadyH.nil
 go_simp
 refine hK.out _ _ hHeld4 (fun hHeld5 => ?_)
 clear hK K; try clear hb
 try go_frame
 refine ty [6] ?_
 refine AllReadyH.cons rfl (fun K hK => ?_) AllReadyH.nil
 go_simp
 ((with_reducible refine (EA.out _ _ _ _ hr2 hx2 hS0 (by omega)).mono ?_); rintro e w3 ⟨⟨uu, rfl⟩, X', hf, hS3⟩; have hfr := hF.1.1.trans hf; have hF3 := (hF.turn hf).ke)
 refine hK.out _ _ (hF3) (fun hHeld6 => ?_)
 clear hK K; try clear hb
 try go_frame
 refine wpAnyH_done (by kernel_rfl) ?_ _
 have hHeld := hHeld6
 obtain ⟨⟨_,_,_⟩,⟨_,_,_⟩,⟨_,_,_⟩,⟨_,_,_⟩,⟨_,_,_⟩,⟨_,_,_⟩,⟨_,_,_⟩,⟨_,_,_⟩,⟨_,_,_⟩,_⟩ := hHeld.2
 rotate_left 1
 exact AllReadyH.nil
 all_goals
  go_wp2_with fail
  go_returns
  exact ⟨⟨_, rfl⟩, X', hfr, hS3⟩
end Go.Proofs.YtcfidimnbamnkaaGreat.P12

/-
 Layer 12: what takes the bytes of a number: Size adds them up, Encode appends them. Conditions: those written at each fact.
-/
namespace Go.Proofs.YtcfidimnbamnkaaGreat.P12
open Go.RowKit Go.Shelf Go.Proofs.YtcfidimnbamnkaaGreat.P2 Go.Proofs.YtcfidimnbamnkaaGreat.P7 Go.Proofs.YtcfidimnbamnkaaGreat.P11

theorem cells_set {B : Nat} {y : Value} {W : World} (h : Cells [(B, 0, y)] W) (u : Value) : Fr (fun k => k = B) (fun k => k = B) W (W.setCell ⟨B, 0, none⟩ u) ∧ Cells [(B, 0, u)] (W.setCell ⟨B, 0, none⟩ u) := by
 obtain ⟨⟨h1, h2, h3⟩, _⟩ := h
 have h4 := Cells.upd (L := [(B, 0, y)]) (u := u) h2 ⟨⟨h1, h2, h3⟩, trivial⟩
 have h5 : updL B 0 u [(B, 0, y)] = [(B, 0, u)] := by simp [updL]
 rw [h5] at h4
 exact ⟨⟨rfl, rfl, rfl, by simp [World.setCell], fun k _ hx => Below.heap_setCell W ⟨B, 0, none⟩ u k hx, fun _ _ h => h⟩, h4⟩
def sizeL (B : Nat) : Laying where
 St l X W := X = (fun k => k = B) ∧ Cells [(B, 0, .int .i64 l.length)] W
 next h hb := ⟨h.1, h.2.next hb⟩
 small h k hk := by
  obtain ⟨rfl, h2⟩ := h
  exact hk ▸ h2.1.1
set_option maxRecDepth 100000 in
theorem size_takes (B : Nat) : Takes 98 (.pointer (some ⟨B, 0, none⟩)) (sizeL B) := by
 intro l b X v W hl hb hS hr
 obtain ⟨rfl, hK⟩ := hS
 obtain ⟨A, c, rfl, hc, _⟩ := hr
 have hs := cells_set hK (.int .i64 ((l.length : Int) + (b.length : Int)))
 obtain ⟨⟨kz0, kc0, kf0⟩, _⟩ := hK
 go_enter Tryz.func98, Tryz.ntmps98
 go_wp2_with fail
 go_returns
 exact ⟨⟨_, rfl⟩, _, hs.1, rfl, by simpa [List.length_append] using hs.2⟩

theorem wpList_append_at {P : Program} (w : World) {ops : Array Oper} {rest : List Oper} {o : Oper} {a : Act} {Q : Exit → Act → World → Prop} (hgd : o.guard = none) (s x : Operand) (t : TypeId)
  (ho : o.op = .call { callee := .builtin .append, args := #[s, x], argTypes := #[t, t] })
  (base : Nat) (e : TypeId) (i : TypeInfo) (z : Value) (size bytes : Nat) (ht : P.underlying t = some (.slice e)) (hi : P.info? e = some i) (hz : i.zero = some z)
  (hsize : i.size = size) (hby : i.bytes = bytes) (hzs : z.cells.size = size) (hsz : 0 < size)
  (v : Value) (n : Nat) (xs : List Value) (hs : a.eval s = v) (hown : w.ownsRow base e size v n xs)
  (ad : Addr) (m c : Nat) (news : List Value) (hx : a.eval x = .slice (some ad) m c) (hl : news.length = m * size) (hnews : ∀ j u, news[j]? = some u → w.cell? (ad.add j) = some u) (h1 : ∀ u ∈ news, u.oneCell' = true)
  (h63 : n + m ≤ maxLen) (hbytes : (n + m) * bytes ≤ 140737488355328) (hbase : base ≤ w.heap.size)
  (h : ∀ v' w', w'.ownsRow base e size v' (n + m) (xs ++ news) → w.grownBy w' v.ownBlock → (v'.ownBlock = v.ownBlock ∨ v'.ownBlock = some w.heap.size) → wpList P ops Q rest (a.put o.dst v') w') : wpList P ops Q (o :: rest) a w :=
 wpList_step fun _ hK => by
  rw [if_pos (by simp [Region.wanted, hgd])]
  obtain ⟨v', w', hr, h2, h3, _, h5⟩ := run_append_own_at (P := P) (w := w) base t o.type e i z size bytes ht hi hz hsize hby hzs hsz v n xs hown ad m c news hl hnews h1 h63 hbytes hbase
  unfold Oper.wp execOp
  simp only [ho, resolve, invoke, builtin, Sem.run_bind, Sem.run_pure, Result.andThen_ok, List.map_toArray, List.map_cons, List.map_nil, hs, hx, hr]
  exact hK _ _ (h v' w' h2 h3 h5)
theorem own_keep {W W' : World} {B : Nat} {ty : TypeId} {s n : Nat} {v : Value} {xs : List Value} (h : W.ownsRow B ty s v n xs) (hb : ∀ k, B ≤ k → k < W.heap.size → W'.heap[k]? = W.heap[k]?) : W'.ownsRow B ty s v n xs := by
 obtain ⟨h1, h2⟩ := h
 refine ⟨h1, ?_⟩
 rcases h2 with h2 | ⟨g, cap, cur, e1, e2, e3, e4⟩
 ·exact .inl h2
 ·refine .inr ⟨g, cap, cur, e1, e2, (hb g e2 ?_).trans e3, e4⟩
  obtain ⟨h, _⟩ := Array.getElem?_eq_some_iff.1 e3
  exact h
theorem own_in {W : World} {B : Nat} {ty : TypeId} {s n : Nat} {v : Value} {xs : List Value} (h : W.ownsRow B ty s v n xs) {k : Nat} (hk : v.ownBlock = some k) : B ≤ k ∧ k < W.heap.size := by
 obtain ⟨h1, h2⟩ := h
 rcases h2 with ⟨rfl, _⟩ | ⟨g, cap, cur, rfl, e2, e3, _⟩
 ·cases hk
 ·obtain rfl : g = k := by simpa [Value.ownBlock] using hk
  obtain ⟨h, _⟩ := Array.getElem?_eq_some_iff.1 e3
  exact ⟨e2, h⟩
theorem own_slice {W : World} {B : Nat} {ty : TypeId} {s n : Nat} {v : Value} {xs : List Value} (h : W.ownsRow B ty s v n xs) (hn : 1 ≤ n) : ∃ g c, v = .slice (some ⟨g, 0, none⟩) n c := by
 rcases h.2 with ⟨_, h0⟩ | ⟨g, c, _, e, _⟩
 ·omega
 ·exact ⟨g, c, e⟩
def encL (C : Nat) : Laying where
 St l X W := ∃ v, X = (fun k => k = C ∨ v.ownBlock = some k) ∧ Cells [(C, 0, v)] W ∧ W.ownsRow (C + 1) 5 1 v l.length (l.map (Value.int .u8))
 next h hb := by
  obtain ⟨v, h1, h2, h3⟩ := h
  exact ⟨v, h1, h2.next hb, own_keep h3 fun k _ hk => hb.block k hk⟩
 small h k hk := by
  obtain ⟨v, rfl, h2, h3⟩ := h
  rcases hk with rfl | hk
  ·exact h2.1.1
  ·exact (own_in h3 hk).2
theorem enc_step {C : Nat} {v v' : Value} {W w' : World} {l b : List Int} (hK : Cells [(C, 0, v)] W) (ho : W.ownsRow (C + 1) 5 1 v l.length (l.map (Value.int .u8)))
  (ho' : w'.ownsRow (C + 1) 5 1 v' (l.length + b.length) (l.map (Value.int .u8) ++ b.map (Value.int .u8))) (hg : W.grownBy w' v.ownBlock) (h5 : v'.ownBlock = v.ownBlock ∨ v'.ownBlock = some W.heap.size) :
  ∃ X', Fr (fun k => k = C ∨ v.ownBlock = some k) X' W (w'.setCell ⟨C, 0, none⟩ v') ∧ (encL C).St (l ++ b) X' (w'.setCell ⟨C, 0, none⟩ v') := by
 have hne : some C ≠ v.ownBlock := fun e => by
  have := (own_in ho e.symm).1
  omega
 obtain ⟨⟨z, c0, f0⟩, _⟩ := hK
 have hk := hg.block C z hne
 have hK' : Cells [(C, 0, v)] w' := ⟨⟨Nat.lt_of_lt_of_le z hg.size, (World.cell?_of_block (w := W) (w' := w') (a := ⟨C, 0, none⟩) hk).trans c0, (World.frozen?_of_block (w := W) (w' := w') (a := ⟨C, 0, none⟩) hk).trans f0⟩, trivial⟩
 have hs := cells_set hK' v'
 refine ⟨fun k => k = C ∨ v'.ownBlock = some k, ⟨hs.1.os.trans hg.os, hs.1.tape.trans hg.tape, hs.1.output.trans hg.output, Nat.le_trans hg.size hs.1.size, fun k hk hx => ?_, fun k hk hx hx' => ?_⟩, v', rfl, hs.2, ?_⟩
 ·exact (hs.1.block k (Nat.lt_of_lt_of_le hk hg.size) (fun e => hx (.inl e))).trans (hg.block k hk (fun e => hx (.inr e.symm)))
 ·rcases hx' with rfl | hx'
  ·exact hx (.inl rfl)
  ·rcases h5 with h5 | h5
   ·exact hx (.inr (h5 ▸ hx'))
   ·rw [h5] at hx'
    cases hx'
    omega
 ·have h6 := own_keep (W' := w'.setCell ⟨C, 0, none⟩ v') ho' (fun k hk1 _ => Below.heap_setCell w' ⟨C, 0, none⟩ v' k (by simp only; omega))
  simpa using h6
set_option maxRecDepth 100000 in
theorem enc_takes (C : Nat) : Takes 97 (.pointer (some ⟨C, 0, none⟩)) (encL C) := by
 intro l b X v W hl hb hS hr
 obtain ⟨vr, rfl, hK, ho⟩ := hS
 obtain ⟨i0, hi, hz0, hz1, hz2⟩ := info_parts infoU8
 obtain ⟨A, c, rfl, hc, hk⟩ := hr
 obtain ⟨ad, rfl⟩ : ∃ ad, A = some ad := by
  obtain ⟨bb, off, e1, _⟩ := hk 0 _ (List.getElem?_eq_getElem (by omega))
  exact ⟨_, e1⟩
 have hn : ∀ j u, (b.map (Value.int .u8))[j]? = some u → W.cell? (ad.add j) = some u := fun j u hj => by
  rw [List.getElem?_map] at hj
  cases hbj : b[j]? with
  | none => rw [hbj] at hj; cases hj
  | some z =>
   rw [hbj] at hj
   cases hj
   obtain ⟨bb, off, e1, e2, e3⟩ := hk j z hbj
   cases e1
   unfold Addr.add
   split
   ·rename_i h0
    subst h0
    simpa using e3
   ·exact e3
 have hC := hK.1.1
 have ST := Lib.hid (fun v' w' (ho' : w'.ownsRow (C + 1) 5 1 v' (l.length + b.length) (l.map (Value.int .u8) ++ b.map (Value.int .u8))) (hg : W.grownBy w' vr.ownBlock) h5 => enc_step hK ho ho' hg h5)
 have hne : some C ≠ vr.ownBlock := fun e => by
  have := (own_in ho e.symm).1
  omega
 obtain ⟨⟨kz0, kc0, kf0⟩, _⟩ := hK
 go_enter Tryz.func97, Tryz.ntmps97
 go_wp2_with (at_builtin; refine wpList_append_at _ rfl _ _ 76 rfl (C + 1) 5 i0 (.int .u8 0) 1 1 Tryz.underlying76 hi hz0 hz1 hz2 rfl (by decide) _ _ _ rfl ho ad b.length c (b.map (Value.int .u8)) rfl (by simp) hn (by simp [Value.oneCell']) (by unfold maxLen; omega) (by omega) (by omega) ?_; intro v3 w3 hown3 hgrow3 h53; obtain ⟨g3, cap3, rfl⟩ : ∃ g cp, v3 = .slice (some ⟨g, 0, none⟩) (l.length + b.length) cp := own_slice hown3 (by omega); have hS3 := ST.out _ w3 hown3 hgrow3 h53; have hg3 : W.grownBy w3 vr.ownBlock := hgrow3; have kc3 := hg3.cell kc0 hne; have kf3 := (World.frozen?_of_block (w := W) (w' := w3) (a := ⟨C, 0, none⟩) (hg3.block C kz0 hne)).trans kf0)
 go_returns
 obtain ⟨X', h1, h2⟩ := hS3
 exact ⟨⟨_, rfl⟩, X', h1, h2⟩
end Go.Proofs.YtcfidimnbamnkaaGreat.P12

/-
 Layer 12: what a kind has besides its runs, for a segment that may be; a segment's bytes. Conditions: those written at each fact.
-/
namespace Go.Proofs.YtcfidimnbamnkaaGreat.P12
open Go.RowKit Go.Shelf Go.Proofs.YtcfidimnbamnkaaGreat.P2 Go.Proofs.YtcfidimnbamnkaaGreat.P7 Go.Proofs.YtcfidimnbamnkaaGreat.P11

def restBytes (s : Sg) : List Int :=
 if s.k = 1 then sBytes s.a else if s.k = 2 then sBytes s.n ++ (uBytes s.d ++ sBytes s.a)
 else if s.k = 3 then uBytes s.r ++ (sBytes s.n ++ (uBytes s.d ++ sBytes s.a)) else (diffs 0 s.V).flatMap sBytes
def segBytes (s : Sg) : List Int := uBytes s.k ++ (uBytes s.e ++ uBytes s.R.length) ++ encR 0 s.R ++ restBytes s
theorem line_oks {a r n d : Int} (h : lineB a r n d = true) : sOk a ∧ uOk r ∧ sOk n ∧ uOk d := by
 obtain ⟨h1, _, h2, h3, h4⟩ := (lineB_iff a r n d).1 h
 simp only [slopeB, backB, Bool.and_eq_true, decide_eq_true_eq] at h1 h2
 unfold sOk uOk
 omega
theorem rest_any (S : Laying) (fn : Nat) (cap : Value) (eK : ∀ args w, (callFunc fn args).run Tryz.prog w = .ok (.enter fn args) w) (hT : Takes fn cap S) (s : Sg) (hs : segB s = true) (v u : Value) (W0 W : World) (hu : Reads .i64 W0 u s.V) (hW0 : Below W0.heap.size W0 W) (l : List Int) (X : Nat → Prop) (hl : l.length ≤ 90000) (hS : S.St l X W) :
  Calls Tryz.prog 151 #[layV s.k v s.a s.r s.n s.d u s.e (.func (.func fn) #[] #[cap])] W (Did S X W (l ++ restBytes s)) := by
 obtain ⟨h1, _, _, h4, h5⟩ := (segB_iff s).1 hs
 obtain ⟨k, R, a, r, n, d, V, e⟩ := s
 unfold restBytes
 simp only at h1 h4 h5 hu ⊢
 by_cases g : k = 4
 ·subst g
  rw [if_pos rfl] at h4
  unfold vals at h5
  rw [if_pos rfl] at h5
  simp only [rawOk, Bool.and_eq_true, decide_eq_true_eq] at h4
  obtain ⟨f1, f2, f3, f4⟩ := okB_facts h1
  simp only [show (4 : Int) ≠ 1 from by decide, show (4 : Int) ≠ 2 from by decide, show (4 : Int) ≠ 3 from by decide, if_false]
  exact rest_raw S fn cap eK hT v a r n d u e W0 W V (fun z hz => by have := h5 z hz; simp only [backB, Bool.and_eq_true, decide_eq_true_eq] at this; exact this) (by omega) hu hW0 l X hl hS
 ·rw [if_neg g] at h4
  simp only [lineOk, Bool.and_eq_true, decide_eq_true_eq] at h4
  obtain ⟨_, hb, hk⟩ := h4
  obtain ⟨oa, or, on, od⟩ := line_oks hb
  rcases kindL_cases n r with ⟨h, _⟩ | ⟨h, _⟩ | ⟨h, _⟩ <;> rw [h] at hk <;> subst hk
  ·exact rest_flat S fn cap eK hT v a r n d u e oa l X W hl hS
  ·simpa using rest_tilt S fn cap eK hT v a r n d u e on od oa l X W hl hS
  ·simpa using rest_free S fn cap eK hT v a r n d u e or on od oa l X W hl hS
end Go.Proofs.YtcfidimnbamnkaaGreat.P12

/-
 Layer 12: lay, of any segment. Conditions: those written at each fact.
-/
namespace Go.Proofs.YtcfidimnbamnkaaGreat.P12
open Go.RowKit Go.Shelf Go.Proofs.YtcfidimnbamnkaaGreat.P2 Go.Proofs.YtcfidimnbamnkaaGreat.P7 Go.Proofs.YtcfidimnbamnkaaGreat.P11

theorem reads_three {w : World} {x y z : Int} : Reads .i64 (w.alloc (.cells #[.int .i64 x, .int .i64 y, .int .i64 z] 2)) (.slice (some ⟨w.heap.size, 0, none⟩) 3 3) [x, y, z] := by
 refine ⟨_, _, rfl, Nat.le_refl _, fun i x hi => ⟨w.heap.size, 0, rfl, by simp, ?_⟩⟩
 match i, hi with
 | 0, hi => simp at hi; subst hi; simp [go_sem]
 | 1, hi => simp at hi; subst hi; simp [go_sem]
 | 2, hi => simp at hi; subst hi; simp [go_sem]
 | i + 3, hi => simp at hi
theorem Fr.high {X X' : Nat → Prop} {W0 W W' : World} (h : Fr X X' W W') (hb : Below W0.heap.size W0 W) (hX : ∀ k, X k → W0.heap.size ≤ k) : Below W0.heap.size W0 W' ∧ ∀ k, X' k → W0.heap.size ≤ k := by
 refine ⟨hb.trans (h.below hb.size hX), fun k hk => ?_⟩
 by_cases g : k < W0.heap.size
 ·exact absurd hk (h.more k (Nat.lt_of_lt_of_le g hb.size) (fun hx => by have := hX k hx; omega))
 ·omega
set_option maxRecDepth 100000 in
set_option maxHeartbeats 4000000 in
theorem lay_bad (S : Laying) (fn : Nat) (cap : Value) (s : Sg) (hs : segB s = false) (hR : s.R.length ≤ 1000000) (hV : s.V.length ≤ 1000000) (v u : Value) (W0 W : World) (hv : ReadsR W0 v s.R) (hu : Reads .i64 W0 u s.V) (hW0 : Below W0.heap.size W0 W) (X : Nat → Prop) (hS : S.St [] X W) :
  Calls Tryz.prog 96 #[sgV s.k v s.a s.r s.n s.d u s.e, .func (.func fn) #[] #[cap]] W (fun e w' => e = .returned (.int .i64 210) ∧ Fr X X W w' ∧ S.St [] X w') := by
 have CK := Lib.hid (fun W' (hb : Below W0.heap.size W0 W') => P11.check_any s hR hV v u W' (hv.below hb) (hu.below hb))
 rw [hs] at CK
 clear hs
 obtain ⟨k, R, a, r, n, d, V, e⟩ := s
 simp only [Bool.false_eq_true, if_false] at CK ⊢
 have hS0 := S.next hS (below_alloc W (sgO 27 k v a r n d u e))
 have hB := hW0.trans ((below_alloc W (sgO 27 k v a r n d u e)).mono hW0.size)
 have hF := below_alloc W (sgO 27 k v a r n d u e)
 go_enter Tryz.func96, Tryz.ntmps96
 go_wp2_with fail
 refine (CK.out _ hB).mono ?_
 rintro en w1 ⟨rfl, hb⟩
 go_wp2_with fail
 go_ret
 exact ⟨rfl, Fr.of (hF.trans (hb.mono hF.size)), S.next hS0 hb⟩
set_option maxRecDepth 100000 in
set_option maxHeartbeats 4000000 in
theorem lay_good (S : Laying) (fn : Nat) (cap : Value) (eK : ∀ args w, (callFunc fn args).run Tryz.prog w = .ok (.enter fn args) w) (hT : Takes fn cap S) (s : Sg) (hs : segB s = true) (hR : s.R.length ≤ 1000000) (hV : s.V.length ≤ 1000000) (v u : Value) (W0 W : World) (hv : ReadsR W0 v s.R) (hu : Reads .i64 W0 u s.V) (hW0 : Below W0.heap.size W0 W) (X : Nat → Prop) (hX : ∀ k, X k → W0.heap.size ≤ k) (hS : S.St [] X W) :
  Calls Tryz.prog 96 #[sgV s.k v s.a s.r s.n s.d u s.e, .func (.func fn) #[] #[cap]] W (fun e w' => e = .returned (.int .i64 0) ∧ ∃ X', Fr X X' W w' ∧ S.St (segBytes s) X' w') := by
 have CK := Lib.hid (fun W' (hb : Below W0.heap.size W0 W') => P11.check_any s hR hV v u W' (hv.below hb) (hu.below hb))
 rw [hs] at CK
 obtain ⟨h1, e0, e1, h4, _⟩ := (segB_iff s).1 hs
 obtain ⟨f1, f2, f3, f4⟩ := okB_facts h1
 have hk : uOk s.k := by
  unfold uOk
  rcases segB_kind hs with ⟨h, _⟩ | ⟨h, _⟩ <;> omega
 have he : uOk s.e := ⟨e0, by omega⟩
 have hN : uOk (s.R.length : Int) := ⟨by omega, by omega⟩
 have hxv : ∀ A n c, v = .slice (some A) n c → A.block < W0.heap.size := fun A n c e => by
  obtain ⟨A', c', e', _, hk'⟩ := hv
  obtain ⟨bb, off, g1, g2, _⟩ := hk' 0 _ (List.getElem?_eq_getElem (List.length_pos_iff.2 f1))
  rw [e'] at e
  cases e
  cases g1
  exact g2
 have EA := Lib.hid (fun X (W' : World) (hS : S.St [] X W') => each_any S 149 (layV s.k v s.a s.r s.n s.d u s.e (.func (.func fn) #[] #[cap])) (enters_of Tryz.func149 (by kernel_rfl) rfl) uBytes uOk (plain_lays S fn cap eK hT s.k v s.a s.r s.n s.d u s.e) (fun z hz => (uBytes_len hz).2) [s.k, s.e, (s.R.length : Int)] (by simp [hk, he, hN]) [] (by simp) X (.slice (some ⟨W'.heap.size, 0, none⟩) 3 3) (W'.alloc (.cells #[.int .i64 s.k, .int .i64 s.e, .int .i64 s.R.length] 2)) reads_three (fun A n c e => by cases e; exact fun hx => Nat.lt_irrefl _ (S.small hS _ hx)) (S.next hS (below_alloc W' _)))
 have hl3 : (uBytes s.k ++ (uBytes s.e ++ uBytes s.R.length)).length ≤ 30 := by
  have := uBytes_len hk
  have := uBytes_len he
  have := uBytes_len hN
  simp only [List.length_append]
  omega
 have hlr := encR_len s.R 0 (goes_ok h1)
 have RU := Lib.hid (fun X (W' : World) (hb : Below W0.heap.size W0 W') (hX : ∀ k, X k → W0.heap.size ≤ k) (hS : S.St (uBytes s.k ++ (uBytes s.e ++ uBytes s.R.length)) X W') => lruns_any S fn cap eK hT s.R (goes_ok h1) f4 s.k v s.a s.r s.n s.d u s.e _ X W' (by omega) (hv.below hb) (fun A n c e hx => by have := hxv A n c e; have := hX _ hx; omega) hS)
 have RE := Lib.hid (fun X (W' : World) (hb : Below W0.heap.size W0 W') (hS : S.St (uBytes s.k ++ (uBytes s.e ++ uBytes s.R.length) ++ encR 0 s.R) X W') => rest_any S fn cap eK hT s hs v u W0 W' hu hb _ X (by simp only [List.length_append] at hl3 hlr ⊢; omega) hS)
 have hsb : segBytes s = uBytes s.k ++ (uBytes s.e ++ uBytes s.R.length) ++ encR 0 s.R ++ restBytes s := rfl
 rw [hsb]
 generalize restBytes s = rb at *
 clear hs hk he hN hl3 hlr hsb h1 h4 f1 f2 f3 hT e0 e1
 obtain ⟨k, R, a, r, n, d, V, e⟩ := s
 obtain ⟨Av, cv, rfl, _, _⟩ := hv
 obtain ⟨Au, cu, rfl, _, _⟩ := hu
 simp only [if_true] at CK EA RU RE hR ⊢
 have hsm := S.small hS
 have hK : KF X W [(W.heap.size, 0, .int .i64 k), (W.heap.size, 1, .slice Av R.length cv), (W.heap.size, 2, .int .i64 a), (W.heap.size, 3, .int .i64 r), (W.heap.size, 4, .int .i64 n), (W.heap.size, 5, .int .i64 d), (W.heap.size, 6, .slice Au V.length cu), (W.heap.size, 7, .int .i64 e)] X (W.alloc (sgO 27 k (.slice Av R.length cv) a r n d (.slice Au V.length cu) e)) := KF.start (below_alloc W _) (by simp [Cells, go_sem]) (by
  have h0 : ¬ X W.heap.size := fun hx => by have := hsm _ hx; omega
  simp [h0])
 have hS0 := S.next hS (below_alloc W (sgO 27 k (.slice Av R.length cv) a r n d (.slice Au V.length cu) e))
 have hB := hW0.trans ((below_alloc W (sgO 27 k (.slice Av R.length cv) a r n d (.slice Au V.length cu) e)).mono hW0.size)
 clear hS
 go_enter Tryz.func96, Tryz.ntmps96
 go_wp2_with fail
 refine (CK.out _ hB).mono ?_
 rintro en w1 ⟨rfl, hb⟩
 replace hK := hK.next hb
 replace hS0 := S.next hS0 hb
 replace hB := hB.trans (hb.mono hB.size)
 clear hb CK
 obtain ⟨⟨kz0,kc0,kf0⟩,⟨kz1,kc1,kf1⟩,⟨kz2,kc2,kf2⟩,⟨kz3,kc3,kf3⟩,⟨kz4,kc4,kf4⟩,⟨kz5,kc5,kf5⟩,⟨kz6,kc6,kf6⟩,⟨kz7,kc7,kf7⟩,_⟩ := hK.2
 go_upto_region 5 with (fail)
 have hn2 : ¬ X w1.heap.size := fun hx => Nat.lt_irrefl _ (S.small hS0 _ hx)
 have hK2 : KF X W ([(W.heap.size, 0, .int .i64 k), (W.heap.size, 1, .slice Av R.length cv), (W.heap.size, 2, .int .i64 a), (W.heap.size, 3, .int .i64 r), (W.heap.size, 4, .int .i64 n), (W.heap.size, 5, .int .i64 d), (W.heap.size, 6, .slice Au V.length cu), (W.heap.size, 7, .int .i64 e)] ++ [(w1.heap.size, 0, .int .i64 k), (w1.heap.size, 1, .slice Av R.length cv), (w1.heap.size, 2, .int .i64 a), (w1.heap.size, 3, .int .i64 r), (w1.heap.size, 4, .int .i64 n), (w1.heap.size, 5, .int .i64 d), (w1.heap.size, 6, .slice Au V.length cu), (w1.heap.size, 7, .int .i64 e), (w1.heap.size, 8, .func (.func fn) #[] #[cap])]) X (w1.alloc (layO k (.slice Av R.length cv) a r n d (.slice Au V.length cu) e (.func (.func fn) #[] #[cap]))) := (hK.next (below_alloc _ _)).app (by simp [Cells, go_sem]) (by simp [hn2])
 have hS2 := S.next hS0 (below_alloc w1 (layO k (.slice Av R.length cv) a r n d (.slice Au V.length cu) e (.func (.func fn) #[] #[cap])))
 have hB2 := hB.trans ((below_alloc w1 (layO k (.slice Av R.length cv) a r n d (.slice Au V.length cu) e (.func (.func fn) #[] #[cap]))).mono hB.size)
 clear hK hS0 hB hn2 hsm
 (try clear kz0 kc0 kf0); (try clear kz1 kc1 kf1); (try clear kz2 kc2 kf2); (try clear kz3 kc3 kf3); (try clear kz4 kc4 kf4); (try clear kz5 kc5 kf5); (try clear kz6 kc6 kf6); (try clear kz7 kc7 kf7); (try clear kz8 kc8 kf8); (try clear kz9 kc9 kf9); (try clear kz10 kc10 kf10); (try clear kz11 kc11 kf11); (try clear kz12 kc12 kf12); (try clear kz13 kc13 kf13); (try clear kz14 kc14 kf14); (try clear kz15 kc15 kf15); (try clear kz16 kc16 kf16)
 generalize w1.alloc (layO k (.slice Av R.length cv) a r n d (.slice Au V.length cu) e (.func (.func fn) #[] #[cap])) = w2 at *
 obtain ⟨⟨kz0,kc0,kf0⟩,⟨kz1,kc1,kf1⟩,⟨kz2,kc2,kf2⟩,⟨kz3,kc3,kf3⟩,⟨kz4,kc4,kf4⟩,⟨kz5,kc5,kf5⟩,⟨kz6,kc6,kf6⟩,⟨kz7,kc7,kf7⟩,⟨kz8,kc8,kf8⟩,⟨kz9,kc9,kf9⟩,⟨kz10,kc10,kf10⟩,⟨kz11,kc11,kf11⟩,⟨kz12,kc12,kf12⟩,⟨kz13,kc13,kf13⟩,⟨kz14,kc14,kf14⟩,⟨kz15,kc15,kf15⟩,⟨kz16,kc16,kf16⟩,_⟩ := hK2.2
 go_wp2_with fail
 refine (EA.out X w2 hS2).mono ?_
 rintro en w3 ⟨⟨uu, rfl⟩, X1, hf, hS3⟩
 have hh := hf.high (W0 := W0) (hB2.trans ((below_alloc w2 _).mono hB2.size)) hX
 have hK3 := (hK2.next (below_alloc w2 _)).turn hf
 have hS3' : S.St (uBytes k ++ (uBytes e ++ uBytes R.length)) X1 w3 := by simpa using hS3
 clear hf hS3 hS2 EA
 (try clear kz0 kc0 kf0); (try clear kz1 kc1 kf1); (try clear kz2 kc2 kf2); (try clear kz3 kc3 kf3); (try clear kz4 kc4 kf4); (try clear kz5 kc5 kf5); (try clear kz6 kc6 kf6); (try clear kz7 kc7 kf7); (try clear kz8 kc8 kf8); (try clear kz9 kc9 kf9); (try clear kz10 kc10 kf10); (try clear kz11 kc11 kf11); (try clear kz12 kc12 kf12); (try clear kz13 kc13 kf13); (try clear kz14 kc14 kf14); (try clear kz15 kc15 kf15); (try clear kz16 kc16 kf16)
 obtain ⟨⟨kz0,kc0,kf0⟩,⟨kz1,kc1,kf1⟩,⟨kz2,kc2,kf2⟩,⟨kz3,kc3,kf3⟩,⟨kz4,kc4,kf4⟩,⟨kz5,kc5,kf5⟩,⟨kz6,kc6,kf6⟩,⟨kz7,kc7,kf7⟩,⟨kz8,kc8,kf8⟩,⟨kz9,kc9,kf9⟩,⟨kz10,kc10,kf10⟩,⟨kz11,kc11,kf11⟩,⟨kz12,kc12,kf12⟩,⟨kz13,kc13,kf13⟩,⟨kz14,kc14,kf14⟩,⟨kz15,kc15,kf15⟩,⟨kz16,kc16,kf16⟩,_⟩ := hK3.2
 go_wp2_with fail
 refine (RU.out X1 w3 hh.1 hh.2 hS3').mono ?_
 rintro en w4 ⟨⟨uu4, rfl⟩, X2, hf4, hS4⟩
 have hh4 := hf4.high hh.1 hh.2
 have hK4 := hK3.turn hf4
 clear hf4 hS3' RU
 (try clear kz0 kc0 kf0); (try clear kz1 kc1 kf1); (try clear kz2 kc2 kf2); (try clear kz3 kc3 kf3); (try clear kz4 kc4 kf4); (try clear kz5 kc5 kf5); (try clear kz6 kc6 kf6); (try clear kz7 kc7 kf7); (try clear kz8 kc8 kf8); (try clear kz9 kc9 kf9); (try clear kz10 kc10 kf10); (try clear kz11 kc11 kf11); (try clear kz12 kc12 kf12); (try clear kz13 kc13 kf13); (try clear kz14 kc14 kf14); (try clear kz15 kc15 kf15); (try clear kz16 kc16 kf16)
 obtain ⟨⟨kz0,kc0,kf0⟩,⟨kz1,kc1,kf1⟩,⟨kz2,kc2,kf2⟩,⟨kz3,kc3,kf3⟩,⟨kz4,kc4,kf4⟩,⟨kz5,kc5,kf5⟩,⟨kz6,kc6,kf6⟩,⟨kz7,kc7,kf7⟩,⟨kz8,kc8,kf8⟩,⟨kz9,kc9,kf9⟩,⟨kz10,kc10,kf10⟩,⟨kz11,kc11,kf11⟩,⟨kz12,kc12,kf12⟩,⟨kz13,kc13,kf13⟩,⟨kz14,kc14,kf14⟩,⟨kz15,kc15,kf15⟩,⟨kz16,kc16,kf16⟩,_⟩ := hK4.2
 go_wp2_with fail
 refine (RE.out X2 w4 hh4.1 hS4).mono ?_
 rintro en w5 ⟨⟨uu5, rfl⟩, X3, hf5, hS5⟩
 have hK5 := (hK4.turn hf5).1.1
 clear hf5 hS4 RE
 (try clear kz0 kc0 kf0); (try clear kz1 kc1 kf1); (try clear kz2 kc2 kf2); (try clear kz3 kc3 kf3); (try clear kz4 kc4 kf4); (try clear kz5 kc5 kf5); (try clear kz6 kc6 kf6); (try clear kz7 kc7 kf7); (try clear kz8 kc8 kf8); (try clear kz9 kc9 kf9); (try clear kz10 kc10 kf10); (try clear kz11 kc11 kf11); (try clear kz12 kc12 kf12); (try clear kz13 kc13 kf13); (try clear kz14 kc14 kf14); (try clear kz15 kc15 kf15); (try clear kz16 kc16 kf16)
 go_wp2_with fail
 go_ret
 exact ⟨rfl, X3, hK5, hS5⟩
def layE (s : Sg) : Int := if segB s then 0 else 210
def laidB (s : Sg) : List Int := if segB s then segBytes s else []
theorem lay_any (S : Laying) (fn : Nat) (cap : Value) (eK : ∀ args w, (callFunc fn args).run Tryz.prog w = .ok (.enter fn args) w) (hT : Takes fn cap S) (s : Sg) (hR : s.R.length ≤ 1000000) (hV : s.V.length ≤ 1000000) (v u : Value) (W0 W : World) (hv : ReadsR W0 v s.R) (hu : Reads .i64 W0 u s.V) (hW0 : Below W0.heap.size W0 W) (X : Nat → Prop) (hX : ∀ k, X k → W0.heap.size ≤ k) (hS : S.St [] X W) :
  Calls Tryz.prog 96 #[sgV s.k v s.a s.r s.n s.d u s.e, .func (.func fn) #[] #[cap]] W (fun e w' => e = .returned (.int .i64 (layE s)) ∧ ∃ X', Fr X X' W w' ∧ S.St (laidB s) X' w') := by
 unfold layE laidB
 cases g : segB s
 ·exact (lay_bad S fn cap s g hR hV v u W0 W hv hu hW0 X hS).mono fun e w' h => ⟨h.1, X, h.2⟩
 ·exact lay_good S fn cap eK hT s g hR hV v u W0 W hv hu hW0 X hX hS
end Go.Proofs.YtcfidimnbamnkaaGreat.P12

/-
 Layer 12: Encode and Size, of any segment. Conditions: those written at each fact.
-/
namespace Go.Proofs.YtcfidimnbamnkaaGreat.P12
open Go.RowKit Go.Shelf Go.Proofs.YtcfidimnbamnkaaGreat.P2 Go.Proofs.YtcfidimnbamnkaaGreat.P7 Go.Proofs.YtcfidimnbamnkaaGreat.P11

theorem own_low {W : World} {B B' : Nat} {ty : TypeId} {s n : Nat} {v : Value} {xs : List Value} (h : W.ownsRow B ty s v n xs) (hb : B' ≤ B) : W.ownsRow B' ty s v n xs := by
 obtain ⟨h1, h2⟩ := h
 refine ⟨h1, ?_⟩
 rcases h2 with h2 | ⟨g, cap, cur, e1, e2, e3⟩
 ·exact .inl h2
 ·exact .inr ⟨g, cap, cur, e1, Nat.le_trans hb e2, e3⟩
def EncS (w : World) (s : Sg) (e : Ending) (w' : World) : Prop := ∃ bv, e = .returned (.tuple #[bv, .int .i64 (layE s)]) ∧ Below w.heap.size w w' ∧ w'.ownsRow w.heap.size 5 1 bv (laidB s).length ((laidB s).map (Value.int .u8))
set_option maxRecDepth 100000 in
set_option maxHeartbeats 4000000 in
theorem encode_any (s : Sg) (hR : s.R.length ≤ 1000000) (hV : s.V.length ≤ 1000000) (v u : Value) (W : World) (hv : ReadsR W v s.R) (hu : Reads .i64 W u s.V) :
  Calls Tryz.prog 44 #[sgV s.k v s.a s.r s.n s.d u s.e] W (EncS W s) := by
 have LY := Lib.hid (fun C W' (hb : Below W.heap.size W W') (hC : W.heap.size ≤ C) (hS : (encL C).St [] (fun k => k = C ∨ (Value.slice none 0 0).ownBlock = some k) W') => lay_any (encL C) 97 (.pointer (some ⟨C, 0, none⟩)) (enters_of Tryz.func97 (by kernel_rfl) rfl) (enc_takes C) s hR hV v u W W' hv hu hb (fun k => k = C ∨ (Value.slice none 0 0).ownBlock = some k) (fun k hk => by
  rcases hk with rfl | hk
  ·exact hC
  ·cases hk) hS)
 unfold EncS
 generalize laidB s = lb at *
 generalize layE s = le at *
 obtain ⟨k, R, a, r, n, d, V, e⟩ := s
 obtain ⟨Av, cv, rfl, _, _⟩ := hv
 obtain ⟨Au, cu, rfl, _, _⟩ := hu
 simp only at LY hR ⊢
 go_enter Tryz.func44, Tryz.ntmps44
 go_upto_region 2 with (fail)
 go_wp2_with fail
 have hB : Below W.heap.size W ((W.alloc (sgO 27 k (.slice Av R.length cv) a r n d (.slice Au V.length cu) e)).alloc (.cells #[.slice none 0 0] 76)) := (below_alloc W _).trans ((below_alloc (W.alloc (sgO 27 k (.slice Av R.length cv) a r n d (.slice Au V.length cu) e)) _).mono (below_alloc W _).size)
 refine (LY.out (W.heap.size + 1) _ hB (by omega) ⟨_, rfl, by simp [Cells, go_sem], ⟨rfl, .inl ⟨rfl, rfl⟩⟩⟩).mono ?_
 rintro en w1 ⟨rfl, X', hf, bv, hX', hc, ho⟩
 have hh := (hf.high hB (fun k hk => by
  rcases hk with rfl | hk
  ·omega
  ·cases hk)).1
 obtain ⟨A2, c2, rfl, _⟩ := reads_own (k := .u8) ho
 obtain ⟨⟨kz0, kc0, kf0⟩, _⟩ := hc
 go_wp2_with fail
 go_returns
 exact ⟨_, rfl, hh, own_low ho (by omega)⟩
def SizeS (w : World) (s : Sg) (e : Ending) (w' : World) : Prop := e = .returned (.tuple #[.int .i64 (laidB s).length, .int .i64 (layE s)]) ∧ Below w.heap.size w w'
set_option maxRecDepth 100000 in
set_option maxHeartbeats 4000000 in
theorem size_any (s : Sg) (hR : s.R.length ≤ 1000000) (hV : s.V.length ≤ 1000000) (v u : Value) (W : World) (hv : ReadsR W v s.R) (hu : Reads .i64 W u s.V) :
  Calls Tryz.prog 45 #[sgV s.k v s.a s.r s.n s.d u s.e] W (SizeS W s) := by
 have LY := Lib.hid (fun C W' (hb : Below W.heap.size W W') (hC : W.heap.size ≤ C) (hS : (sizeL C).St [] (fun k => k = C) W') => lay_any (sizeL C) 98 (.pointer (some ⟨C, 0, none⟩)) (enters_of Tryz.func98 (by kernel_rfl) rfl) (size_takes C) s hR hV v u W W' hv hu hb (fun k => k = C) (fun k hk => by
  subst hk
  exact hC) hS)
 unfold SizeS
 generalize laidB s = lb at *
 generalize layE s = le at *
 obtain ⟨k, R, a, r, n, d, V, e⟩ := s
 obtain ⟨Av, cv, rfl, _, _⟩ := hv
 obtain ⟨Au, cu, rfl, _, _⟩ := hu
 simp only at LY hR ⊢
 go_enter Tryz.func45, Tryz.ntmps45
 go_upto_region 2 with (fail)
 go_wp2_with fail
 have hB : Below W.heap.size W ((W.alloc (sgO 27 k (.slice Av R.length cv) a r n d (.slice Au V.length cu) e)).alloc (.cells #[.int .i64 0] 3)) := (below_alloc W _).trans ((below_alloc (W.alloc (sgO 27 k (.slice Av R.length cv) a r n d (.slice Au V.length cu) e)) _).mono (below_alloc W _).size)
 refine (LY.out (W.heap.size + 1) _ hB (by omega) ⟨rfl, by simp [Cells, go_sem]⟩).mono ?_
 rintro en w1 ⟨rfl, X', hf, hX', hc⟩
 have hh := (hf.high hB (fun k hk => by omega)).1
 obtain ⟨⟨kz0, kc0, kf0⟩, _⟩ := hc
 go_wp2_with fail
 go_returns
 exact ⟨rfl, hh⟩
end Go.Proofs.YtcfidimnbamnkaaGreat.P12
