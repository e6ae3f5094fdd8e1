/-
  Layer 9: swing: the iterator over doors. Conditions: those written at each fact.
-/
import Derived.Test.YtoephkglpbophaaGreatSwE
import Derived.Test.YtoephkglpbophaaGreatRgT
namespace Go.Proofs.YtoephkglpbophaaGreat.P9
open Go.RowKit Go.Shelf Go.Proofs.YtoephkglpbophaaGreat.P8

/-- What the iterator hands over: how many bands there are, and what the door is that took them. -/
def seqD : Nat → Dr → List Bd → List (Nat × Dr)
  | _, _, [] => []
  | k, x, b :: l => (k + 1, stepD x b) :: seqD (k + 1) (stepD x b) l
abbrev encD (p : Nat × Dr) : Array Value := #[.int .i64 p.1, drV p.2]
abbrev takeV (T : Nat) : Value := .func (.func 68) #[.pointer (some ⟨T, 0, none⟩)] #[]
/-- The blocks that a round may turn; and with them the door's own. -/
def XP (P0 P1 : Nat) : World → Nat → Prop := fun _ k => k = P0 ∨ k = P1
def XQ (P0 P1 T : Nat) : World → Nat → Prop := fun _ k => k = P0 ∨ k = P1 ∨ k = T
theorem KeepsC.wider {P0 P1 T : Nat} {W W' : World} (h : KeepsC (XP P0 P1) W W') : KeepsC (XQ P0 P1 T) W W' :=
  ⟨h.1, fun _ hk => .inl hk, fun k o ho hc hx => h.2.2 k o ho hc (fun e => hx (by rcases e with e | e <;> simp [XQ, e]))⟩
theorem KeepsC.of_near {P0 P1 T : Nat} {W W' : World} (h : Near T W W') : KeepsC (XQ P0 P1 T) W W' :=
  ⟨h.size, fun _ hk => .inl hk, fun k o ho _ hx => (h.block k (Array.getElem?_eq_some_iff.1 ho).1 (fun e => hx (by simp [XQ, e]))).trans ho⟩
theorem KeepsC.of_lies {P0 P1 T : Nat} {W W' : World} (h : Below W.heap.size W W') : KeepsC (XQ P0 P1 T) W W' := KeepsC.of_near (Near.of h)
theorem cells_one {W : World} : ∀ {L : List (Nat × Nat × Value)}, Cells L W → ∀ B, (∀ q ∈ L, q.1 = B) → L ≠ [] → ∃ o : Obj, W.heap[B]? = some o ∧ o.isCells = true
  | [], _, _, _, h => absurd rfl h
  | (b, o, v) :: _, h, B, hB, _ => by
    have e : b = B := hB _ (List.mem_cons_self ..)
    subst e
    exact cells_of_cell h.1.2.1
theorem cells_block {W W' : World} {B : Nat} (h : W'.heap[B]? = W.heap[B]?) (hs : W.heap.size ≤ W'.heap.size) : ∀ {L : List (Nat × Nat × Value)}, Cells L W → (∀ q ∈ L, q.1 = B) → Cells L W'
  | [], _, _ => trivial
  | (b, o, v) :: L, hc, hB => by
    have e : b = B := hB _ (List.mem_cons_self ..)
    subst e
    refine ⟨⟨Nat.lt_of_lt_of_le hc.1.1 hs, (World.cell?_of_block (w := W) h).trans hc.1.2.1, ?_⟩, cells_block h hs hc.2 (fun q hq => hB q (List.mem_cons_of_mem _ hq))⟩
    have := hc.1.2.2
    unfold World.frozen? at this ⊢
    simp only [h]
    exact this
theorem DrAt.keep {X : World → Nat → Prop} {W W' : World} {T : Nat} {x : Dr} (h : DrAt W T x) (k : KeepsC X W W') (hx : ¬ X W T) : DrAt W' T x := by
  obtain ⟨o, ho, hc⟩ := cells_one h T (by simp) (by simp)
  exact cells_block ((k.2.2 T o ho hc hx).trans ho.symm) k.1 h (by simp)
set_option maxHeartbeats 1000000 in
theorem doors_any (v : Value) (T : Nat) (w : World) (A : Option Addr) (n c : Nat) (hv : v = .slice A n c) :
    Calls Tryz.prog 67 #[v, takeV T] w fun e w' => e = .returned (.func (.func 90) #[] #[.pointer (some ⟨w.heap.size, 0, none⟩), .pointer (some ⟨w.heap.size + 1, 0, none⟩)]) ∧ w' = (w.alloc (.cells #[v] 22)).alloc (.cells #[takeV T] 121) := by
  subst hv
  have hmf : ∀ (fn : Fn) (first cap : Array Value) (w : World), (Instr.makeFunc fn first cap).run Tryz.prog w = .ok (.func fn first cap) w := fun _ _ _ _ => rfl
  go_enter Tryz.func67, Tryz.ntmps67
  go_wp2
  go_ret
  exact ⟨rfl, rfl⟩
/-- What the iterator stands on. -/
structure Base (P0 P1 T bb off c : Nat) (l : List Bd) (Bl Bt : Nat) (W : World) : Prop where
  st : Stand (XQ P0 P1 T) bb off c l Bl W
  fn : Boxed W Bt 121 (takeV T)
  fx : ¬ XQ P0 P1 T W Bt
theorem Base.next {P0 P1 T bb off c Bl Bt : Nat} {l : List Bd} {W W' : World} (h : Base P0 P1 T bb off c l Bl Bt W) (k : KeepsC (XQ P0 P1 T) W W') : Base P0 P1 T bb off c l Bl Bt W' :=
  ⟨h.st.next k, k.2.2 Bt _ h.fn rfl h.fx, h.fx⟩
theorem band_at {W : World} {bb off c : Nat} {l : List Bd} {v : Value} (h : ReadsD W v l) (hv : v = .slice (some ⟨bb, off, none⟩) l.length c) {k : Nat} {b : Bd} (hk : l[k]? = some b) :
    W.cell? ⟨bb, off + k * 3, none⟩ = some (.int .i64 b.t) ∧ W.cell? ⟨bb, off + k * 3 + 1, none⟩ = some (.int .i64 b.lo) ∧ W.cell? ⟨bb, off + k * 3 + 2, none⟩ = some (.int .i64 b.hi) := by
  obtain ⟨A, c', e, _, hr⟩ := h
  obtain ⟨b', off', e1, _, e3, e4, e5⟩ := hr k b hk
  rw [hv] at e
  cases e
  cases e1
  exact ⟨e3, e4, e5⟩
set_option maxRecDepth 100000 in
set_option maxHeartbeats 2000000 in
theorem doors1_turns (P0 P1 T : Nat) (hP : T ≠ P0 ∧ T ≠ P1) (l : List Bd) (hl : l.length ≤ 1000000) (hR : ∀ b ∈ l, BdOk b) (bb off c : Nat) (x0 : Dr) (hx0 : DrOk x0) (Bl Bt : Nat) (w : World)
    (hst : Base P0 P1 T bb off c l Bl Bt w) (hT : DrAt w T x0) :
    SeqTurns Fence.wide 8 Tryz.prog 90 #[.pointer (some ⟨Bl, 0, none⟩), .pointer (some ⟨Bt, 0, none⟩)] encD T (KeepsC (XP P0 P1)) (fun ys => ys = seqD 0 x0 l) (fun pre => pre <+: seqD 0 x0 l) w := by
  intro g J Jx W hW hJ hY h0
  have hst' : Base P0 P1 T bb off c l Bl Bt W := hst.next (KeepsC.of_lies hW)
  have hT' : DrAt W T x0 := hT.next hW
  clear hst hT hW
  refine callsIn_of_wp Tryz.func90 rfl trivial ?_ rfl
  simp only [Tryz.ntmps90, List.size_toArray, List.length_cons, List.length_nil, Nat.reduceAdd, Nat.reduceSub, Array.replicate_succ, Array.replicate_zero, List.push_toArray, List.append_toArray, List.nil_append, List.cons_append]
  have HY := Lib.hid hY
  have HJ := Lib.hid hJ
  have HR := Lib.hid hR
  have HP := Lib.hid hP
  clear hY hJ hR hP
  have hbl := hst'.st.box.cell
  obtain ⟨_, _, e', hcl, _⟩ := hst'.st.reads
  cases e'
  gi_wp2
  gi_loopw [8] (fun p wr => ∃ (k : Nat) (pre : List (Nat × Dr)) (x : Dr), p = .int .i64 k ∧ k ≤ l.length ∧ Hid (pre ++ seqD k x (l.drop k) = seqD 0 x0 l) ∧ J pre wr ∧ Hid (DrOk x) ∧ Hid (DrAt wr T x) ∧ Hid (Base P0 P1 T bb off c l Bl Bt wr))
    (fun p _ => l.length - (intOf p).toNat)
  case atStart => exact ⟨0, [], x0, rfl, by omega, Lib.hid (by simp), h0, Lib.hid hx0, Lib.hid hT', Lib.hid hst'⟩
  case round =>
    obtain ⟨k, pre, x, rfl, hkl, hp, hJ, hX, hTx, hSt⟩ := hrel
    clear h0 hst' hT' hbl hx0
    by_cases gk : k < l.length
    · obtain ⟨⟨t, a, d⟩, hx⟩ : ∃ s, l[k]? = some s := ⟨_, List.getElem?_eq_getElem gk⟩
      have i1 : (k : Int) < (l.length : Int) := by omega
      have i0 : (0 : Int) ≤ (k : Int) := by omega
      have hok := HR.out _ (List.mem_of_getElem? hx)
      have hdr := drop_of hx
      have hp2 := hp.out
      rw [hdr, seqD] at hp2
      have e1 : wrap64 ((k : Int) + 1) = (k : Int) + 1 := i64_keeps (by omega) (by omega)
      obtain ⟨c1, c2, c3⟩ := band_at hSt.out.st.reads rfl hx
      simp only at c1 c2 c3
      have hfn := hSt.out.fn.cell
      have hbb := hSt.out.st.low
      have hbt := hSt.out.fn.lt
      have hTl := hTx.out.lt
      obtain ⟨y, hy⟩ : ∃ y, y = stepD x ⟨t, a, d⟩ := ⟨_, rfl⟩
      have TK := Lib.hid (fun W' (hT : DrAt W' T x) => take_any T x ⟨t, a, d⟩ hX.out hok W' hT)
      have HYK := Lib.hid (step_ok hX.out hok)
      rw [← hy] at hp2 TK HYK
      have E : Hid ((pre ++ [((k + 1 : Nat), y)]) ++ seqD (k + 1) y (l.drop (k + 1)) = seqD 0 x0 l) := Lib.hid (by rw [List.append_assoc]; exact hp2)
      clear hp hp2 hdr hx hok hX hy
      gi_wp2_with fail
      refine ⟨trivial, ?_⟩
      have hb3 := below_alloc wr (.cells #[.int .i64 t, .int .i64 a, .int .i64 d] 46)
      refine (callsIn_wide.2 (TK.out _ (hTx.out.next hb3))).mono ?_
      rintro en w3 ⟨rfl, hN3, hX3⟩
      have hN := near_trans (Near.of hb3) hN3
      have hJ3 := HJ.out _ _ _ hJ hN
      have HST := Lib.hid (hSt.out.next (KeepsC.of_near hN))
      have HX3 := Lib.hid hX3
      obtain ⟨fn, tmps, assign, body, hyl, hR⟩ := HY.out pre ((k + 1 : Nat), y) w3 hJ3 ⟨_, E.out⟩
      simp only [encD, Int.natCast_add, Int.cast_ofNat_Int] at hyl
      clear hSt hJ hJ3 hb3 hN3 hX3 hN TK HY HJ hTx c1 c2 c3 hfn hbb hbt hTl
      gi_wp2
      refine hR.mono ?_
      rintro e W5 (⟨rfl, hJ5, hk5⟩ | ⟨rfl, hJx5⟩)
      · have HS5 := Lib.hid (HST.out.next (KeepsC.wider hk5))
        have HX5 := Lib.hid (HX3.out.keep hk5 (fun e => by rcases e with e | e; exact HP.out.1 e; exact HP.out.2 e))
        clear hk5 HST HX3
        gi_wp2
        go_roundw
        case rel => exact ⟨k + 1, _, y, rfl, gk, E, hJ5, HYK, HX5, HS5⟩
        case measure => simp [intOf]; omega
      · gi_wp2
        refine bodyPost_ret (results_none rfl _ _ _) rfl ?_
        exact ⟨⟨_, rfl⟩, .inr ⟨_, ⟨_, E.out⟩, hJx5⟩⟩
    · have hkk : k = l.length := by omega
      have e := hp.out
      rw [hkk, List.drop_length, seqD, List.append_nil] at e
      have E := Lib.hid e
      have i1 : ¬ (k : Int) < (l.length : Int) := by omega
      clear e hkk hp HY
      gi_wp2
      go_end0
      exact ⟨⟨_, rfl⟩, .inl (E.out ▸ hJ)⟩
end Go.Proofs.YtoephkglpbophaaGreat.P9
