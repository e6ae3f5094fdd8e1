/-
 The law SegFar: its row. Conditions: the row's own list.
-/
import Derived.Test.YtcfidimnbamnkaaGreatSgU
import Derived.Test.YtcfidimnbamnkaaGreatSgX
import Derived.Test.YtcfidimnbamnkaaGreatFaL
/-
 What the rows of layer 11 share: slices of points that are handed in. Conditions: those written at each fact.
-/
namespace Go.Proofs.YtcfidimnbamnkaaGreat.P11
open Go.ChangeShapes Go.WideShapes Go.ChangeAt Go.RowKit Go.Joins Go.Deep Go.Proofs.YtcfidimnbamnkaaGreat.P7

theorem cellsPoint : Tryz.prog.cellsOf 53 = 2 := by kernel_rfl
section
variable {H : Type} {enc : TypeId × Value → H} {w : World}
set_option maxRecDepth 100000 in
theorem point_pair {base n : Nat} {spare : Nat → Bool} {held : Bool} {c0 c1 : Value} {x : DataW H × List MemPlace} (h : DataW.trod enc Tryz.prog w base spare held n 53 [c0, c1] = some x) :
  ∃ t v : Int, c0 = .int .i64 t ∧ c1 = .int .i64 v ∧ I64 t ∧ I64 v := by
 obtain ⟨ys, m, _, _, _, hlen, hg⟩ := DataW.trod_struct Tryz.underlying53 h
 match ys, hlen with
 | [y0, y1], _ =>
  have k0 : DataW.trod enc Tryz.prog w base spare held m 2 [c0] = some y0 := hg 0 _ rfl
  have k1 : DataW.trod enc Tryz.prog w base spare held m 2 [c1] = some y1 := hg 1 _ rfl
  obtain ⟨a, e0, _, w0⟩ := DataW.trod_int Tryz.underlying2 k0
  obtain ⟨b, e1, _, w1⟩ := DataW.trod_int Tryz.underlying2 k1
  simp at e0 e1
  exact ⟨a, b, e0, e1, i64_wf.1 w0, i64_wf.1 w1⟩
set_option maxRecDepth 100000 in
theorem open_points {r : Reach} {b0 : Nat} {v : Value} {d : DataW H} {p : List MemPlace}
  (hv : Value.okWide Tryz.prog w r b0 35 v) (h : DataW.Trod enc Tryz.prog w 0 (fun _ => true) true 35 v d p) (hlt : ∀ x ∈ p, x.block < w.heap.size) :
  ∃ l : List (Int × Int), ReadsP w v l ∧ l.length ≤ 9223372036854775807 := by
 obtain ⟨a0, len0, cap0, rfl⟩ := okWide_slice Tryz.underlying35 hv
 obtain ⟨fuel, hf⟩ := h
 have hf : DataW.trod enc Tryz.prog w 0 (fun _ => true) true fuel 35 [.slice a0 len0 cap0] = some (d, p) := by simpa [Value.cells] using hf
 rcases open_slice Tryz.underlying35 hf with ⟨hcs, hx⟩ | ⟨a, len, cap, m, n, D, Pl, hcs, _, hl, hm, hmm, hx, hi⟩
 ·simp at hcs
  obtain ⟨rfl, rfl, rfl⟩ := hcs
  exact ⟨[], ⟨none, _, rfl, Nat.zero_le _, fun i s h => by simp at h⟩, by simp⟩
 ·simp at hcs
  obtain ⟨rfl, rfl, rfl⟩ := hcs
  simp only [if_true] at hmm
  subst hmm
  rw [cellsPoint] at hx hi
  have hp : p = _ := congrArg Prod.snd hx
  have each : ∀ i, ∃ s : Int × Int, i < m → w.cell? (a.add (i * 2)) = some (.int .i64 s.1) ∧ w.cell? ((a.add (i * 2)).add 1) = some (.int .i64 s.2) := by
   intro i
   by_cases g : i < m
   ·obtain ⟨cs', hc, ht'⟩ := hi i g
    obtain ⟨_, hcl, hat⟩ := World.cells?_some hc
    match cs', hcl with
    | [c0, c1], _ =>
     obtain ⟨x, y, rfl, rfl, _⟩ := point_pair ht'
     refine ⟨⟨x, y⟩, fun _ => ⟨?_, hat 1 (by omega)⟩⟩
     have := hat 0 (by omega)
     simpa [Addr.add] using this
   ·exact ⟨⟨0, 0⟩, fun h => absurd h g⟩
  obtain ⟨S, hS⟩ := Classical.axiomOfChoice each
  have hlen : ((List.range len0).map S).length = len0 := by simp
  refine ⟨(List.range len0).map S, ⟨some a, _, by rw [hlen], by rw [hlen]; omega, fun i s hs => ?_⟩, by rw [hlen]; unfold maxLen at hm; omega⟩
  have hil : i < len0 := by have := (List.getElem?_eq_some_iff.1 hs).1; rw [hlen] at this; exact this
  rw [List.getElem?_map, List.getElem?_range hil] at hs
  injection hs with hs
  subst hs
  obtain ⟨c0, c1⟩ := hS i (by omega)
  obtain ⟨c00, _⟩ := hS 0 (by omega)
  have sp : a.spot = none := by simpa [Addr.add] using World.cell?_spot c00
  obtain ⟨b, off, sq⟩ := a
  simp only at sp
  subst sp
  refine ⟨b, off, rfl, hlt (.cell b off) (by rw [hp]; refine List.mem_append_left _ ?_; simp only [MemPlace.row, List.mem_map, List.mem_range]; exact ⟨0, by omega, by simp⟩), ?_, ?_⟩
  ·by_cases g0 : i = 0
   ·subst g0; simpa [Addr.add] using c0
   ·have g1 : ¬ i * 2 = 0 := by omega
    simpa [Addr.add, g1] using c0
  ·by_cases g0 : i = 0
   ·subst g0; simpa [Addr.add] using c1
   ·have g1 : ¬ i * 2 = 0 := by omega
    simpa [Addr.add, g1] using c1
end
end Go.Proofs.YtcfidimnbamnkaaGreat.P11

namespace Go.Proofs.YtcfidimnbamnkaaGreat.segFar
open Go.ChangeShapes Go.WideShapes Go.ChangeAt Go.RowKit Go.Joins Go.Proofs.YtcfidimnbamnkaaGreat.P11

set_option maxRecDepth 100000 in
theorem contract (H : Type) (enc : TypeId × Value → H) (W : World) (base : Nat) (args : Array Value) (ds gs : List (DataW H)) (before : List MemPlace)
  (hval : ∀ (j : Nat) t v, Tryz.f7.params[j]? = some t → args[j]? = some v → Value.okWide Tryz.prog W .any base t v)
  (hW : DataW.Whole enc Tryz.prog Tryz.f7.params.toList Rows.segFarSpec.vars false W args.toList ds gs before) :
  Calls Tryz.prog 7 args W fun e W' => ∃ v, e = .returned v ∧ Rows.segFarSpec.post enc Tryz.prog Tryz.f7 false true false false W args v W' := by
 have hW' := hW
 obtain ⟨p, q, hA0, hV, rfl, hfz, hnd⟩ := hW
 have hA : DataW.TrodAll enc Tryz.prog W 0 (fun _ => true) true Tryz.f7.params.toList args.toList ds p := hA0
 rw [Tryz.params7] at hA hval
 have hA2 := hA
 obtain ⟨v0, vs0, d0, ds0, p0, q0, hargs, rfl, rfl, t0, r0⟩ := trodAll_cons hA
 obtain ⟨v1, vs1, d1, ds1, p1, q1, rfl, rfl, rfl, t1, r1⟩ := trodAll_cons r0
 obtain ⟨rfl, rfl, rfl⟩ := trodAll_nil r1
 obtain rfl : args = #[v0, v1] := by cases args; simp_all
 obtain ⟨rfl, rfl⟩ := trodVars_none hV
 have hlt : ∀ x ∈ p0 ++ (p1 ++ []), x.block < W.heap.size := fun x hx => by simpa using hW'.lt x (by simpa using hx)
 obtain ⟨s0, rv0, uv0, rfl, rd0, ru0, n0, m0, w0⟩ := open_seg (hval 0 27 v0 rfl rfl) t0 (fun x hx => hlt x (by simp [hx]))
 obtain ⟨l1, rd1, n1⟩ := open_points (hval 1 35 v1 rfl rfl) t1 (fun x hx => hlt x (by simp [hx]))
 clear hA0 hA
 simp only [List.append_nil] at hW'
 refine (farLaw_any s0 n0 m0 l1 n1 rv0 uv0 v1 W rd0 ru0 rd1).mono fun e W' ⟨he, hb⟩ => ?_
 subst he
 exact ⟨_, rfl, post_of_below (pv := []) hW' (fun _ _ _ => trodAll_cons_mk (shut_bool Tryz.underlying4 _) trodAll_mk0)
  (fun sp hsp => trodAll_stays hb (by intro t ht; simp at ht; rcases ht with rfl | rfl <;> exact ⟨by kernel_rfl, of_decide_eq_true (by kernel_rfl)⟩) hA2 hlt sp (fun x hx => hsp x (by first | (simp at hx; done) | simpa using hx))) (fun _ _ => rfl) (by simp) hb (ok_one (by kernel_rfl) rfl (okWide_bool_mk Tryz.underlying4 _))⟩

def atArgs : Array Value := #[.agg #[.int .i64 0, .slice none 0 0, .int .i64 0, .int .i64 0, .int .i64 0, .int .i64 0, .slice none 0 0, .int .i64 0], .slice none 0 0]
theorem reads (os : Os) {H : Type} (enc : TypeId × Value → H) : ∃ places, DataW.whole enc Tryz.prog ((laidWorld os).forCall (fun _ _ => 0) ⟨#[], atArgs, []⟩).memory Tryz.f7.params.toList Rows.segFarSpec.vars false atArgs.toList 8 =
  some ([.agg [.lit (.int .i64 0), .nil, .agg [.lit (.int .i64 0), .lit (.int .i64 0), .lit (.int .i64 0), .lit (.int .i64 0)], .nil, .lit (.int .i64 0)], .nil], [], places) :=
 ⟨[], by kernel_rfl⟩

set_option maxRecDepth 100000 in
theorem lifted (os : Os) (started : os.Started) (H : Type) (enc : TypeId × Value → H) (F : Stop.Interp) :
  ReturnsInHanded {} Tryz.checked os 7 .any ((OpenSpec.ofChange Rows.segFarSpec).preRow enc Tryz.prog Tryz.f7 Rows.segFarRow.domain false Rows.segFarRow.laid) (((OpenSpec.ofChange Rows.segFarSpec).at F).post enc Tryz.prog Tryz.f7 false true false false) := by
 obtain ⟨places, hx⟩ := reads os enc
 refine returnsInHanded_of_row (C := Tryz.checked) (s := OpenSpec.ofChange Rows.segFarSpec) own started (by kernel_rfl) Tryz.func7
  (witness_row_at (enc := enc) (C := Tryz.checked) false (laidWorld os) atArgs (World.laidAll_os _ _ _) (by kernel_rfl) (by kernel_rfl) (by kernel_rfl)
   (OpenSpec.preRow_of_cond 8 hx (by kernel_rfl) (fun k hk => by cases hk) (by kernel_rfl) (laid_met os _))) ?_
 intro W base args ds gs before hval hW _ _ _ _ _ _
 exact contract H enc W base args ds gs before hval hW

theorem said : Rows.SegFarSaid :=
 OpenClaim.holds_of_cond 7 Tryz.f7 rfl rfl rfl rfl rfl rfl rfl ⟨rfl, rfl, rfl, rfl, rfl⟩ rfl rfl rfl rfl rfl (by kernel_rfl) Tryz.func7 (by kernel_rfl)
  (of_decide_eq_true (by kernel_rfl)) (by unfold Func.isWrapper; first | (rw [if_pos (by decide +kernel)]; kernel_rfl) | (rw [if_neg (by decide +kernel)]; exact ⟨rfl, rfl⟩))
  (fun os started H enc _ F => by rw [OpenClaim.pre_eq_preRow]; exact lifted os started H enc F)
end Go.Proofs.YtcfidimnbamnkaaGreat.segFar
